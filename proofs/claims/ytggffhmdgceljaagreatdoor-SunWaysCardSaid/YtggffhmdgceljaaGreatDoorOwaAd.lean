/-
  Contract of Quotient for a divisor below 0; the fixed example of Hit.
-/
import Derived.Test.YtggffhmdgceljaaGreatDoorRows
import Derived.WalkKit
import Derived.WalkSpells
import Derived.WalkLawsBesides
import Derived.Lib.Hide
import Derived.BigQuiet
import Derived.Deep.QuietTactic
import Derived.Handy
import Derived.Deep.RegionHeld3
import Derived.Deep.RegionWith
import Derived.StillTailTactics
import Derived.RangeFuncNested
import Derived.RangeFuncBound
import Derived.RangeFuncCalls
import Derived.RangeFuncLeaves
import Derived.RangeFuncBox
import Derived.Shelf.Abstract
import Derived.Shelf.RegionOpen
import Derived.OwnWalkIn
import Derived.TacticsInMore
import Derived.LoopNIn
import Derived.LoopIn
import Derived.Maps.AppendAt
import Derived.Test.YtggffhmdgceljaaGreatDoorProg
import Derived.Laws.FloatArith
import Derived.Laws.BitsAllLaws
import Derived.Deep.DeepCutAuto
import Derived.Stop.BytesEq
import Derived.Deep.MidRow
import Derived.Laws.CopyRow
import Derived.WalkMore
import Derived.Deep.DrawnRows
import Derived.Deep.CutBlock
import Derived.Orders
import Derived.LoopTactic
import Derived.Laws.StructEq
import Derived.Deep.RegionLaw
import Derived.RegionTactic
import Derived.StillTail
import Derived.Laws.RangeString
import Derived.Laws.RangeAny
import Derived.Shelf.Strings.Builder1
import Derived.Shelf.Strings.OnBuilder
import Derived.Shelf.LaysM
import Derived.Shelf.Strconv.Itoa3
import Derived.Lib.AppendIntMem
import Derived.Lib.ItoaLen
import Derived.RowKit
import Derived.Test.YtggffhmdgceljaaGreatDoorOwaWn
import Derived.Test.YtggffhmdgceljaaGreatDoorOwaXe
import Derived.Test.YtggffhmdgceljaaGreatDoorOwaWi
import Derived.Test.YtggffhmdgceljaaGreatDoorOwaIb
import Derived.Test.YtggffhmdgceljaaGreatDoorOwaIl
import Derived.Test.YtggffhmdgceljaaGreatDoorOwaId
import Derived.Test.YtggffhmdgceljaaGreatDoorOwaIi
import Derived.Test.YtggffhmdgceljaaGreatDoorOwaIg
import Derived.Test.YtggffhmdgceljaaGreatDoorOwaNe
import Derived.Test.YtggffhmdgceljaaGreatDoorOwaNc
import Derived.Test.YtggffhmdgceljaaGreatDoorOwaNi
import Derived.Test.YtggffhmdgceljaaGreatDoorOwaNv
import Derived.Test.YtggffhmdgceljaaGreatDoorOwaWo
import Derived.Test.YtggffhmdgceljaaGreatDoorOwaNo
import Derived.Test.YtggffhmdgceljaaGreatDoorOwaNy
import Derived.Test.YtggffhmdgceljaaGreatDoorCards
import Derived.Test.YtggffhmdgceljaaGreatDoorTie
import Derived.ProofKit
import Derived.OpenShut
import Derived.Lib.SmallJoins
import Derived.Laws.Cover2
import Derived.Carry
import Derived.SizedLaws
import Derived.Deep.Slices
import Derived.Deep.DeepHandedRow
import Derived.Lib.LaidTab
import Derived.Lay
import Derived.Test.YtggffhmdgceljaaGreatDoorOwaAf
import Derived.Test.YtggffhmdgceljaaGreatDoorOwaAh
namespace Go.Proofs.YtggffhmdgceljaaGreatDoor
open Go.RowKit
set_option linter.unusedVariables false
set_option linter.unusedSimpArgs false

set_option maxRecDepth 100000 in
set_option maxHeartbeats 6400000 in
theorem quotient_neg (a b : Int) (ha : Mid a) (hb : Mid b) (h0 : b < 0) (w : World) :
    Calls Tryz.prog 76 #[.int .i64 a, .int .i64 b] w fun e w' => e = .returned (.agg #[.int .i64 (a.tdiv (-(Int.gcd a b : Int))), .int .i64 (b.tdiv (-(Int.gcd a b : Int)))]) ∧ Below w.heap.size w w' := by
  obtain ⟨g, hg⟩ : ∃ g : Int, (Int.gcd a b : Int) = g := ⟨_, rfl⟩
  have hgp : 0 < g := by
    rw [← hg]
    have : Int.gcd a b ≠ 0 := fun h => by rw [Int.gcd_eq_zero_iff] at h; omega
    omega
  have hgm : Mid g := by rw [← hg]; exact gcd_mid ha hb
  rw [hg]
  have hgl := hgm.out
  obtain ⟨m, hm⟩ : ∃ m : Int, -g = m := ⟨_, rfl⟩
  rw [hm]
  have wn1 : IntKind.i64.wrap (-g) = m := by rw [← hm]; exact IntWalk.i64_in _ ⟨by omega, by omega⟩
  have wn2 : IntKind.i64.wrap (g * -1) = m := by rw [show g * -1 = -g by omega]; exact wn1
  obtain ⟨q1, hq1⟩ : ∃ q1 : Int, a.tdiv m = q1 := ⟨_, rfl⟩
  obtain ⟨q2, hq2⟩ : ∃ q2 : Int, b.tdiv m = q2 := ⟨_, rfl⟩
  have KD : Hid (∀ w1 : World, Calls Tryz.prog 101 #[.int .i64 a, .int .i64 b] w1 fun e w' => e = .returned (.int .i64 g) ∧ Below w1.heap.size w1 w') := Lib.hid fun w1 => by
    have h := divisor_any a b ha.out hb.out w1
    rwa [hg] at h
  have KS : Hid (∀ w1 : World, Calls Tryz.prog 75 #[.int .i64 b] w1 fun e w' => e = .returned (.int .i64 (-1)) ∧ w1 = w') := Lib.hid fun w1 => by
    have h := sign_any b w1
    rwa [show sgnI b = -1 by unfold sgnI; rw [if_neg (by omega), if_pos h0]] at h
  have b1 : IntKind.i64.wrap q1 = q1 := by
    have := tdiv_le a m; have := ha.out; rw [hq1] at *; exact IntWalk.i64_in _ ⟨by omega, by omega⟩
  have b2 : IntKind.i64.wrap q2 = q2 := by
    have := tdiv_le b m; have := hb.out; rw [hq2] at *; exact IntWalk.i64_in _ ⟨by omega, by omega⟩
  rw [hq1, hq2]
  have n0 : ¬ (m = 0) := by omega
  have n1 : (m == 0) = false := by simp; omega
  clear ha hb h0 hg hgm hm hgp hgl
  obtain ⟨W0, hW0⟩ : ∃ W0, (w.alloc (.cells #[.int .i64 0, .int .i64 0] 56)) = W0 := ⟨_, rfl⟩
  have K0 : Hid (Kp w W0 [(w.heap.size, (.cells #[.int .i64 0, .int .i64 0] 56 (0, 0)))]) := Lib.hid (by
    rw [← hW0]
    have k := ((Kp.none w).alloc (.cells #[.int .i64 0, .int .i64 0] 56))
    simpa using k)
  go_enter Tryz.func76, Tryz.ntmps76
  go_upto_region 2 with (first
    | (go_at_call 101; (with_reducible refine (KD.out _).mono ?_); rintro e w1 ⟨rfl, hb⟩; have K1 := Lib.hid (Kp.call (show Kp w _ [(w.heap.size, (.cells #[.int .i64 0, .int .i64 0] 56 (0, 0)))] by first | (rw [hW0]; exact K0.out) | exact K0.out) hb); clear hb)
    | (go_at_call 75; (with_reducible refine (KS.out _).mono ?_); rintro e w2 ⟨rfl, rfl⟩))
  apply wp_region_gives 7 (fun w' => Blw w1.heap.size w1 w') [.int .i64 a, .int .i64 m, .int .i64 q1, .int .i64 b, .int .i64 m, .int .i64 q2, .agg #[.int .i64 q1, .int .i64 q2]] (by kernel_rfl) (by kernel_rfl) (by kernel_rfl) (show Below _ _ _ from (Below.refl _ _).drew)
  case haF =>
    simp [putJs, Act.put, List.range, List.range.loop]
    exact rfl
  case h =>
    simp only [List.take_succ_cons, List.take_zero, GivesL]
    clear K1
    refine ⟨?_, ?_, ?_, ?_, ?_, ?_, ?_, trivial⟩
    all_goals
      intro w1 hw1
      unfold Oper.wp
      simp only [execOp]
      go_simp <;> first
        | exact ⟨rfl, hw1⟩
  case ht =>
    intro w5 hw5
    have K5 := Lib.hid (K1.out.call (show Below _ _ _ from hw5))
    clear hw5 K1
    simp only [List.drop_succ_cons, List.drop_zero]
    obtain ⟨o0, o1⟩ := cells2 (K5.out.2 _ (.head _))
    have oz : ∀ j, w5.frozen? ⟨w.heap.size, j, none⟩ = false := fun j => frozen_of_row w5 (w.heap.size) j _ _ (K5.out.2 _ (.head _))
    have hb5 := Lib.hid (Kp.below K5.out)
    clear K5
    go_wp2_with fail
    refine bodyPost_ret (v := .agg #[.int .i64 q1, .int .i64 q2]) (by simp [results, Tryz.results76, go_sem, o0, o1]) rfl ⟨rfl, ?_⟩
    exact (hb5.out.setCell (Nat.le_refl _) _).setCell (Nat.le_refl _) _

theorem ex_hit (w : World) : Calls Tryz.prog 56 #[.agg #[.int .i64 0, .int .i64 0, .int .i64 10], .agg #[.int .i64 1, .int .i64 0, .int .i64 (-1)], .agg #[.int .i64 0, .int .i64 0, .int .i64 4], .agg #[.int .i64 0, .int .i64 0, .int .i64 1]] w fun e w' => e = .returned (.tuple #[.agg #[.int .i64 6, .int .i64 1], .int .i64 0]) ∧ Below w.heap.size w w' := by
  have f : ∀ {a b : Int}, (-100 ≤ a ∧ a ≤ 100) → (-100 ≤ b ∧ b ≤ 100) → Fit (a * b) := fun h k => fit_abs h k (by omega)
  have p : ∀ {a : Int}, (-100 ≤ a ∧ a ≤ 100) → Fit a := fun h => by unfold Fit; omega
  refine hit_ok 0 0 10 1 0 (-1) 0 0 4 0 0 1 (-1) 0 0 (-10) 0 0 (-6) (-6) 6 1 (by decide) (by decide) (by decide) (by decide) w (fun w1 => ?_) (by decide) (fun w1 => ?_) (fun w1 => ?_) (fun w1 => ?_) (fun w1 => ?_)
  · exact dot_any 1 0 (-1) 0 0 1 (f (by omega) (by omega)) (f (by omega) (by omega)) (f (by omega) (by omega)) w1
  · exact times_any 0 0 10 (-1) (f (by omega) (by omega)) (f (by omega) (by omega)) (f (by omega) (by omega)) w1
  · exact partsPlus_any 0 0 4 0 0 (-10) (p (by omega)) (p (by omega)) (p (by omega)) w1
  · exact dot_any 0 0 (-6) 0 0 1 (f (by omega) (by omega)) (f (by omega) (by omega)) (f (by omega) (by omega)) w1
  · have h := quotient_neg (-6) (-1) (by unfold Mid; omega) (by unfold Mid; omega) (by decide) w1
    rwa [show (-6 : Int).tdiv (-(Int.gcd (-6) (-1) : Int)) = 6 by decide, show (-1 : Int).tdiv (-(Int.gcd (-6) (-1) : Int)) = 1 by decide] at h
end Go.Proofs.YtggffhmdgceljaaGreatDoor

/-
  What the rows of chapter 2 share: arguments that come in, opened; the tables that the program reads; a world for the witness.
-/
namespace Go.Proofs.YtggffhmdgceljaaGreatDoor
open Go.ChangeShapes Go.WideShapes Go.ChangeAt Go.RowKit Go.Joins Go.Deep
set_option linter.unusedVariables false
set_option linter.unusedSimpArgs false
set_option maxRecDepth 100000

theorem ownKnobOff : ownKnob Tryz.prog.godebug = none := by kernel_rfl
theorem laidOut : laidOutB Tryz.prog = true := by kernel_rfl
theorem cellsVec : Tryz.prog.cellsOf 23 = 3 := by kernel_rfl

theorem gTab : Tryz.prog.globalNamed "internal/strconv.uint64pow10" = some 2 := by kernel_rfl
theorem gTabType : (Tryz.prog.globals[2]?).map (·.type) = some 197 := by kernel_rfl
theorem cellsTab : Tryz.prog.cellsOf 197 = 20 := by kernel_rfl
theorem cellsU : Tryz.prog.cellsOf 191 = 1 := by kernel_rfl
theorem gAxes : Tryz.prog.globalNamed "spillage/sun.axes" = some 0 := by kernel_rfl
theorem gAxesType : (Tryz.prog.globals[0]?).map (·.type) = some 132 := by kernel_rfl
theorem cellsAxes : Tryz.prog.cellsOf 132 = 9 := by kernel_rfl
theorem cellsParts : Tryz.prog.cellsOf 94 = 3 := by kernel_rfl
theorem cellsInt1 : Tryz.prog.cellsOf 3 = 1 := by kernel_rfl
def laidSun : List (String × DataW Unit) := Rows.sunConesRow.laid
theorem tabAt_of {W : World} (h : laidMetH Tryz.prog laidSun W) : TabAt W := by
  have h2 := h.filter (fun x => x.1 == "internal/strconv.uint64pow10")
  have e : laidSun.filter (fun x => x.1 == "internal/strconv.uint64pow10") = [("internal/strconv.uint64pow10", Lib.tabData .u64 Lib.pow10Tab)] := by kernel_rfl
  rw [e] at h2
  exact Lib.tabIs_of_head (rest := []) gTab gTabType Tryz.underlying197 Tryz.underlying191 cellsU cellsTab h2

def litI {H : Type} (z : Int) : DataW H := .lit (.int .i64 z)
theorem axesIn_of {W : World} (h0 : laidMetH Tryz.prog laidSun W) : AxesIn W := by
  have h2 := h0.filter (fun x => x.1 == "spillage/sun.axes")
  have e : laidSun.filter (fun x => x.1 == "spillage/sun.axes") = [("spillage/sun.axes", .agg [.agg [litI 1, litI 0, litI 0], .agg [litI 0, litI 1, litI 0], .agg [litI 0, litI 0, litI 1]])] := by kernel_rfl
  rw [e] at h2
  obtain ⟨ps, ⟨g', t', cs, fuel, p, q, hg', ht', hvar, hd, _, _⟩, _⟩ := h2
  obtain rfl := Option.some.inj (gAxes.symm.trans hg')
  obtain rfl := Option.some.inj (gAxesType.symm.trans ht')
  obtain ⟨xs, m, _, hx, hlen, hl, hi⟩ := DataW.trod_array Tryz.underlying132 hd
  rw [cellsAxes] at hlen
  rw [cellsParts] at hi
  have hx1 := congrArg Prod.fst hx
  have key : ∀ (i : Nat) (a b c : Int), i < 3 → (xs.map (·.1))[i]? = some (.agg [litI a, litI b, litI c]) → cs[i * 3]? = some (.int .i64 a) ∧ cs[i * 3 + 1]? = some (.int .i64 b) ∧ cs[i * 3 + 2]? = some (.int .i64 c) := by
    intro i a b c hlt hc
    have h := hi i hlt
    obtain ⟨y, hy⟩ : ∃ y, xs[i]? = some y := ⟨_, List.getElem?_eq_getElem (by omega)⟩
    rw [hy] at h
    rw [List.getElem?_map, hy] at hc
    have hy1 : y.1 = .agg [litI a, litI b, litI c] := by simpa using hc
    obtain ⟨ys, k, _, ey, _, hl2, hj⟩ := DataW.trod_array Tryz.underlying94 h
    rw [cellsInt1] at hj
    obtain ⟨y0, y1, y2, rfl⟩ : ∃ y0 y1 y2, ys = [y0, y1, y2] := by
      match ys, hl2 with
      | [y0, y1, y2], _ => exact ⟨y0, y1, y2, rfl⟩
    have k0 := hj 0 (by omega)
    have k1 := hj 1 (by omega)
    have k2 := hj 2 (by omega)
    simp only [List.getElem?_cons_zero, List.getElem?_cons_succ] at k0 k1 k2
    obtain ⟨A, e0, f0, _⟩ := DataW.trod_int Tryz.underlying3 k0
    obtain ⟨B, e2, f1, _⟩ := DataW.trod_int Tryz.underlying3 k1
    obtain ⟨C, e3, f2, _⟩ := DataW.trod_int Tryz.underlying3 k2
    subst ey f0 f1 f2
    simp only [litI, DataW.agg.injEq, List.cons.injEq, DataW.lit.injEq, Lit.int.injEq, true_and, and_true] at hy1
    obtain ⟨rfl, rfl, rfl⟩ := hy1
    have g0 := congrArg (·[0]?) e0
    have g1 := congrArg (·[0]?) e2
    have g2 := congrArg (·[0]?) e3
    simp [List.getElem?_take, List.getElem?_drop] at g0 g1 g2
    refine ⟨?_, ?_, ?_⟩
    · simpa using g0
    · simpa using g1
    · simpa using g2
  have hx2 : xs.map (·.1) = [.agg [litI 1, litI 0, litI 0], .agg [litI 0, litI 1, litI 0], .agg [litI 0, litI 0, litI 1]] := by
    simpa using hx1.symm
  obtain ⟨a0, a1, a2⟩ := key 0 1 0 0 (by omega) (by rw [hx2]; rfl)
  obtain ⟨b0, b1, b2⟩ := key 1 0 1 0 (by omega) (by rw [hx2]; rfl)
  obtain ⟨c0, c1, c2⟩ := key 2 0 0 1 (by omega) (by rw [hx2]; rfl)
  have hc : ∀ k, k < 9 → W.cell? ⟨0, k, none⟩ = some (.int .i64 (([1, 0, 0, 0, 1, 0, 0, 0, 1] : List Int)[k]?.getD 0)) := by
    intro k hk
    rw [World.var?_cell gAxes hvar k]
    match k, hk with
    | 0, _ => simpa using a0
    | 1, _ => simpa using a1
    | 2, _ => simpa using a2
    | 3, _ => simpa using b0
    | 4, _ => simpa using b1
    | 5, _ => simpa using b2
    | 6, _ => simpa using c0
    | 7, _ => simpa using c1
    | 8, _ => simpa using c2
  exact ⟨hc, World.block_lt_of_cell? _ _ (hc 0 (by omega))⟩

/-- A world for the witness: the settled one, the listed variables holding what the list says. -/
noncomputable def laidWorld (os : Os) : World := World.laidAll Tryz.prog os laidSun
theorem laid_met (os : Os) (args : Array Value) : laidMet Tryz.prog laidSun ((laidWorld os).forCall (fun _ _ => 0) ⟨#[], args, []⟩).memory :=
  laidMet_laidAll args (by kernel_rfl) (by kernel_rfl)
end Go.Proofs.YtggffhmdgceljaaGreatDoor

/-
  The walk of SunWays: what is left.
-/
namespace Go.Proofs.YtggffhmdgceljaaGreatDoor
open Go.RowKit
set_option linter.unusedVariables false
set_option linter.unusedSimpArgs false
noncomputable def waysOf (n : Nat) : Code := ((Tryz.f5.body.bind (sunTail n)).getD .skip)
set_option maxRecDepth 1000000 in
/-- What is still to be shown where the walk stands ahead of region 3. -/
def SWy3 (w : World) (x y z num den a b c d i f p q : Int) : Prop :=
  ∀ (wx : World) (Bc Bv Bn : Nat) (u0 u1 u2 u7 u8 u9 u10 u11 u12 u13 u14 u15 u16 u17 u18 u19 u20 u21 u22 u23 u24 u25 u26 u27 u28 u29 u30 u31 u32 u33 u34 u35 u36 u37 u38 u39 u40 u41 u42 u43 u44 u45 u46 u47 u48 u49 u50 u51 u52 u53 u54 u55 u56 u57 u58 u59 u60 u61 u62 u63 u64 u65 u66 u67 u68 u69 u70 u71 u72 u73 u74 u75 u76 u77 u78 u79 u80 u81 u82 u83 u84 u85 u86 u87 u88 u89 u90 u91 u92 u93 u94 u95 u96 u97 u98 u99 u100 u101 u102 u103 u104 u105 u106 u107 u108 u109 u110 u111 u112 u113 u114 u115 u116 u117 u118 u119 u120 u121 u122 u123 u124 u125 u126 u127 u128 u129 u130 u131 u132 u133 u134 u135 u136 u137 u138 u139 u140 u141 u142 u143 u144 u145 u146 u147 u148 u149 u150 u151 u152 u153 u154 u155 u156 u157 u158 u159 u160 u161 u162 u163 u164 u165 u166 u167 u168 u169 u170 u171 u172 u173 u174 u175 u176 u177 u178 u179 u180 u181 u182 u183 u184 u185 u186 u187 u188 u189 u190 u191 u192 u193 u194 u195 u196 u197 u198 u199 u200 u201 u202 u203 u204 u205 u206 u207 u208 u209 u210 u211 u212 u213 u214 u215 u216 u217 u218 u219 u220 u221 u222 u223 u224 u225 u226 u227 u228 u229 u230 u231 u232 u233 u234 u235 u236 u237 u238 u239 u240 u241 u242 u243 u244 u245 u246 u247 u248 u249 u250 u251 u252 u253 u254 u255 u256 u257 u258 u259 u260 u261 u262 u263 u264 u265 u266 u267 u268 u269 u270 u271 u272 u273 u274 u275 : Value), Kp w wx [(Bn, (.cells #[.int .u8 p, .int .u8 q] 60 (0, 0))), (Bv, (.cells #[.int .i64 a, .int .i64 b, .int .i64 c, .int .i64 d, .int .i64 i, .int .i64 f] 46 (0, 0))), (Bc, (.cells #[.int .i64 x, .int .i64 y, .int .i64 z, .int .i64 num, .int .i64 den] 25 (0, 0)))] → Code.wp Tryz.prog (waysOf 3) (bodyPost Tryz.prog Tryz.f5 (SunPost w)) ⟨#[u0, u1, u2, .pointer (some ⟨Bc, 0, none⟩), .pointer (some ⟨Bv, 0, none⟩), .pointer (some ⟨Bn, 0, none⟩), .bool false, u7, u8, u9, u10, u11, u12, u13, u14, u15, u16, u17, u18, u19, u20, u21, u22, u23, u24, u25, u26, u27, u28, u29, u30, u31, u32, u33, u34, u35, u36, u37, u38, u39, u40, u41, u42, u43, u44, u45, u46, u47, u48, u49, u50, u51, u52, u53, u54, u55, u56, u57, u58, u59, u60, u61, u62, u63, u64, u65, u66, u67, u68, u69, u70, u71, u72, u73, u74, u75, u76, u77, u78, u79, u80, u81, u82, u83, u84, u85, u86, u87, u88, u89, u90, u91, u92, u93, u94, u95, u96, u97, u98, u99, u100, u101, u102, u103, u104, u105, u106, u107, u108, u109, u110, u111, u112, u113, u114, u115, u116, u117, u118, u119, u120, u121, u122, u123, u124, u125, u126, u127, u128, u129, u130, u131, u132, u133, u134, u135, u136, u137, u138, u139, u140, u141, u142, u143, u144, u145, u146, u147, u148, u149, u150, u151, u152, u153, u154, u155, u156, u157, u158, u159, u160, u161, u162, u163, u164, u165, u166, u167, u168, u169, u170, u171, u172, u173, u174, u175, u176, u177, u178, u179, u180, u181, u182, u183, u184, u185, u186, u187, u188, u189, u190, u191, u192, u193, u194, u195, u196, u197, u198, u199, u200, u201, u202, u203, u204, u205, u206, u207, u208, u209, u210, u211, u212, u213, u214, u215, u216, u217, u218, u219, u220, u221, u222, u223, u224, u225, u226, u227, u228, u229, u230, u231, u232, u233, u234, u235, u236, u237, u238, u239, u240, u241, u242, u243, u244, u245, u246, u247, u248, u249, u250, u251, u252, u253, u254, u255, u256, u257, u258, u259, u260, u261, u262, u263, u264, u265, u266, u267, u268, u269, u270, u271, u272, u273, u274, u275], []⟩ wx

set_option maxRecDepth 1000000 in
/-- What is still to be shown where the walk stands ahead of region 6. -/
def SWy6 (w : World) (x y z num den a b c d i f p q : Int) : Prop :=
  ∀ (wx : World) (Bc Bv Bn : Nat) (u0 u1 u2 u7 u8 u9 u10 u11 u12 u13 u14 u15 u16 u17 u18 u19 u20 u21 u22 u23 u24 u25 u26 u27 u28 u29 u30 u31 u32 u33 u34 u35 u36 u37 u38 u39 u40 u41 u42 u43 u44 u45 u46 u47 u48 u49 u50 u51 u52 u53 u54 u55 u56 u57 u58 u59 u60 u61 u62 u63 u64 u65 u66 u67 u68 u69 u70 u71 u72 u73 u74 u75 u76 u77 u78 u79 u80 u81 u82 u83 u84 u85 u86 u87 u88 u89 u90 u91 u92 u93 u94 u95 u96 u97 u98 u99 u100 u101 u102 u103 u104 u105 u106 u107 u108 u109 u110 u111 u112 u113 u114 u115 u116 u117 u118 u119 u120 u121 u122 u123 u124 u125 u126 u127 u128 u129 u130 u131 u132 u133 u134 u135 u136 u137 u138 u139 u140 u141 u142 u143 u144 u145 u146 u147 u148 u149 u150 u151 u152 u153 u154 u155 u156 u157 u158 u159 u160 u161 u162 u163 u164 u165 u166 u167 u168 u169 u170 u171 u172 u173 u174 u175 u176 u177 u178 u179 u180 u181 u182 u183 u184 u185 u186 u187 u188 u189 u190 u191 u192 u193 u194 u195 u196 u197 u198 u199 u200 u201 u202 u203 u204 u205 u206 u207 u208 u209 u210 u211 u212 u213 u214 u215 u216 u217 u218 u219 u220 u221 u222 u223 u224 u225 u226 u227 u228 u229 u230 u231 u232 u233 u234 u235 u236 u237 u238 u239 u240 u241 u242 u243 u244 u245 u246 u247 u248 u249 u250 u251 u252 u253 u254 u255 u256 u257 u258 u259 u260 u261 u262 u263 u264 u265 u266 u267 u268 u269 u270 u271 u272 u273 u274 u275 : Value), Kp w wx [(Bn, (.cells #[.int .u8 p, .int .u8 q] 60 (0, 0))), (Bv, (.cells #[.int .i64 a, .int .i64 b, .int .i64 c, .int .i64 d, .int .i64 i, .int .i64 f] 46 (0, 0))), (Bc, (.cells #[.int .i64 x, .int .i64 y, .int .i64 z, .int .i64 num, .int .i64 den] 25 (0, 0)))] → Code.wp Tryz.prog (waysOf 6) (bodyPost Tryz.prog Tryz.f5 (SunPost w)) ⟨#[u0, u1, u2, .pointer (some ⟨Bc, 0, none⟩), .pointer (some ⟨Bv, 0, none⟩), .pointer (some ⟨Bn, 0, none⟩), .bool false, u7, u8, u9, u10, u11, u12, u13, u14, u15, u16, u17, u18, u19, u20, u21, u22, u23, u24, u25, u26, u27, u28, u29, u30, u31, u32, u33, u34, u35, u36, u37, u38, u39, u40, u41, u42, u43, u44, u45, u46, u47, u48, u49, u50, u51, u52, u53, u54, u55, u56, u57, u58, u59, u60, u61, u62, u63, u64, u65, u66, u67, u68, u69, u70, u71, u72, u73, u74, u75, u76, u77, u78, u79, u80, u81, u82, u83, u84, u85, u86, u87, u88, u89, u90, u91, u92, u93, u94, u95, u96, u97, u98, u99, u100, u101, u102, u103, u104, u105, u106, u107, u108, u109, u110, u111, u112, u113, u114, u115, u116, u117, u118, u119, u120, u121, u122, u123, u124, u125, u126, u127, u128, u129, u130, u131, u132, u133, u134, u135, u136, u137, u138, u139, u140, u141, u142, u143, u144, u145, u146, u147, u148, u149, u150, u151, u152, u153, u154, u155, u156, u157, u158, u159, u160, u161, u162, u163, u164, u165, u166, u167, u168, u169, u170, u171, u172, u173, u174, u175, u176, u177, u178, u179, u180, u181, u182, u183, u184, u185, u186, u187, u188, u189, u190, u191, u192, u193, u194, u195, u196, u197, u198, u199, u200, u201, u202, u203, u204, u205, u206, u207, u208, u209, u210, u211, u212, u213, u214, u215, u216, u217, u218, u219, u220, u221, u222, u223, u224, u225, u226, u227, u228, u229, u230, u231, u232, u233, u234, u235, u236, u237, u238, u239, u240, u241, u242, u243, u244, u245, u246, u247, u248, u249, u250, u251, u252, u253, u254, u255, u256, u257, u258, u259, u260, u261, u262, u263, u264, u265, u266, u267, u268, u269, u270, u271, u272, u273, u274, u275], []⟩ wx

set_option maxRecDepth 1000000 in
/-- What is still to be shown where the walk stands ahead of region 11. -/
def SWy11 (w : World) (x y z num den a b c d i f p q : Int) (m wd : Bool) : Prop :=
  ∀ (wx : World) (Bc Bv Bn : Nat) (u0 u1 u2 u7 u8 u13 u16 u17 u18 u19 u20 u21 u22 u23 u24 u25 u26 u27 u28 u29 u30 u31 u32 u33 u34 u35 u36 u37 u38 u39 u40 u41 u42 u43 u44 u45 u46 u47 u48 u49 u50 u51 u52 u53 u54 u55 u56 u57 u58 u59 u60 u61 u62 u63 u64 u65 u66 u67 u68 u69 u70 u71 u72 u73 u74 u75 u76 u77 u78 u79 u80 u81 u82 u83 u84 u85 u86 u87 u88 u89 u90 u91 u92 u93 u94 u95 u96 u97 u98 u99 u100 u101 u102 u103 u104 u105 u106 u107 u108 u109 u110 u111 u112 u113 u114 u115 u116 u117 u118 u119 u120 u121 u122 u123 u124 u125 u126 u127 u128 u129 u130 u131 u132 u133 u134 u135 u136 u137 u138 u139 u140 u141 u142 u143 u144 u145 u146 u147 u148 u149 u150 u151 u152 u153 u154 u155 u156 u157 u158 u159 u160 u161 u162 u163 u164 u165 u166 u167 u168 u169 u170 u171 u172 u173 u174 u175 u176 u177 u178 u179 u180 u181 u182 u183 u184 u185 u186 u187 u188 u189 u190 u191 u192 u193 u194 u195 u196 u197 u198 u199 u200 u201 u202 u203 u204 u205 u206 u207 u208 u209 u210 u211 u212 u213 u214 u215 u216 u217 u218 u219 u220 u221 u222 u223 u224 u225 u226 u227 u228 u229 u230 u231 u232 u233 u234 u235 u236 u237 u238 u239 u240 u241 u242 u243 u244 u245 u246 u247 u248 u249 u250 u251 u252 u253 u254 u255 u256 u257 u258 u259 u260 u261 u262 u263 u264 u265 u266 u267 u268 u269 u270 u271 u272 u273 u274 u275 : Value), Kp w wx [(Bn, (.cells #[.int .u8 p, .int .u8 q] 60 (0, 0))), (Bv, (.cells #[.int .i64 a, .int .i64 b, .int .i64 c, .int .i64 d, .int .i64 i, .int .i64 f] 46 (0, 0))), (Bc, (.cells #[.int .i64 x, .int .i64 y, .int .i64 z, .int .i64 num, .int .i64 den] 25 (0, 0)))] → Code.wp Tryz.prog (waysOf 11) (bodyPost Tryz.prog Tryz.f5 (SunPost w)) ⟨#[u0, u1, u2, .pointer (some ⟨Bc, 0, none⟩), .pointer (some ⟨Bv, 0, none⟩), .pointer (some ⟨Bn, 0, none⟩), .bool false, u7, u8, .bool m, .int .i64 0, .bool m, .int .i64 0, u13, .bool wd, .int .i64 0, u16, u17, u18, u19, u20, u21, u22, u23, u24, u25, u26, u27, u28, u29, u30, u31, u32, u33, u34, u35, u36, u37, u38, u39, u40, u41, u42, u43, u44, u45, u46, u47, u48, u49, u50, u51, u52, u53, u54, u55, u56, u57, u58, u59, u60, u61, u62, u63, u64, u65, u66, u67, u68, u69, u70, u71, u72, u73, u74, u75, u76, u77, u78, u79, u80, u81, u82, u83, u84, u85, u86, u87, u88, u89, u90, u91, u92, u93, u94, u95, u96, u97, u98, u99, u100, u101, u102, u103, u104, u105, u106, u107, u108, u109, u110, u111, u112, u113, u114, u115, u116, u117, u118, u119, u120, u121, u122, u123, u124, u125, u126, u127, u128, u129, u130, u131, u132, u133, u134, u135, u136, u137, u138, u139, u140, u141, u142, u143, u144, u145, u146, u147, u148, u149, u150, u151, u152, u153, u154, u155, u156, u157, u158, u159, u160, u161, u162, u163, u164, u165, u166, u167, u168, u169, u170, u171, u172, u173, u174, u175, u176, u177, u178, u179, u180, u181, u182, u183, u184, u185, u186, u187, u188, u189, u190, u191, u192, u193, u194, u195, u196, u197, u198, u199, u200, u201, u202, u203, u204, u205, u206, u207, u208, u209, u210, u211, u212, u213, u214, u215, u216, u217, u218, u219, u220, u221, u222, u223, u224, u225, u226, u227, u228, u229, u230, u231, u232, u233, u234, u235, u236, u237, u238, u239, u240, u241, u242, u243, u244, u245, u246, u247, u248, u249, u250, u251, u252, u253, u254, u255, u256, u257, u258, u259, u260, u261, u262, u263, u264, u265, u266, u267, u268, u269, u270, u271, u272, u273, u274, u275], []⟩ wx

set_option maxRecDepth 1000000 in
/-- What is still to be shown where the walk stands ahead of region 13. -/
def SWy13 (w : World) (x y z num den a b c d i f p q : Int) (m : Bool) : Prop :=
  ∀ (wx : World) (Bc Bv Bn : Nat) (u0 u1 u2 u7 u8 u10 u11 u12 u13 u14 u15 u16 u17 u18 u19 u20 u21 u22 u23 u24 u25 u26 u27 u28 u29 u30 u31 u32 u33 u34 u35 u36 u37 u38 u39 u40 u41 u42 u43 u44 u45 u46 u47 u48 u49 u50 u51 u52 u53 u54 u55 u56 u57 u58 u59 u60 u61 u62 u63 u64 u65 u66 u67 u68 u69 u70 u71 u72 u73 u74 u75 u76 u77 u78 u79 u80 u81 u82 u83 u84 u85 u86 u87 u88 u89 u90 u91 u92 u93 u94 u95 u96 u97 u98 u99 u100 u101 u102 u103 u104 u105 u106 u107 u108 u109 u110 u111 u112 u113 u114 u115 u116 u117 u118 u119 u120 u121 u122 u123 u124 u125 u126 u127 u128 u129 u130 u131 u132 u133 u134 u135 u136 u137 u138 u139 u140 u141 u142 u143 u144 u145 u146 u147 u148 u149 u150 u151 u152 u153 u154 u155 u156 u157 u158 u159 u160 u161 u162 u163 u164 u165 u166 u167 u168 u169 u170 u171 u172 u173 u174 u175 u176 u177 u178 u179 u180 u181 u182 u183 u184 u185 u186 u187 u188 u189 u190 u191 u192 u193 u194 u195 u196 u197 u198 u199 u200 u201 u202 u203 u204 u205 u206 u207 u208 u209 u210 u211 u212 u213 u214 u215 u216 u217 u218 u219 u220 u221 u222 u223 u224 u225 u226 u227 u228 u229 u230 u231 u232 u233 u234 u235 u236 u237 u238 u239 u240 u241 u242 u243 u244 u245 u246 u247 u248 u249 u250 u251 u252 u253 u254 u255 u256 u257 u258 u259 u260 u261 u262 u263 u264 u265 u266 u267 u268 u269 u270 u271 u272 u273 u274 u275 : Value), Kp w wx [(Bn, (.cells #[.int .u8 p, .int .u8 q] 60 (0, 0))), (Bv, (.cells #[.int .i64 a, .int .i64 b, .int .i64 c, .int .i64 d, .int .i64 i, .int .i64 f] 46 (0, 0))), (Bc, (.cells #[.int .i64 x, .int .i64 y, .int .i64 z, .int .i64 num, .int .i64 den] 25 (0, 0)))] → Code.wp Tryz.prog (waysOf 13) (bodyPost Tryz.prog Tryz.f5 (SunPost w)) ⟨#[u0, u1, u2, .pointer (some ⟨Bc, 0, none⟩), .pointer (some ⟨Bv, 0, none⟩), .pointer (some ⟨Bn, 0, none⟩), .bool false, u7, u8, .bool m, u10, u11, u12, u13, u14, u15, u16, u17, u18, u19, u20, u21, u22, u23, u24, u25, u26, u27, u28, u29, u30, u31, u32, u33, u34, u35, u36, u37, u38, u39, u40, u41, u42, u43, u44, u45, u46, u47, u48, u49, u50, u51, u52, u53, u54, u55, u56, u57, u58, u59, u60, u61, u62, u63, u64, u65, u66, u67, u68, u69, u70, u71, u72, u73, u74, u75, u76, u77, u78, u79, u80, u81, u82, u83, u84, u85, u86, u87, u88, u89, u90, u91, u92, u93, u94, u95, u96, u97, u98, u99, u100, u101, u102, u103, u104, u105, u106, u107, u108, u109, u110, u111, u112, u113, u114, u115, u116, u117, u118, u119, u120, u121, u122, u123, u124, u125, u126, u127, u128, u129, u130, u131, u132, u133, u134, u135, u136, u137, u138, u139, u140, u141, u142, u143, u144, u145, u146, u147, u148, u149, u150, u151, u152, u153, u154, u155, u156, u157, u158, u159, u160, u161, u162, u163, u164, u165, u166, u167, u168, u169, u170, u171, u172, u173, u174, u175, u176, u177, u178, u179, u180, u181, u182, u183, u184, u185, u186, u187, u188, u189, u190, u191, u192, u193, u194, u195, u196, u197, u198, u199, u200, u201, u202, u203, u204, u205, u206, u207, u208, u209, u210, u211, u212, u213, u214, u215, u216, u217, u218, u219, u220, u221, u222, u223, u224, u225, u226, u227, u228, u229, u230, u231, u232, u233, u234, u235, u236, u237, u238, u239, u240, u241, u242, u243, u244, u245, u246, u247, u248, u249, u250, u251, u252, u253, u254, u255, u256, u257, u258, u259, u260, u261, u262, u263, u264, u265, u266, u267, u268, u269, u270, u271, u272, u273, u274, u275], []⟩ wx

set_option maxRecDepth 1000000 in
/-- What is still to be shown where the walk stands ahead of region 28. -/
def SWy28 (w : World) (x y z num den a b c d i f p q : Int) (m : Bool) : Prop :=
  ∀ (wx : World) (Bc Bv Bn : Nat) (u0 u1 u2 u7 u8 u10 u11 u12 u13 u14 u15 u16 u17 u18 u19 u20 u21 u22 u23 u24 u25 u26 u27 u28 u29 u30 u31 u32 u33 u34 u35 u36 u37 u38 u39 u40 u41 u42 u43 u44 u45 u46 u47 u48 u49 u50 u51 u52 u53 u54 u55 u56 u57 u58 u59 u60 u61 u62 u63 u64 u65 u66 u67 u68 u69 u70 u71 u72 u73 u74 u75 u76 u77 u78 u79 u80 u81 u82 u83 u84 u85 u86 u87 u88 u89 u90 u91 u92 u93 u94 u95 u96 u97 u98 u99 u100 u101 u102 u103 u104 u105 u106 u107 u108 u109 u110 u111 u112 u113 u114 u115 u116 u117 u118 u119 u120 u121 u122 u123 u124 u125 u126 u127 u128 u129 u130 u131 u132 u133 u134 u135 u136 u137 u138 u139 u140 u141 u142 u143 u144 u145 u146 u147 u148 u149 u150 u151 u152 u153 u154 u155 u156 u157 u158 u159 u160 u161 u162 u163 u164 u165 u166 u167 u168 u169 u170 u171 u172 u173 u174 u175 u176 u177 u178 u179 u180 u181 u182 u183 u184 u185 u186 u187 u188 u189 u190 u191 u192 u193 u194 u195 u196 u197 u198 u199 u200 u201 u202 u203 u204 u205 u206 u207 u208 u209 u210 u211 u212 u213 u214 u215 u216 u217 u218 u219 u220 u221 u222 u223 u224 u225 u226 u227 u228 u229 u230 u231 u232 u233 u234 u235 u236 u237 u238 u239 u240 u241 u242 u243 u244 u245 u246 u247 u248 u249 u250 u251 u252 u253 u254 u255 u256 u257 u258 u259 u260 u261 u262 u263 u264 u265 u266 u267 u268 u269 u270 u271 u272 u273 u274 u275 : Value), Kp w wx [(Bn, (.cells #[.int .u8 p, .int .u8 q] 60 (0, 0))), (Bv, (.cells #[.int .i64 a, .int .i64 b, .int .i64 c, .int .i64 d, .int .i64 i, .int .i64 f] 46 (0, 0))), (Bc, (.cells #[.int .i64 x, .int .i64 y, .int .i64 z, .int .i64 num, .int .i64 den] 25 (0, 0)))] → Code.wp Tryz.prog (waysOf 28) (bodyPost Tryz.prog Tryz.f5 (SunPost w)) ⟨#[u0, u1, u2, .pointer (some ⟨Bc, 0, none⟩), .pointer (some ⟨Bv, 0, none⟩), .pointer (some ⟨Bn, 0, none⟩), .bool false, u7, u8, .bool m, u10, u11, u12, u13, u14, u15, u16, u17, u18, u19, u20, u21, u22, u23, u24, u25, u26, u27, u28, u29, u30, u31, u32, u33, u34, u35, u36, u37, u38, u39, u40, u41, u42, u43, u44, u45, u46, u47, u48, u49, u50, u51, u52, u53, u54, u55, u56, u57, u58, u59, u60, u61, u62, u63, u64, u65, u66, u67, u68, u69, u70, u71, u72, u73, u74, u75, u76, u77, u78, u79, u80, u81, u82, u83, u84, u85, u86, u87, u88, u89, u90, u91, u92, u93, u94, u95, u96, u97, u98, u99, u100, u101, u102, u103, u104, u105, u106, u107, u108, u109, u110, u111, u112, u113, u114, u115, u116, u117, u118, u119, u120, u121, u122, u123, u124, u125, u126, u127, u128, u129, u130, u131, u132, u133, u134, u135, u136, u137, u138, u139, u140, u141, u142, u143, u144, u145, u146, u147, u148, u149, u150, u151, u152, u153, u154, u155, u156, u157, u158, u159, u160, u161, u162, u163, u164, u165, u166, u167, u168, u169, u170, u171, u172, u173, u174, u175, u176, u177, u178, u179, u180, u181, u182, u183, u184, u185, u186, u187, u188, u189, u190, u191, u192, u193, u194, u195, u196, u197, u198, u199, u200, u201, u202, u203, u204, u205, u206, u207, u208, u209, u210, u211, u212, u213, u214, u215, u216, u217, u218, u219, u220, u221, u222, u223, u224, u225, u226, u227, u228, u229, u230, u231, u232, u233, u234, u235, u236, u237, u238, u239, u240, u241, u242, u243, u244, u245, u246, u247, u248, u249, u250, u251, u252, u253, u254, u255, u256, u257, u258, u259, u260, u261, u262, u263, u264, u265, u266, u267, u268, u269, u270, u271, u272, u273, u274, u275], []⟩ wx

set_option maxRecDepth 1000000 in
/-- What is still to be shown where the walk stands ahead of region 29. -/
def SWy29 (w : World) (x y z num den a b c d i f p q xr yr : Int) (m : Bool) : Prop :=
  ∀ (wx : World) (Bc Bv Bn : Nat) (u0 u1 u2 u7 u8 u10 u11 u12 u13 u14 u15 u16 u17 u18 u19 u20 u23 u24 u25 u26 u27 u28 u29 u30 u31 u32 u33 u34 u35 u36 u37 u38 u39 u40 u41 u42 u43 u44 u45 u46 u47 u48 u49 u50 u51 u52 u53 u54 u55 u56 u57 u58 u59 u60 u61 u62 u63 u64 u65 u66 u67 u68 u69 u70 u71 u72 u73 u74 u75 u76 u77 u78 u79 u80 u81 u82 u83 u84 u85 u86 u87 u88 u89 u90 u91 u92 u93 u94 u95 u96 u97 u98 u99 u100 u101 u102 u103 u104 u105 u106 u107 u108 u109 u110 u111 u112 u113 u114 u115 u116 u117 u118 u119 u120 u121 u122 u123 u124 u125 u126 u127 u128 u129 u130 u131 u132 u133 u134 u135 u136 u137 u138 u139 u140 u141 u142 u143 u144 u145 u146 u147 u148 u149 u150 u151 u152 u153 u154 u155 u156 u157 u158 u159 u160 u161 u162 u163 u164 u165 u166 u167 u168 u169 u170 u171 u172 u173 u174 u175 u176 u177 u178 u179 u180 u181 u182 u183 u184 u185 u186 u187 u188 u189 u190 u191 u192 u193 u194 u195 u196 u197 u198 u199 u200 u201 u202 u203 u204 u205 u206 u207 u208 u209 u210 u211 u212 u213 u214 u215 u216 u217 u218 u219 u220 u221 u222 u223 u224 u225 u226 u227 u228 u229 u230 u231 u232 u233 u234 u235 u236 u237 u238 u239 u240 u241 u242 u243 u244 u245 u246 u247 u248 u249 u250 u251 u252 u253 u254 u255 u256 u257 u258 u259 u260 u261 u262 u263 u264 u265 u266 u267 u268 u269 u270 u271 u272 u273 u274 u275 : Value), Kp w wx [(Bn, (.cells #[.int .u8 p, .int .u8 q] 60 (0, 0))), (Bv, (.cells #[.int .i64 a, .int .i64 b, .int .i64 c, .int .i64 d, .int .i64 i, .int .i64 f] 46 (0, 0))), (Bc, (.cells #[.int .i64 x, .int .i64 y, .int .i64 z, .int .i64 num, .int .i64 den] 25 (0, 0)))] → Code.wp Tryz.prog (waysOf 29) (bodyPost Tryz.prog Tryz.f5 (SunPost w)) ⟨#[u0, u1, u2, .pointer (some ⟨Bc, 0, none⟩), .pointer (some ⟨Bv, 0, none⟩), .pointer (some ⟨Bn, 0, none⟩), .bool false, u7, u8, .bool m, u10, u11, u12, u13, u14, u15, u16, u17, u18, u19, u20, .int .i64 xr, .int .i64 yr, u23, u24, u25, u26, u27, u28, u29, u30, u31, u32, u33, u34, u35, u36, u37, u38, u39, u40, u41, u42, u43, u44, u45, u46, u47, u48, u49, u50, u51, u52, u53, u54, u55, u56, u57, u58, u59, u60, u61, u62, u63, u64, u65, u66, u67, u68, u69, u70, u71, u72, u73, u74, u75, u76, u77, u78, u79, u80, u81, u82, u83, u84, u85, u86, u87, u88, u89, u90, u91, u92, u93, u94, u95, u96, u97, u98, u99, u100, u101, u102, u103, u104, u105, u106, u107, u108, u109, u110, u111, u112, u113, u114, u115, u116, u117, u118, u119, u120, u121, u122, u123, u124, u125, u126, u127, u128, u129, u130, u131, u132, u133, u134, u135, u136, u137, u138, u139, u140, u141, u142, u143, u144, u145, u146, u147, u148, u149, u150, u151, u152, u153, u154, u155, u156, u157, u158, u159, u160, u161, u162, u163, u164, u165, u166, u167, u168, u169, u170, u171, u172, u173, u174, u175, u176, u177, u178, u179, u180, u181, u182, u183, u184, u185, u186, u187, u188, u189, u190, u191, u192, u193, u194, u195, u196, u197, u198, u199, u200, u201, u202, u203, u204, u205, u206, u207, u208, u209, u210, u211, u212, u213, u214, u215, u216, u217, u218, u219, u220, u221, u222, u223, u224, u225, u226, u227, u228, u229, u230, u231, u232, u233, u234, u235, u236, u237, u238, u239, u240, u241, u242, u243, u244, u245, u246, u247, u248, u249, u250, u251, u252, u253, u254, u255, u256, u257, u258, u259, u260, u261, u262, u263, u264, u265, u266, u267, u268, u269, u270, u271, u272, u273, u274, u275], []⟩ wx

set_option maxRecDepth 1000000 in
/-- What is still to be shown where the walk stands ahead of region 31. -/
def SWy31 (w : World) (x y z num den a b c d i f p q xr yr : Int) : Prop :=
  ∀ (wx : World) (Bc Bv Bn : Nat) (u0 u1 u2 u7 u8 u9 u10 u11 u12 u13 u14 u15 u16 u17 u18 u19 u20 u23 u24 u25 u26 u27 u28 u29 u30 u31 u32 u33 u34 u35 u36 u37 u38 u39 u40 u41 u42 u43 u44 u45 u46 u47 u48 u49 u50 u51 u52 u53 u54 u55 u56 u57 u58 u59 u60 u61 u62 u63 u64 u65 u66 u67 u68 u69 u70 u71 u72 u73 u74 u75 u76 u77 u78 u79 u80 u81 u82 u83 u84 u85 u86 u87 u88 u89 u90 u91 u92 u93 u94 u95 u96 u97 u98 u99 u100 u101 u102 u103 u104 u105 u106 u107 u108 u109 u110 u111 u112 u113 u114 u115 u116 u117 u118 u119 u120 u121 u122 u123 u124 u125 u126 u127 u128 u129 u130 u131 u132 u133 u134 u135 u136 u137 u138 u139 u140 u141 u142 u143 u144 u145 u146 u147 u148 u149 u150 u151 u152 u153 u154 u155 u156 u157 u158 u159 u160 u161 u162 u163 u164 u165 u166 u167 u168 u169 u170 u171 u172 u173 u174 u175 u176 u177 u178 u179 u180 u181 u182 u183 u184 u185 u186 u187 u188 u189 u190 u191 u192 u193 u194 u195 u196 u197 u198 u199 u200 u201 u202 u203 u204 u205 u206 u207 u208 u209 u210 u211 u212 u213 u214 u215 u216 u217 u218 u219 u220 u221 u222 u223 u224 u225 u226 u227 u228 u229 u230 u231 u232 u233 u234 u235 u236 u237 u238 u239 u240 u241 u242 u243 u244 u245 u246 u247 u248 u249 u250 u251 u252 u253 u254 u255 u256 u257 u258 u259 u260 u261 u262 u263 u264 u265 u266 u267 u268 u269 u270 u271 u272 u273 u274 u275 : Value), Kp w wx [(Bn, (.cells #[.int .u8 p, .int .u8 q] 60 (0, 0))), (Bv, (.cells #[.int .i64 a, .int .i64 b, .int .i64 c, .int .i64 d, .int .i64 i, .int .i64 f] 46 (0, 0))), (Bc, (.cells #[.int .i64 x, .int .i64 y, .int .i64 z, .int .i64 num, .int .i64 den] 25 (0, 0)))] → Code.wp Tryz.prog (waysOf 31) (bodyPost Tryz.prog Tryz.f5 (SunPost w)) ⟨#[u0, u1, u2, .pointer (some ⟨Bc, 0, none⟩), .pointer (some ⟨Bv, 0, none⟩), .pointer (some ⟨Bn, 0, none⟩), .bool false, u7, u8, u9, u10, u11, u12, u13, u14, u15, u16, u17, u18, u19, u20, .int .i64 xr, .int .i64 yr, u23, u24, u25, u26, u27, u28, u29, u30, u31, u32, u33, u34, u35, u36, u37, u38, u39, u40, u41, u42, u43, u44, u45, u46, u47, u48, u49, u50, u51, u52, u53, u54, u55, u56, u57, u58, u59, u60, u61, u62, u63, u64, u65, u66, u67, u68, u69, u70, u71, u72, u73, u74, u75, u76, u77, u78, u79, u80, u81, u82, u83, u84, u85, u86, u87, u88, u89, u90, u91, u92, u93, u94, u95, u96, u97, u98, u99, u100, u101, u102, u103, u104, u105, u106, u107, u108, u109, u110, u111, u112, u113, u114, u115, u116, u117, u118, u119, u120, u121, u122, u123, u124, u125, u126, u127, u128, u129, u130, u131, u132, u133, u134, u135, u136, u137, u138, u139, u140, u141, u142, u143, u144, u145, u146, u147, u148, u149, u150, u151, u152, u153, u154, u155, u156, u157, u158, u159, u160, u161, u162, u163, u164, u165, u166, u167, u168, u169, u170, u171, u172, u173, u174, u175, u176, u177, u178, u179, u180, u181, u182, u183, u184, u185, u186, u187, u188, u189, u190, u191, u192, u193, u194, u195, u196, u197, u198, u199, u200, u201, u202, u203, u204, u205, u206, u207, u208, u209, u210, u211, u212, u213, u214, u215, u216, u217, u218, u219, u220, u221, u222, u223, u224, u225, u226, u227, u228, u229, u230, u231, u232, u233, u234, u235, u236, u237, u238, u239, u240, u241, u242, u243, u244, u245, u246, u247, u248, u249, u250, u251, u252, u253, u254, u255, u256, u257, u258, u259, u260, u261, u262, u263, u264, u265, u266, u267, u268, u269, u270, u271, u272, u273, u274, u275], []⟩ wx

set_option maxRecDepth 1000000 in
/-- What is still to be shown where the walk stands ahead of region 34. -/
def SWy34 (w : World) (x y z num den a b c d i f p q m1 m2 m3 : Int) : Prop :=
  ∀ (wx : World) (Bc Bv Bn Bm : Nat) (u0 u1 u2 u7 u8 u9 u10 u11 u12 u13 u14 u15 u16 u17 u18 u19 u20 u21 u22 u24 u25 u26 u27 u28 u29 u30 u31 u32 u33 u34 u35 u36 u37 u38 u39 u40 u41 u42 u43 u44 u45 u46 u47 u48 u49 u50 u51 u52 u53 u54 u55 u56 u57 u58 u59 u60 u61 u62 u63 u64 u65 u66 u67 u68 u69 u70 u71 u72 u73 u74 u75 u76 u77 u78 u79 u80 u81 u82 u83 u84 u85 u86 u87 u88 u89 u90 u91 u92 u93 u94 u95 u96 u97 u98 u99 u100 u101 u102 u103 u104 u105 u106 u107 u108 u109 u110 u111 u112 u113 u114 u115 u116 u117 u118 u119 u120 u121 u122 u123 u124 u125 u126 u127 u128 u129 u130 u131 u132 u133 u134 u135 u136 u137 u138 u139 u140 u141 u142 u143 u144 u145 u146 u147 u148 u149 u150 u151 u152 u153 u154 u155 u156 u157 u158 u159 u160 u161 u162 u163 u164 u165 u166 u167 u168 u169 u170 u171 u172 u173 u174 u175 u176 u177 u178 u179 u180 u181 u182 u183 u184 u185 u186 u187 u188 u189 u190 u191 u192 u193 u194 u195 u196 u197 u198 u199 u200 u201 u202 u203 u204 u205 u206 u207 u208 u209 u210 u211 u212 u213 u214 u215 u216 u217 u218 u219 u220 u221 u222 u223 u224 u225 u226 u227 u228 u229 u230 u231 u232 u233 u234 u235 u236 u237 u238 u239 u240 u241 u242 u243 u244 u245 u246 u247 u248 u249 u250 u251 u252 u253 u254 u255 u256 u257 u258 u259 u260 u261 u262 u263 u264 u265 u266 u267 u268 u269 u270 u271 u272 u273 u274 u275 : Value), Kp w wx [(Bm, (.cells #[.int .i64 m1, .int .i64 m2, .int .i64 m3] 23 (0, 0))), (Bn, (.cells #[.int .u8 p, .int .u8 q] 60 (0, 0))), (Bv, (.cells #[.int .i64 a, .int .i64 b, .int .i64 c, .int .i64 d, .int .i64 i, .int .i64 f] 46 (0, 0))), (Bc, (.cells #[.int .i64 x, .int .i64 y, .int .i64 z, .int .i64 num, .int .i64 den] 25 (0, 0)))] → Code.wp Tryz.prog (waysOf 34) (bodyPost Tryz.prog Tryz.f5 (SunPost w)) ⟨#[u0, u1, u2, .pointer (some ⟨Bc, 0, none⟩), .pointer (some ⟨Bv, 0, none⟩), .pointer (some ⟨Bn, 0, none⟩), .bool false, u7, u8, u9, u10, u11, u12, u13, u14, u15, u16, u17, u18, u19, u20, u21, u22, .pointer (some ⟨Bm, 0, none⟩), u24, u25, u26, u27, u28, u29, u30, u31, u32, u33, u34, u35, u36, u37, u38, u39, u40, u41, u42, u43, u44, u45, u46, u47, u48, u49, u50, u51, u52, u53, u54, u55, u56, u57, u58, u59, u60, u61, u62, u63, u64, u65, u66, u67, u68, u69, u70, u71, u72, u73, u74, u75, u76, u77, u78, u79, u80, u81, u82, u83, u84, u85, u86, u87, u88, u89, u90, u91, u92, u93, u94, u95, u96, u97, u98, u99, u100, u101, u102, u103, u104, u105, u106, u107, u108, u109, u110, u111, u112, u113, u114, u115, u116, u117, u118, u119, u120, u121, u122, u123, u124, u125, u126, u127, u128, u129, u130, u131, u132, u133, u134, u135, u136, u137, u138, u139, u140, u141, u142, u143, u144, u145, u146, u147, u148, u149, u150, u151, u152, u153, u154, u155, u156, u157, u158, u159, u160, u161, u162, u163, u164, u165, u166, u167, u168, u169, u170, u171, u172, u173, u174, u175, u176, u177, u178, u179, u180, u181, u182, u183, u184, u185, u186, u187, u188, u189, u190, u191, u192, u193, u194, u195, u196, u197, u198, u199, u200, u201, u202, u203, u204, u205, u206, u207, u208, u209, u210, u211, u212, u213, u214, u215, u216, u217, u218, u219, u220, u221, u222, u223, u224, u225, u226, u227, u228, u229, u230, u231, u232, u233, u234, u235, u236, u237, u238, u239, u240, u241, u242, u243, u244, u245, u246, u247, u248, u249, u250, u251, u252, u253, u254, u255, u256, u257, u258, u259, u260, u261, u262, u263, u264, u265, u266, u267, u268, u269, u270, u271, u272, u273, u274, u275], []⟩ wx

set_option maxRecDepth 1000000 in
/-- What is still to be shown where the walk stands ahead of region 36. -/
def SWy36 (w : World) (x y z num den a b c d i f p q m1 m2 m3 : Int) : Prop :=
  ∀ (wx : World) (Bc Bv Bn Bm : Nat) (u0 u1 u2 u7 u8 u9 u10 u11 u12 u13 u14 u15 u16 u17 u18 u19 u20 u21 u22 u24 u25 u26 u27 u28 u29 u30 u31 u32 u33 u34 u35 u36 u37 u38 u39 u40 u41 u42 u43 u44 u45 u46 u47 u48 u49 u50 u51 u52 u53 u54 u55 u56 u57 u58 u59 u60 u61 u62 u63 u64 u65 u66 u67 u68 u69 u70 u71 u72 u73 u74 u75 u76 u77 u78 u79 u80 u81 u82 u83 u84 u85 u86 u87 u88 u89 u90 u91 u92 u93 u94 u95 u96 u97 u98 u99 u100 u101 u102 u103 u104 u105 u106 u107 u108 u109 u110 u111 u112 u113 u114 u115 u116 u117 u118 u119 u120 u121 u122 u123 u124 u125 u126 u127 u128 u129 u130 u131 u132 u133 u134 u135 u136 u137 u138 u139 u140 u141 u142 u143 u144 u145 u146 u147 u148 u149 u150 u151 u152 u153 u154 u155 u156 u157 u158 u159 u160 u161 u162 u163 u164 u165 u166 u167 u168 u169 u170 u171 u172 u173 u174 u175 u176 u177 u178 u179 u180 u181 u182 u183 u184 u185 u186 u187 u188 u189 u190 u191 u192 u193 u194 u195 u196 u197 u198 u199 u200 u201 u202 u203 u204 u205 u206 u207 u208 u209 u210 u211 u212 u213 u214 u215 u216 u217 u218 u219 u220 u221 u222 u223 u224 u225 u226 u227 u228 u229 u230 u231 u232 u233 u234 u235 u236 u237 u238 u239 u240 u241 u242 u243 u244 u245 u246 u247 u248 u249 u250 u251 u252 u253 u254 u255 u256 u257 u258 u259 u260 u261 u262 u263 u264 u265 u266 u267 u268 u269 u270 u271 u272 u273 u274 u275 : Value), Kp w wx [(Bm, (.cells #[.int .i64 m1, .int .i64 m2, .int .i64 m3] 23 (0, 0))), (Bn, (.cells #[.int .u8 p, .int .u8 q] 60 (0, 0))), (Bv, (.cells #[.int .i64 a, .int .i64 b, .int .i64 c, .int .i64 d, .int .i64 i, .int .i64 f] 46 (0, 0))), (Bc, (.cells #[.int .i64 x, .int .i64 y, .int .i64 z, .int .i64 num, .int .i64 den] 25 (0, 0)))] → Code.wp Tryz.prog (waysOf 36) (bodyPost Tryz.prog Tryz.f5 (SunPost w)) ⟨#[u0, u1, u2, .pointer (some ⟨Bc, 0, none⟩), .pointer (some ⟨Bv, 0, none⟩), .pointer (some ⟨Bn, 0, none⟩), .bool false, u7, u8, u9, u10, u11, u12, u13, u14, u15, u16, u17, u18, u19, u20, u21, u22, .pointer (some ⟨Bm, 0, none⟩), u24, u25, u26, u27, u28, u29, u30, u31, u32, u33, u34, u35, u36, u37, u38, u39, u40, u41, u42, u43, u44, u45, u46, u47, u48, u49, u50, u51, u52, u53, u54, u55, u56, u57, u58, u59, u60, u61, u62, u63, u64, u65, u66, u67, u68, u69, u70, u71, u72, u73, u74, u75, u76, u77, u78, u79, u80, u81, u82, u83, u84, u85, u86, u87, u88, u89, u90, u91, u92, u93, u94, u95, u96, u97, u98, u99, u100, u101, u102, u103, u104, u105, u106, u107, u108, u109, u110, u111, u112, u113, u114, u115, u116, u117, u118, u119, u120, u121, u122, u123, u124, u125, u126, u127, u128, u129, u130, u131, u132, u133, u134, u135, u136, u137, u138, u139, u140, u141, u142, u143, u144, u145, u146, u147, u148, u149, u150, u151, u152, u153, u154, u155, u156, u157, u158, u159, u160, u161, u162, u163, u164, u165, u166, u167, u168, u169, u170, u171, u172, u173, u174, u175, u176, u177, u178, u179, u180, u181, u182, u183, u184, u185, u186, u187, u188, u189, u190, u191, u192, u193, u194, u195, u196, u197, u198, u199, u200, u201, u202, u203, u204, u205, u206, u207, u208, u209, u210, u211, u212, u213, u214, u215, u216, u217, u218, u219, u220, u221, u222, u223, u224, u225, u226, u227, u228, u229, u230, u231, u232, u233, u234, u235, u236, u237, u238, u239, u240, u241, u242, u243, u244, u245, u246, u247, u248, u249, u250, u251, u252, u253, u254, u255, u256, u257, u258, u259, u260, u261, u262, u263, u264, u265, u266, u267, u268, u269, u270, u271, u272, u273, u274, u275], []⟩ wx

end Go.Proofs.YtggffhmdgceljaaGreatDoor

/-
  The walk of SunWays: what a round of its loops asks.
-/
namespace Go.Proofs.YtggffhmdgceljaaGreatDoor
open Go.RowKit
set_option linter.unusedVariables false
set_option linter.unusedSimpArgs false
/-- What a round of the loops asks. -/
structure WayR (a b c d i f x y z num den : Int) (m : Bool) (j k : Nat) (a1 a2 a3 d1 d2 d3 t1 t2 t3 : Int) (ins : Bool) : Prop where
  ta : Hid (∀ w1 : World, Calls Tryz.prog 23 #[.agg #[.int .i64 a, .int .i64 b, .int .i64 c], .int .i64 (j : Int)] w1 fun e w' => e = .returned (.agg #[.int .i64 a1, .int .i64 a2, .int .i64 a3]) ∧ Below w1.heap.size w1 w')
  td : Hid (∀ w1 : World, Calls Tryz.prog 23 #[.agg #[.int .i64 d, .int .i64 i, .int .i64 f], .int .i64 (k : Int)] w1 fun e w' => e = .returned (.agg #[.int .i64 d1, .int .i64 d2, .int .i64 d3]) ∧ Below w1.heap.size w1 w')
  pl : Hid (∀ w1 : World, Calls Tryz.prog 30 #[.agg #[.int .i64 a1, .int .i64 a2, .int .i64 a3], .agg #[.int .i64 d1, .int .i64 d2, .int .i64 d3]] w1 fun e w' => e = .returned (.agg #[.int .i64 t1, .int .i64 t2, .int .i64 t3]) ∧ Below w1.heap.size w1 w')
  iz : Hid (∀ w1 : World, Calls Tryz.prog 31 #[.agg #[.int .i64 t1, .int .i64 t2, .int .i64 t3]] w1 fun e w' => e = .returned (.bool false) ∧ Below w1.heap.size w1 w')
  is : Hid (∀ w1 : World, Calls Tryz.prog 7 #[.agg #[.int .i64 x, .int .i64 y, .int .i64 z, .int .i64 num, .int .i64 den], .agg #[.int .i64 t1, .int .i64 t2, .int .i64 t3]] w1 fun e w' => e = .returned (.tuple #[.bool ins, .int .i64 0]) ∧ Below w1.heap.size w1 w')
  no : (ins && !m) = false
end Go.Proofs.YtggffhmdgceljaaGreatDoor

/-
  Cones that come in, opened.
-/
namespace Go.Proofs.YtggffhmdgceljaaGreatDoor
open Go.ChangeShapes Go.WideShapes Go.ChangeAt Go.RowKit Go.Joins Go.Deep
set_option linter.unusedVariables false
set_option maxRecDepth 100000

theorem cellsRCone : Tryz.prog.cellsOf 25 = 5 := by kernel_rfl
theorem listS5 {α : Type} {l : List α} (h : l.length = 5) : ∃ a b c d e, l = [a, b, c, d, e] := by
  match l, h with
  | [a, b, c, d, e], _ => exact ⟨a, b, c, d, e, rfl⟩
/-- A cone that comes in, opened. -/
theorem openCone {H : Type} {enc : TypeId × Value → H} {W : World} {b0 : Nat} {v : Value} {d : DataW H} {p : List MemPlace}
    (hv : Value.okWide Tryz.prog W .any b0 25 v) (h : DataW.Trod enc Tryz.prog W 0 (fun _ => true) true 25 v d p) :
    ∃ (x y z n m : Int), v = .agg #[.int .i64 x, .int .i64 y, .int .i64 z, .int .i64 n, .int .i64 m] := by
  obtain ⟨cs, rfl, hsz⟩ := okWide_struct Tryz.underlying25 hv
  obtain ⟨fuel, hf⟩ := h
  obtain ⟨l, rfl⟩ : ∃ l : List Value, cs = l.toArray := ⟨cs.toList, by simp⟩
  have hl : l.length = 5 := by simpa using hsz.trans cellsRCone
  obtain ⟨c0, c1, c2, c3, c4, rfl⟩ := listS5 hl
  obtain ⟨y0, y1, y2, n, _, _, h0, h1, h2⟩ := trod_struct3 Tryz.underlying25 hf
  have e1 : Tryz.prog.cellsOf 3 = 1 := cellsInt1
  have e3 : Tryz.prog.cellsOf 23 = 3 := cellsVec
  simp only [Value.cells, e1, e3] at h0 h1 h2
  obtain ⟨X3, q3, _, _⟩ := DataW.trod_int Tryz.underlying3 h1
  obtain ⟨X4, q4, _, _⟩ := DataW.trod_int Tryz.underlying3 h2
  obtain ⟨xs, m, _, _, _, hlen, hg⟩ := DataW.trod_struct Tryz.underlying23 h0
  match xs, hlen with
  | [z0, z1, z2], _ =>
    have g0 : DataW.trod enc Tryz.prog W 0 (fun _ => true) true m 3 (([c0, c1, c2].drop 0).take (Tryz.prog.cellsOf 3)) = some z0 := hg 0 _ rfl
    have g1 : DataW.trod enc Tryz.prog W 0 (fun _ => true) true m 3 (([c0, c1, c2].drop 1).take (Tryz.prog.cellsOf 3)) = some z1 := hg 1 _ rfl
    have g2 : DataW.trod enc Tryz.prog W 0 (fun _ => true) true m 3 (([c0, c1, c2].drop 2).take (Tryz.prog.cellsOf 3)) = some z2 := hg 2 _ rfl
    rw [e1] at g0 g1 g2
    obtain ⟨X0, q0, _, _⟩ := DataW.trod_int Tryz.underlying3 g0
    obtain ⟨X1, q1, _, _⟩ := DataW.trod_int Tryz.underlying3 g1
    obtain ⟨X2, q2, _, _⟩ := DataW.trod_int Tryz.underlying3 g2
    simp at q0 q1 q2 q3 q4
    subst q0 q1 q2 q3 q4
    exact ⟨X0, X1, X2, X3, X4, rfl⟩
end Go.Proofs.YtggffhmdgceljaaGreatDoor

/-
  Closed facts of the program alone, which every card asks: each one by itself, as the kernel's memory wants.
-/
namespace Go.Proofs.YtggffhmdgceljaaGreatDoor
open Go.ChangeShapes Go.WideShapes Go.ChangeAt Go.RowKit Go.Joins Go.Deep
set_option linter.unusedVariables false

theorem band {a b : Bool} (ha : a = true) (hb : b = true) : (a && b) = true := by rw [ha, hb]; rfl
theorem pLaid : laidOutB Tryz.pinned.checked.prog = true := by kernel_rfl
theorem pMaps : mapsRowed Tryz.pinned.checked.prog = true := by kernel_rfl
theorem pStops : (Tryz.pinned.checked.prog.stops == []) = true := by kernel_rfl
theorem pKnobs : (Tryz.pinned.checked.prog.stopKnobs == []) = true := by kernel_rfl
theorem pMake : (Tryz.pinned.checked.prog.make == some Rows.sunConesRow.make) = true := by kernel_rfl
end Go.Proofs.YtggffhmdgceljaaGreatDoor

/-
  More closed facts of the program alone.
-/
namespace Go.Proofs.YtggffhmdgceljaaGreatDoor
open Go.ChangeShapes Go.WideShapes Go.ChangeAt Go.RowKit Go.Joins Go.Deep
set_option linter.unusedVariables false

theorem pKeys : (Rows.sunConesRow.plainKeys == Tryz.pinned.checked.prog.plainKeys) = true := by kernel_rfl
theorem pHeard : Tryz.pinned.checked.prog.stopsHeard = true := by kernel_rfl
theorem pEnter : Tryz.pinned.checked.prog.mayEnter = true := by kernel_rfl
theorem pLifted : (Rows.sunConesRow.lifted == Tryz.pinned.checked.prog.liftsFinal) = true := by kernel_rfl
end Go.Proofs.YtggffhmdgceljaaGreatDoor
