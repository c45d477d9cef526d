/-
  The walk of SunWays: regions 3 to 12.
-/
import Derived.Test.YtggffhmdgceljaaGreatDoorRows
import Derived.WalkKit
import Derived.WalkSpells
import Derived.WalkLawsBesides
import Derived.Lib.Hide
import Derived.BigQuiet
import Derived.Deep.QuietTactic
import Derived.Handy
import Derived.Deep.RegionHeld3
import Derived.Deep.RegionWith
import Derived.StillTailTactics
import Derived.RangeFuncNested
import Derived.RangeFuncBound
import Derived.RangeFuncCalls
import Derived.RangeFuncLeaves
import Derived.RangeFuncBox
import Derived.Shelf.Abstract
import Derived.Shelf.RegionOpen
import Derived.OwnWalkIn
import Derived.TacticsInMore
import Derived.LoopNIn
import Derived.LoopIn
import Derived.Maps.AppendAt
import Derived.Test.YtggffhmdgceljaaGreatDoorProg
import Derived.Laws.FloatArith
import Derived.Laws.BitsAllLaws
import Derived.Deep.DeepCutAuto
import Derived.Stop.BytesEq
import Derived.Deep.MidRow
import Derived.Laws.CopyRow
import Derived.WalkMore
import Derived.Deep.DrawnRows
import Derived.Deep.CutBlock
import Derived.Orders
import Derived.LoopTactic
import Derived.Laws.StructEq
import Derived.Deep.RegionLaw
import Derived.RegionTactic
import Derived.StillTail
import Derived.Laws.RangeString
import Derived.Laws.RangeAny
import Derived.Shelf.Strings.Builder1
import Derived.Shelf.Strings.OnBuilder
import Derived.Shelf.LaysM
import Derived.Shelf.Strconv.Itoa3
import Derived.Lib.AppendIntMem
import Derived.Lib.ItoaLen
import Derived.RowKit
import Derived.Test.YtggffhmdgceljaaGreatDoorOwaWn
import Derived.Test.YtggffhmdgceljaaGreatDoorOwaXe
import Derived.Test.YtggffhmdgceljaaGreatDoorOwaIb
import Derived.Test.YtggffhmdgceljaaGreatDoorOwaWi
import Derived.Test.YtggffhmdgceljaaGreatDoorOwaId
import Derived.Test.YtggffhmdgceljaaGreatDoorOwaIp
import Derived.Test.YtggffhmdgceljaaGreatDoorOwaNi
import Derived.Test.YtggffhmdgceljaaGreatDoorOwaIx
import Derived.Test.YtggffhmdgceljaaGreatDoorOwaNv
import Derived.Test.YtggffhmdgceljaaGreatDoorOwaNx
import Derived.Test.YtggffhmdgceljaaGreatDoorOwaWo
import Derived.Test.YtggffhmdgceljaaGreatDoorOwaNo
import Derived.Test.YtggffhmdgceljaaGreatDoorOwaNy
import Derived.Test.YtggffhmdgceljaaGreatDoorOwaAd
namespace Go.Proofs.YtggffhmdgceljaaGreatDoor
open Go.RowKit
set_option linter.unusedVariables false
set_option linter.unusedSimpArgs false
set_option maxRecDepth 1000000 in
set_option maxHeartbeats 12800000 in
theorem sw3 (w : World) (x y z num den a b c d i f p q r1 r2 r3 s1 s2 s3 : Int)
    (KF : Hid (∀ w1 : World, Below w.heap.size w w1 → Calls Tryz.prog 27 #[.agg #[.int .i64 a, .int .i64 b, .int .i64 c]] w1 fun e w' => e = .returned (.tuple #[.agg #[.int .i64 r1, .int .i64 r2, .int .i64 r3, .int .i64 s1, .int .i64 s2, .int .i64 s3], .int .i64 0]) ∧ Below w1.heap.size w1 w'))
    (D1 : Hid (∀ w1 : World, Calls Tryz.prog 28 #[.agg #[.int .i64 r1, .int .i64 r2, .int .i64 r3]] w1 fun e w' => e = .returned (.int .i64 0) ∧ Below w1.heap.size w1 w'))
    (D2 : Hid (∀ w1 : World, Calls Tryz.prog 28 #[.agg #[.int .i64 s1, .int .i64 s2, .int .i64 s3]] w1 fun e w' => e = .returned (.int .i64 0) ∧ Below w1.heap.size w1 w'))
    (P1 : Hid (∀ w1 : World, Calls Tryz.prog 29 #[.agg #[.int .i64 r1, .int .i64 r2, .int .i64 r3], .agg #[.int .i64 s1, .int .i64 s2, .int .i64 s3]] w1 fun e w' => e = .returned (.int .i64 0) ∧ Below w1.heap.size w1 w'))
    (P2 : Hid (∀ w1 : World, Calls Tryz.prog 29 #[.agg #[.int .i64 r1, .int .i64 r2, .int .i64 r3], .agg #[.int .i64 a, .int .i64 b, .int .i64 c]] w1 fun e w' => e = .returned (.int .i64 0) ∧ Below w1.heap.size w1 w'))
    (P3 : Hid (∀ w1 : World, Calls Tryz.prog 29 #[.agg #[.int .i64 s1, .int .i64 s2, .int .i64 s3], .agg #[.int .i64 a, .int .i64 b, .int .i64 c]] w1 fun e w' => e = .returned (.int .i64 0) ∧ Below w1.heap.size w1 w'))
    (hT : SWy6 w x y z num den a b c d i f p q) : SWy3 w x y z num den a b c d i f p q := by
  unfold SWy3
  intro wx Bc Bv Bn u0 u1 u2 u7 u8 u9 u10 u11 u12 u13 u14 u15 u16 u17 u18 u19 u20 u21 u22 u23 u24 u25 u26 u27 u28 u29 u30 u31 u32 u33 u34 u35 u36 u37 u38 u39 u40 u41 u42 u43 u44 u45 u46 u47 u48 u49 u50 u51 u52 u53 u54 u55 u56 u57 u58 u59 u60 u61 u62 u63 u64 u65 u66 u67 u68 u69 u70 u71 u72 u73 u74 u75 u76 u77 u78 u79 u80 u81 u82 u83 u84 u85 u86 u87 u88 u89 u90 u91 u92 u93 u94 u95 u96 u97 u98 u99 u100 u101 u102 u103 u104 u105 u106 u107 u108 u109 u110 u111 u112 u113 u114 u115 u116 u117 u118 u119 u120 u121 u122 u123 u124 u125 u126 u127 u128 u129 u130 u131 u132 u133 u134 u135 u136 u137 u138 u139 u140 u141 u142 u143 u144 u145 u146 u147 u148 u149 u150 u151 u152 u153 u154 u155 u156 u157 u158 u159 u160 u161 u162 u163 u164 u165 u166 u167 u168 u169 u170 u171 u172 u173 u174 u175 u176 u177 u178 u179 u180 u181 u182 u183 u184 u185 u186 u187 u188 u189 u190 u191 u192 u193 u194 u195 u196 u197 u198 u199 u200 u201 u202 u203 u204 u205 u206 u207 u208 u209 u210 u211 u212 u213 u214 u215 u216 u217 u218 u219 u220 u221 u222 u223 u224 u225 u226 u227 u228 u229 u230 u231 u232 u233 u234 u235 u236 u237 u238 u239 u240 u241 u242 u243 u244 u245 u246 u247 u248 u249 u250 u251 u252 u253 u254 u255 u256 u257 u258 u259 u260 u261 u262 u263 u264 u265 u266 u267 u268 u269 u270 u271 u272 u273 u274 u275 hk
  have K0 := Lib.hid hk
  clear hk
  conv => arg 2; whnf
  dsimp only
  go_upto_region 3 with fail
  go_cut [7, 8] (fun s7 s8 wr => ∃ B7 : Nat, s7 = .pointer (some ⟨B7, 0, none⟩) ∧ s8 = .int .i64 0 ∧ Kp w wr [(B7, (.cells #[.int .i64 r1, .int .i64 r2, .int .i64 r3, .int .i64 s1, .int .i64 s2, .int .i64 s3] 46 (0, 0))), (Bn, (.cells #[.int .u8 p, .int .u8 q] 60 (0, 0))), (Bv, (.cells #[.int .i64 a, .int .i64 b, .int .i64 c, .int .i64 d, .int .i64 i, .int .i64 f] 46 (0, 0))), (Bc, (.cells #[.int .i64 x, .int .i64 y, .int .i64 z, .int .i64 num, .int .i64 den] 25 (0, 0)))])
  case first =>
    obtain ⟨h0, h1, h2, h3, h4, h5⟩ := cells6 (K0.out.2 _ (.tail _ (.head _)))
    go_wp2_with (first
      | (go_at_call 27; (with_reducible refine (KF.out _ (Kp.below K0.out)).mono ?_); rintro e w91 ⟨rfl, hb91⟩; have K91 := Lib.hid (K0.out.call hb91)))
    go_meet
    exact ⟨_, rfl, rfl, K91.out.alloc _⟩
  case rest =>
    rename_i hK
    obtain ⟨B7, rfl, rfl, hk⟩ := hcut
    refine hK _ _ ?_
    clear hK
    have K1 := Lib.hid hk
    clear hk K0
    go_upto_region 4 with fail
    go_cut [101] (fun s101 wr => s101 = .bool false ∧ Kp w wr [(B7, (.cells #[.int .i64 r1, .int .i64 r2, .int .i64 r3, .int .i64 s1, .int .i64 s2, .int .i64 s3] 46 (0, 0))), (Bn, (.cells #[.int .u8 p, .int .u8 q] 60 (0, 0))), (Bv, (.cells #[.int .i64 a, .int .i64 b, .int .i64 c, .int .i64 d, .int .i64 i, .int .i64 f] 46 (0, 0))), (Bc, (.cells #[.int .i64 x, .int .i64 y, .int .i64 z, .int .i64 num, .int .i64 den] 25 (0, 0)))])
    case first =>
      obtain ⟨f0, f1, f2, f3, f4, f5⟩ := cells6 (K1.out.2 _ (.head _)); obtain ⟨v0, v1, v2, v3, v4, v5⟩ := cells6 (K1.out.2 _ (.tail _ (.tail _ (.head _))))
      go_wp2_with (first
        | (go_at_call 28; (with_reducible refine (D1.out _).mono ?_); rintro e w2 ⟨rfl, hb2⟩; have K2 := Lib.hid (K1.out.call hb2); clear hb2 f0 f1 f2 f3 f4 f5 v0 v1 v2 v3 v4 v5; obtain ⟨f0, f1, f2, f3, f4, f5⟩ := cells6 (K2.out.2 _ (.head _)); obtain ⟨v0, v1, v2, v3, v4, v5⟩ := cells6 (K2.out.2 _ (.tail _ (.tail _ (.head _)))))
        | (go_at_call 28; (with_reducible refine (D2.out _).mono ?_); rintro e w3 ⟨rfl, hb3⟩; have K3 := Lib.hid (K2.out.call hb3); clear hb3 f0 f1 f2 f3 f4 f5 v0 v1 v2 v3 v4 v5; obtain ⟨f0, f1, f2, f3, f4, f5⟩ := cells6 (K3.out.2 _ (.head _)); obtain ⟨v0, v1, v2, v3, v4, v5⟩ := cells6 (K3.out.2 _ (.tail _ (.tail _ (.head _)))))
        | (go_at_call 29; (with_reducible refine (P1.out _).mono ?_); rintro e w4 ⟨rfl, hb4⟩; have K4 := Lib.hid (K3.out.call hb4); clear hb4 f0 f1 f2 f3 f4 f5 v0 v1 v2 v3 v4 v5; obtain ⟨f0, f1, f2, f3, f4, f5⟩ := cells6 (K4.out.2 _ (.head _)); obtain ⟨v0, v1, v2, v3, v4, v5⟩ := cells6 (K4.out.2 _ (.tail _ (.tail _ (.head _)))))
        | (go_at_call 29; (with_reducible refine (P2.out _).mono ?_); rintro e w5 ⟨rfl, hb5⟩; have K5 := Lib.hid (K4.out.call hb5); clear hb5 f0 f1 f2 f3 f4 f5 v0 v1 v2 v3 v4 v5; obtain ⟨f0, f1, f2, f3, f4, f5⟩ := cells6 (K5.out.2 _ (.head _)); obtain ⟨v0, v1, v2, v3, v4, v5⟩ := cells6 (K5.out.2 _ (.tail _ (.tail _ (.head _)))))
        | (go_at_call 29; (with_reducible refine (P3.out _).mono ?_); rintro e w6 ⟨rfl, hb6⟩; have K6 := Lib.hid (K5.out.call hb6)))
      go_meet
      exact ⟨rfl, K6.out⟩
    case rest =>
      rename_i q1 hq1 q0 hq
      obtain ⟨rfl, hb⟩ := hcut
      refine hq _ _ ?_
      clear hq
      have HK1 := Lib.hid hq1
      clear hq1
      go_wp2_with fail
      refine HK1.out _ _ ?_
      have KD : Kp w _ [(Bn, (.cells #[.int .u8 p, .int .u8 q] 60 (0, 0))), (Bv, (.cells #[.int .i64 a, .int .i64 b, .int .i64 c, .int .i64 d, .int .i64 i, .int .i64 f] 46 (0, 0))), (Bc, (.cells #[.int .i64 x, .int .i64 y, .int .i64 z, .int .i64 num, .int .i64 den] 25 (0, 0)))] := hb.subs fun p hp => by
        simp only [List.mem_cons, List.not_mem_nil, or_false] at hp ⊢
        rcases hp with h | h | h <;> simp [h]
      unfold SWy6 at hT
      exact hT _ _ _ _ _ _ _ _ _ _ _ _ _ _ _ _ _ _ _ _ _ _ _ _ _ _ _ _ _ _ _ _ _ _ _ _ _ _ _ _ _ _ _ _ _ _ _ _ _ _ _ _ _ _ _ _ _ _ _ _ _ _ _ _ _ _ _ _ _ _ _ _ _ _ _ _ _ _ _ _ _ _ _ _ _ _ _ _ _ _ _ _ _ _ _ _ _ _ _ _ _ _ _ _ _ _ _ _ _ _ _ _ _ _ _ _ _ _ _ _ _ _ _ _ _ _ _ _ _ _ _ _ _ _ _ _ _ _ _ _ _ _ _ _ _ _ _ _ _ _ _ _ _ _ _ _ _ _ _ _ _ _ _ _ _ _ _ _ _ _ _ _ _ _ _ _ _ _ _ _ _ _ _ _ _ _ _ _ _ _ _ _ _ _ _ _ _ _ _ _ _ _ _ _ _ _ _ _ _ _ _ _ _ _ _ _ _ _ _ _ _ _ _ _ _ _ _ _ _ _ _ _ _ _ _ _ _ _ _ _ _ _ _ _ _ _ _ _ _ _ _ _ _ _ _ _ _ _ _ _ _ _ _ _ _ _ _ _ _ _ _ _ _ _ _ _ (KD)

set_option maxRecDepth 1000000 in
set_option maxHeartbeats 12800000 in
theorem sw6 (w : World) (x y z num den a b c d i f p q hf : Int) (m wd : Bool) (hq : IntKind.i64.wrap (num.tdiv 2) = hf)
    (M1 : Hid (∀ w1 : World, Calls Tryz.prog 8 #[.agg #[.int .i64 x, .int .i64 y, .int .i64 z, .int .i64 num, .int .i64 den], .agg #[.int .i64 a, .int .i64 b, .int .i64 c], .agg #[.int .i64 d, .int .i64 i, .int .i64 f]] w1 fun e w' => e = .returned (.tuple #[.bool m, .int .i64 0]) ∧ Below w1.heap.size w1 w'))
    (M2 : Hid (∀ w1 : World, Calls Tryz.prog 8 #[.agg #[.int .i64 x, .int .i64 y, .int .i64 z, .int .i64 num, .int .i64 den], .agg #[.int .i64 d, .int .i64 i, .int .i64 f], .agg #[.int .i64 a, .int .i64 b, .int .i64 c]] w1 fun e w' => e = .returned (.tuple #[.bool m, .int .i64 0]) ∧ Below w1.heap.size w1 w'))
    (M3 : Hid (∀ w1 : World, Calls Tryz.prog 8 #[.agg #[.int .i64 x, .int .i64 y, .int .i64 z, .int .i64 hf, .int .i64 den], .agg #[.int .i64 a, .int .i64 b, .int .i64 c], .agg #[.int .i64 d, .int .i64 i, .int .i64 f]] w1 fun e w' => e = .returned (.tuple #[.bool wd, .int .i64 0]) ∧ Below w1.heap.size w1 w'))
    (hT : SWy11 w x y z num den a b c d i f p q m wd) : SWy6 w x y z num den a b c d i f p q := by
  unfold SWy6
  intro wx Bc Bv Bn u0 u1 u2 u7 u8 u9 u10 u11 u12 u13 u14 u15 u16 u17 u18 u19 u20 u21 u22 u23 u24 u25 u26 u27 u28 u29 u30 u31 u32 u33 u34 u35 u36 u37 u38 u39 u40 u41 u42 u43 u44 u45 u46 u47 u48 u49 u50 u51 u52 u53 u54 u55 u56 u57 u58 u59 u60 u61 u62 u63 u64 u65 u66 u67 u68 u69 u70 u71 u72 u73 u74 u75 u76 u77 u78 u79 u80 u81 u82 u83 u84 u85 u86 u87 u88 u89 u90 u91 u92 u93 u94 u95 u96 u97 u98 u99 u100 u101 u102 u103 u104 u105 u106 u107 u108 u109 u110 u111 u112 u113 u114 u115 u116 u117 u118 u119 u120 u121 u122 u123 u124 u125 u126 u127 u128 u129 u130 u131 u132 u133 u134 u135 u136 u137 u138 u139 u140 u141 u142 u143 u144 u145 u146 u147 u148 u149 u150 u151 u152 u153 u154 u155 u156 u157 u158 u159 u160 u161 u162 u163 u164 u165 u166 u167 u168 u169 u170 u171 u172 u173 u174 u175 u176 u177 u178 u179 u180 u181 u182 u183 u184 u185 u186 u187 u188 u189 u190 u191 u192 u193 u194 u195 u196 u197 u198 u199 u200 u201 u202 u203 u204 u205 u206 u207 u208 u209 u210 u211 u212 u213 u214 u215 u216 u217 u218 u219 u220 u221 u222 u223 u224 u225 u226 u227 u228 u229 u230 u231 u232 u233 u234 u235 u236 u237 u238 u239 u240 u241 u242 u243 u244 u245 u246 u247 u248 u249 u250 u251 u252 u253 u254 u255 u256 u257 u258 u259 u260 u261 u262 u263 u264 u265 u266 u267 u268 u269 u270 u271 u272 u273 u274 u275 hk
  have K0 := Lib.hid hk
  clear hk
  conv => arg 2; whnf
  dsimp only
  go_upto_region 6 with fail
  go_cut [9, 10] (fun s9 s10 wr => s9 = .bool m ∧ s10 = .int .i64 0 ∧ Kp w wr [(Bn, (.cells #[.int .u8 p, .int .u8 q] 60 (0, 0))), (Bv, (.cells #[.int .i64 a, .int .i64 b, .int .i64 c, .int .i64 d, .int .i64 i, .int .i64 f] 46 (0, 0))), (Bc, (.cells #[.int .i64 x, .int .i64 y, .int .i64 z, .int .i64 num, .int .i64 den] 25 (0, 0)))])
  case first =>
    obtain ⟨g0, g1, g2, g3, g4⟩ := cells5 (K0.out.2 _ (.tail _ (.tail _ (.head _))))
    obtain ⟨h0, h1, h2, h3, h4, h5⟩ := cells6 (K0.out.2 _ (.tail _ (.head _)))
    go_wp2_with (first
      | (go_at_call 8; (with_reducible refine (M1.out _).mono ?_); rintro e w91 ⟨rfl, hb91⟩; have K91 := Lib.hid (K0.out.call hb91)))
    go_meet
    exact ⟨rfl, rfl, K91.out⟩
  case rest =>
    rename_i hK
    obtain ⟨rfl, rfl, hk⟩ := hcut
    refine hK _ _ ?_
    clear hK
    have K1 := Lib.hid hk
    clear hk K0
    go_upto_region 7 with fail
    go_cut [11, 12] (fun s11 s12 wr => s11 = .bool m ∧ s12 = .int .i64 0 ∧ Kp w wr [(Bn, (.cells #[.int .u8 p, .int .u8 q] 60 (0, 0))), (Bv, (.cells #[.int .i64 a, .int .i64 b, .int .i64 c, .int .i64 d, .int .i64 i, .int .i64 f] 46 (0, 0))), (Bc, (.cells #[.int .i64 x, .int .i64 y, .int .i64 z, .int .i64 num, .int .i64 den] 25 (0, 0)))])
    case first =>
      obtain ⟨g0, g1, g2, g3, g4⟩ := cells5 (K1.out.2 _ (.tail _ (.tail _ (.head _))))
      obtain ⟨h0, h1, h2, h3, h4, h5⟩ := cells6 (K1.out.2 _ (.tail _ (.head _)))
      go_wp2_with (first
        | (go_at_call 8; (with_reducible refine (M2.out _).mono ?_); rintro e w91 ⟨rfl, hb91⟩; have K91 := Lib.hid (K1.out.call hb91)))
      go_meet
      exact ⟨rfl, rfl, K91.out⟩
    case rest =>
      rename_i hK
      obtain ⟨rfl, rfl, hk⟩ := hcut
      refine hK _ _ ?_
      clear hK
      have K2 := Lib.hid hk
      clear hk K1
      obtain ⟨g0, g1, g2, g3, g4⟩ := cells5 (K2.out.2 _ (.tail _ (.tail _ (.head _))))
      obtain ⟨e0, e1, e2, e3, e4⟩ := cells5 ((K2.out.alloc (.cells #[.int .i64 x, .int .i64 y, .int .i64 z, .int .i64 num, .int .i64 den] 25)).2 _ (.tail _ (.tail _ (.tail _ (.head _)))))
      go_upto_region 10 with fail
      clear g0 g1 g2 g3 g4 e0 e1 e2 e3 e4
      have iN := lt_of_blk (K2.out.2 _ (.head _))
      have iv := lt_of_blk (K2.out.2 _ (.tail _ (.head _)))
      have ic := lt_of_blk (K2.out.2 _ (.tail _ (.tail _ (.head _))))
      have iw := (Kp.below K2.out).size
      refine wp_world (fun w' => Kp w w' [(wc.heap.size, (.cells #[.int .i64 x, .int .i64 y, .int .i64 z, .int .i64 hf, .int .i64 den] 25 (0, 0))), (Bn, (.cells #[.int .u8 p, .int .u8 q] 60 (0, 0))), (Bv, (.cells #[.int .i64 a, .int .i64 b, .int .i64 c, .int .i64 d, .int .i64 i, .int .i64 f] 46 (0, 0))), (Bc, (.cells #[.int .i64 x, .int .i64 y, .int .i64 z, .int .i64 num, .int .i64 den] 25 (0, 0)))]) ?_ fun w6 k6 => ?_
      · exact K2.out.alloc (.cells #[.int .i64 x, .int .i64 y, .int .i64 z, .int .i64 hf, .int .i64 den] 25)
      obtain ⟨B13, hB13⟩ : ∃ B13, wc.heap.size = B13 := ⟨_, rfl⟩
      rw [hB13] at k6 ⊢
      have K3 := Lib.hid k6
      clear k6 K2 hB13 iN iv ic iw
      go_upto_region 10 with fail
      go_cut [14, 15] (fun s14 s15 wr => s14 = .bool wd ∧ s15 = .int .i64 0 ∧ Kp w wr [(B13, (.cells #[.int .i64 x, .int .i64 y, .int .i64 z, .int .i64 hf, .int .i64 den] 25 (0, 0))), (Bn, (.cells #[.int .u8 p, .int .u8 q] 60 (0, 0))), (Bv, (.cells #[.int .i64 a, .int .i64 b, .int .i64 c, .int .i64 d, .int .i64 i, .int .i64 f] 46 (0, 0))), (Bc, (.cells #[.int .i64 x, .int .i64 y, .int .i64 z, .int .i64 num, .int .i64 den] 25 (0, 0)))])
      case first =>
        obtain ⟨g0, g1, g2, g3, g4⟩ := cells5 (K3.out.2 _ (.head _))
        obtain ⟨h0, h1, h2, h3, h4, h5⟩ := cells6 (K3.out.2 _ (.tail _ (.tail _ (.head _))))
        go_wp2_with (first
          | (go_at_call 8; (with_reducible refine (M3.out _).mono ?_); rintro e w91 ⟨rfl, hb91⟩; have K91 := Lib.hid (K3.out.call hb91)))
        go_meet
        exact ⟨rfl, rfl, K91.out⟩
      case rest =>
        rename_i hK
        obtain ⟨rfl, rfl, hk⟩ := hcut
        refine hK _ _ ?_
        clear hK
        have K4 := Lib.hid hk
        clear hk K3
        unfold SWy11 at hT
        exact hT _ _ _ _ _ _ _ _ _ _ _ _ _ _ _ _ _ _ _ _ _ _ _ _ _ _ _ _ _ _ _ _ _ _ _ _ _ _ _ _ _ _ _ _ _ _ _ _ _ _ _ _ _ _ _ _ _ _ _ _ _ _ _ _ _ _ _ _ _ _ _ _ _ _ _ _ _ _ _ _ _ _ _ _ _ _ _ _ _ _ _ _ _ _ _ _ _ _ _ _ _ _ _ _ _ _ _ _ _ _ _ _ _ _ _ _ _ _ _ _ _ _ _ _ _ _ _ _ _ _ _ _ _ _ _ _ _ _ _ _ _ _ _ _ _ _ _ _ _ _ _ _ _ _ _ _ _ _ _ _ _ _ _ _ _ _ _ _ _ _ _ _ _ _ _ _ _ _ _ _ _ _ _ _ _ _ _ _ _ _ _ _ _ _ _ _ _ _ _ _ _ _ _ _ _ _ _ _ _ _ _ _ _ _ _ _ _ _ _ _ _ _ _ _ _ _ _ _ _ _ _ _ _ _ _ _ _ _ _ _ _ _ _ _ _ _ _ _ _ _ _ _ _ _ _ _ _ _ _ _ _ _ _ _ _ _ _ _ _ _ (K4.out.subs fun p hp => .tail _ hp)

set_option maxRecDepth 1000000 in
set_option maxHeartbeats 12800000 in
theorem sw11_t (w : World) (x y z num den a b c d i f p q : Int) (hT : SWy13 w x y z num den a b c d i f p q true) : SWy11 w x y z num den a b c d i f p q true true := by
  unfold SWy11
  intro wx Bc Bv Bn u0 u1 u2 u7 u8 u13 u16 u17 u18 u19 u20 u21 u22 u23 u24 u25 u26 u27 u28 u29 u30 u31 u32 u33 u34 u35 u36 u37 u38 u39 u40 u41 u42 u43 u44 u45 u46 u47 u48 u49 u50 u51 u52 u53 u54 u55 u56 u57 u58 u59 u60 u61 u62 u63 u64 u65 u66 u67 u68 u69 u70 u71 u72 u73 u74 u75 u76 u77 u78 u79 u80 u81 u82 u83 u84 u85 u86 u87 u88 u89 u90 u91 u92 u93 u94 u95 u96 u97 u98 u99 u100 u101 u102 u103 u104 u105 u106 u107 u108 u109 u110 u111 u112 u113 u114 u115 u116 u117 u118 u119 u120 u121 u122 u123 u124 u125 u126 u127 u128 u129 u130 u131 u132 u133 u134 u135 u136 u137 u138 u139 u140 u141 u142 u143 u144 u145 u146 u147 u148 u149 u150 u151 u152 u153 u154 u155 u156 u157 u158 u159 u160 u161 u162 u163 u164 u165 u166 u167 u168 u169 u170 u171 u172 u173 u174 u175 u176 u177 u178 u179 u180 u181 u182 u183 u184 u185 u186 u187 u188 u189 u190 u191 u192 u193 u194 u195 u196 u197 u198 u199 u200 u201 u202 u203 u204 u205 u206 u207 u208 u209 u210 u211 u212 u213 u214 u215 u216 u217 u218 u219 u220 u221 u222 u223 u224 u225 u226 u227 u228 u229 u230 u231 u232 u233 u234 u235 u236 u237 u238 u239 u240 u241 u242 u243 u244 u245 u246 u247 u248 u249 u250 u251 u252 u253 u254 u255 u256 u257 u258 u259 u260 u261 u262 u263 u264 u265 u266 u267 u268 u269 u270 u271 u272 u273 u274 u275 hk
  have K0 := Lib.hid hk
  clear hk
  conv => arg 2; whnf
  dsimp only
  go_upto_region 11 with fail
  go_cut [155] (fun s155 wr => s155 = .bool false ∧ Kp w wr [(Bn, (.cells #[.int .u8 p, .int .u8 q] 60 (0, 0))), (Bv, (.cells #[.int .i64 a, .int .i64 b, .int .i64 c, .int .i64 d, .int .i64 i, .int .i64 f] 46 (0, 0))), (Bc, (.cells #[.int .i64 x, .int .i64 y, .int .i64 z, .int .i64 num, .int .i64 den] 25 (0, 0)))])
  case first =>
    go_wp2_with fail
    go_meet
    exact ⟨rfl, K0.out⟩
  case rest =>
    rename_i q1 hq1 q0 hq
    obtain ⟨rfl, hb⟩ := hcut
    refine hq _ _ ?_
    clear hq
    have HK1 := Lib.hid hq1
    clear hq1
    go_wp2_with fail
    refine HK1.out _ _ ?_
    have KD : Kp w _ [(Bn, (.cells #[.int .u8 p, .int .u8 q] 60 (0, 0))), (Bv, (.cells #[.int .i64 a, .int .i64 b, .int .i64 c, .int .i64 d, .int .i64 i, .int .i64 f] 46 (0, 0))), (Bc, (.cells #[.int .i64 x, .int .i64 y, .int .i64 z, .int .i64 num, .int .i64 den] 25 (0, 0)))] := hb.subs fun p hp => by
      simp only [List.mem_cons, List.not_mem_nil, or_false] at hp ⊢
      rcases hp with h | h | h <;> simp [h]
    unfold SWy13 at hT
    exact hT _ _ _ _ _ _ _ _ _ _ _ _ _ _ _ _ _ _ _ _ _ _ _ _ _ _ _ _ _ _ _ _ _ _ _ _ _ _ _ _ _ _ _ _ _ _ _ _ _ _ _ _ _ _ _ _ _ _ _ _ _ _ _ _ _ _ _ _ _ _ _ _ _ _ _ _ _ _ _ _ _ _ _ _ _ _ _ _ _ _ _ _ _ _ _ _ _ _ _ _ _ _ _ _ _ _ _ _ _ _ _ _ _ _ _ _ _ _ _ _ _ _ _ _ _ _ _ _ _ _ _ _ _ _ _ _ _ _ _ _ _ _ _ _ _ _ _ _ _ _ _ _ _ _ _ _ _ _ _ _ _ _ _ _ _ _ _ _ _ _ _ _ _ _ _ _ _ _ _ _ _ _ _ _ _ _ _ _ _ _ _ _ _ _ _ _ _ _ _ _ _ _ _ _ _ _ _ _ _ _ _ _ _ _ _ _ _ _ _ _ _ _ _ _ _ _ _ _ _ _ _ _ _ _ _ _ _ _ _ _ _ _ _ _ _ _ _ _ _ _ _ _ _ _ _ _ _ _ _ _ _ _ _ _ _ _ _ _ _ _ _ _ _ _ _ (KD)

set_option maxRecDepth 1000000 in
set_option maxHeartbeats 12800000 in
theorem sw11_f (w : World) (x y z num den a b c d i f p q : Int) (wd : Bool) (hT : SWy13 w x y z num den a b c d i f p q false) : SWy11 w x y z num den a b c d i f p q false wd := by
  unfold SWy11
  intro wx Bc Bv Bn u0 u1 u2 u7 u8 u13 u16 u17 u18 u19 u20 u21 u22 u23 u24 u25 u26 u27 u28 u29 u30 u31 u32 u33 u34 u35 u36 u37 u38 u39 u40 u41 u42 u43 u44 u45 u46 u47 u48 u49 u50 u51 u52 u53 u54 u55 u56 u57 u58 u59 u60 u61 u62 u63 u64 u65 u66 u67 u68 u69 u70 u71 u72 u73 u74 u75 u76 u77 u78 u79 u80 u81 u82 u83 u84 u85 u86 u87 u88 u89 u90 u91 u92 u93 u94 u95 u96 u97 u98 u99 u100 u101 u102 u103 u104 u105 u106 u107 u108 u109 u110 u111 u112 u113 u114 u115 u116 u117 u118 u119 u120 u121 u122 u123 u124 u125 u126 u127 u128 u129 u130 u131 u132 u133 u134 u135 u136 u137 u138 u139 u140 u141 u142 u143 u144 u145 u146 u147 u148 u149 u150 u151 u152 u153 u154 u155 u156 u157 u158 u159 u160 u161 u162 u163 u164 u165 u166 u167 u168 u169 u170 u171 u172 u173 u174 u175 u176 u177 u178 u179 u180 u181 u182 u183 u184 u185 u186 u187 u188 u189 u190 u191 u192 u193 u194 u195 u196 u197 u198 u199 u200 u201 u202 u203 u204 u205 u206 u207 u208 u209 u210 u211 u212 u213 u214 u215 u216 u217 u218 u219 u220 u221 u222 u223 u224 u225 u226 u227 u228 u229 u230 u231 u232 u233 u234 u235 u236 u237 u238 u239 u240 u241 u242 u243 u244 u245 u246 u247 u248 u249 u250 u251 u252 u253 u254 u255 u256 u257 u258 u259 u260 u261 u262 u263 u264 u265 u266 u267 u268 u269 u270 u271 u272 u273 u274 u275 hk
  have K0 := Lib.hid hk
  clear hk
  conv => arg 2; whnf
  dsimp only
  go_upto_region 11 with fail
  go_cut [155] (fun s155 wr => s155 = .bool false ∧ Kp w wr [(Bn, (.cells #[.int .u8 p, .int .u8 q] 60 (0, 0))), (Bv, (.cells #[.int .i64 a, .int .i64 b, .int .i64 c, .int .i64 d, .int .i64 i, .int .i64 f] 46 (0, 0))), (Bc, (.cells #[.int .i64 x, .int .i64 y, .int .i64 z, .int .i64 num, .int .i64 den] 25 (0, 0)))])
  case first =>
    go_wp2_with fail
    go_meet
    exact ⟨rfl, K0.out⟩
  case rest =>
    rename_i q1 hq1 q0 hq
    obtain ⟨rfl, hb⟩ := hcut
    refine hq _ _ ?_
    clear hq
    have HK1 := Lib.hid hq1
    clear hq1
    go_wp2_with fail
    refine HK1.out _ _ ?_
    have KD : Kp w _ [(Bn, (.cells #[.int .u8 p, .int .u8 q] 60 (0, 0))), (Bv, (.cells #[.int .i64 a, .int .i64 b, .int .i64 c, .int .i64 d, .int .i64 i, .int .i64 f] 46 (0, 0))), (Bc, (.cells #[.int .i64 x, .int .i64 y, .int .i64 z, .int .i64 num, .int .i64 den] 25 (0, 0)))] := hb.subs fun p hp => by
      simp only [List.mem_cons, List.not_mem_nil, or_false] at hp ⊢
      rcases hp with h | h | h <;> simp [h]
    unfold SWy13 at hT
    exact hT _ _ _ _ _ _ _ _ _ _ _ _ _ _ _ _ _ _ _ _ _ _ _ _ _ _ _ _ _ _ _ _ _ _ _ _ _ _ _ _ _ _ _ _ _ _ _ _ _ _ _ _ _ _ _ _ _ _ _ _ _ _ _ _ _ _ _ _ _ _ _ _ _ _ _ _ _ _ _ _ _ _ _ _ _ _ _ _ _ _ _ _ _ _ _ _ _ _ _ _ _ _ _ _ _ _ _ _ _ _ _ _ _ _ _ _ _ _ _ _ _ _ _ _ _ _ _ _ _ _ _ _ _ _ _ _ _ _ _ _ _ _ _ _ _ _ _ _ _ _ _ _ _ _ _ _ _ _ _ _ _ _ _ _ _ _ _ _ _ _ _ _ _ _ _ _ _ _ _ _ _ _ _ _ _ _ _ _ _ _ _ _ _ _ _ _ _ _ _ _ _ _ _ _ _ _ _ _ _ _ _ _ _ _ _ _ _ _ _ _ _ _ _ _ _ _ _ _ _ _ _ _ _ _ _ _ _ _ _ _ _ _ _ _ _ _ _ _ _ _ _ _ _ _ _ _ _ _ _ _ _ _ _ _ _ _ _ _ _ _ _ _ _ _ _ (KD)

end Go.Proofs.YtggffhmdgceljaaGreatDoor
