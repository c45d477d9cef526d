/-
  The walk of SunBisects: opposite vectors, and the others up to region 35.
-/
import Derived.Test.YtggffhmdgceljaaGreatDoorRows
import Derived.WalkKit
import Derived.WalkSpells
import Derived.WalkLawsBesides
import Derived.Lib.Hide
import Derived.BigQuiet
import Derived.Deep.QuietTactic
import Derived.Handy
import Derived.Deep.RegionHeld3
import Derived.Deep.RegionWith
import Derived.StillTailTactics
import Derived.RangeFuncNested
import Derived.RangeFuncBound
import Derived.RangeFuncCalls
import Derived.RangeFuncLeaves
import Derived.RangeFuncBox
import Derived.Shelf.Abstract
import Derived.Shelf.RegionOpen
import Derived.OwnWalkIn
import Derived.TacticsInMore
import Derived.LoopNIn
import Derived.LoopIn
import Derived.Maps.AppendAt
import Derived.Test.YtggffhmdgceljaaGreatDoorProg
import Derived.Laws.FloatArith
import Derived.Laws.BitsAllLaws
import Derived.Deep.DeepCutAuto
import Derived.Stop.BytesEq
import Derived.Deep.MidRow
import Derived.Laws.CopyRow
import Derived.WalkMore
import Derived.Deep.DrawnRows
import Derived.Deep.CutBlock
import Derived.Orders
import Derived.LoopTactic
import Derived.Laws.StructEq
import Derived.Deep.RegionLaw
import Derived.RegionTactic
import Derived.StillTail
import Derived.Laws.RangeString
import Derived.Laws.RangeAny
import Derived.Shelf.Strings.Builder1
import Derived.Shelf.Strings.OnBuilder
import Derived.Shelf.LaysM
import Derived.Shelf.Strconv.Itoa3
import Derived.Lib.AppendIntMem
import Derived.Lib.ItoaLen
import Derived.RowKit
import Derived.Test.YtggffhmdgceljaaGreatDoorOuaWn
import Derived.Test.YtggffhmdgceljaaGreatDoorOuaXe
import Derived.Test.YtggffhmdgceljaaGreatDoorOuaIb
import Derived.Test.YtggffhmdgceljaaGreatDoorOuaIl
import Derived.Test.YtggffhmdgceljaaGreatDoorOuaId
import Derived.Test.YtggffhmdgceljaaGreatDoorOuaNc
import Derived.Test.YtggffhmdgceljaaGreatDoorOuaNi
import Derived.Test.YtggffhmdgceljaaGreatDoorOuaNv
import Derived.Test.YtggffhmdgceljaaGreatDoorOuaWo
import Derived.Test.YtggffhmdgceljaaGreatDoorOuaNo
import Derived.Test.YtggffhmdgceljaaGreatDoorOuaNy
import Derived.Test.YtggffhmdgceljaaGreatDoorOuaAj
import Derived.Test.YtggffhmdgceljaaGreatDoorOuaIx
namespace Go.Proofs.YtggffhmdgceljaaGreatDoor
open Go.RowKit
set_option linter.unusedVariables false
set_option linter.unusedSimpArgs false
set_option maxRecDepth 1000000 in
set_option maxHeartbeats 12800000 in
theorem bs32_opp (w : World) (x y z a b c a1 a2 a3 b1 b2 b3 t1 t2 t3 : Int)
    (e1 : (b1 == t1) = true) (e2 : (b2 == t2) = true) (e3 : (b3 == t3) = true)
    (KT : Hid (∀ w1 : World, Calls Tryz.prog 23 #[.agg #[.int .i64 a1, .int .i64 a2, .int .i64 a3], .int .i64 (-1)] w1 fun e w' => e = .returned (.agg #[.int .i64 t1, .int .i64 t2, .int .i64 t3]) ∧ Below w1.heap.size w1 w'))
    (KW : Hid (∀ w1 : World, Below w.heap.size w w1 → Calls Tryz.prog 17 #[] w1 fun e w' => e = .returned (.bool true) ∧ Below w1.heap.size w1 w'))
    : SBs32 w x y z a b c a1 a2 a3 b1 b2 b3 0 0 0 6 := by
  unfold SBs32
  intro wx B8 B16 B18 B20 B22 B24 u0 u1 u2 u3 u5 u6 u7 u9 u10 u11 u12 u13 u14 u15 u17 u19 u26 u27 u28 u29 u30 u31 u32 u33 u34 u35 u36 u37 u38 u39 u40 u41 u42 u43 u44 u45 u46 u47 u48 u49 u50 u51 u52 u53 u54 u55 u56 u57 u58 u59 u60 u61 u62 u63 u64 u65 u66 u67 u68 u69 u70 u71 u72 u73 u74 u75 u76 u77 u78 u79 u80 u81 u82 u83 u84 u85 u86 u87 u88 u89 u90 u91 u92 u93 u94 u95 u96 u97 u98 u99 u100 u101 u102 u103 u104 u105 u106 u107 u108 u109 u110 u111 u112 u113 u114 u115 u116 u117 u118 u119 u120 u121 u122 u123 u124 u125 u126 u127 u128 u129 u130 u131 u132 u133 u134 u135 u136 u137 u138 u139 u140 u141 u142 u143 u144 u145 u146 u147 u148 u149 u150 u151 u152 u153 u154 u155 u156 u157 u158 u159 u160 u161 u162 u163 u164 u165 u166 u167 u168 u169 u170 u171 u172 u173 u174 u175 u176 u177 u178 u179 u180 u181 u182 u183 u184 u185 u186 u187 u188 u189 u190 u191 u192 u193 u194 u195 u196 u197 u198 u199 u200 u201 u202 u203 u204 u205 u206 u207 u208 u209 u210 u211 u212 u213 u214 u215 u216 u217 u218 u219 u220 u221 u222 u223 u224 u225 u226 u227 u228 u229 u230 u231 u232 u233 u234 u235 u236 u237 u238 u239 u240 u241 u242 u243 u244 u245 u246 u247 u248 u249 u250 u251 u252 u253 u254 u255 u256 u257 u258 u259 u260 u261 u262 u263 u264 u265 u266 u267 u268 u269 u270 u271 u272 u273 u274 u275 u276 u277 u278 u279 u280 u281 u282 u283 u284 u285 u286 u287 u288 u289 u290 u291 u292 u293 u294 u295 hk
  have K0 := Lib.hid hk
  clear hk
  conv => arg 2; whnf
  dsimp only
  go_upto_region 32 with fail
  go_cut [187] (fun s187 wr => s187 = .bool true ∧ Kp w wr [(B24, (.cells #[.int .i64 0, .int .i64 0, .int .i64 0] 23 (0, 0))), (B22, (.cells #[.int .i64 0, .int .i64 0, .int .i64 0] 23 (0, 0))), (B20, (.cells #[.int .i64 0, .int .i64 0, .int .i64 0] 23 (0, 0))), (B18, (.cells #[.int .i64 b1, .int .i64 b2, .int .i64 b3] 23 (0, 0))), (B16, (.cells #[.int .i64 a1, .int .i64 a2, .int .i64 a3] 23 (0, 0))), (B8, (.cells #[.int .i64 x, .int .i64 y, .int .i64 z, .int .i64 a, .int .i64 b, .int .i64 c] 46 (0, 0)))])
  case first =>
    apply wp_region_gives 3 (fun w' => Blw wx.heap.size wx w') [.agg #[.int .i64 b1, .int .i64 b2, .int .i64 b3], .agg #[.int .i64 a1, .int .i64 a2, .int .i64 a3], .agg #[.int .i64 t1, .int .i64 t2, .int .i64 t3]] (by kernel_rfl) (by kernel_rfl) (by kernel_rfl) (show Below _ _ _ from (Below.refl _ _).drew)
    case haF =>
      simp [putJs, Act.put, List.range, List.range.loop]
      exact rfl
    case h =>
      have hBe := K0.out.2 _ (.tail _ (.tail _ (.tail _ (.head _))))
      have hBh := K0.out.2 _ (.tail _ (.tail _ (.tail _ (.tail _ (.head _)))))
      simp only [List.take_succ_cons, List.take_zero, GivesL]
      refine ⟨?_, ?_, ?_, trivial⟩
      all_goals
        intro w1 hw1
        obtain ⟨e_0, e_1, e_2⟩ := cells3 (((show Below _ _ _ from hw1).block _ (lt_of_blk hBe)).trans hBe)
        obtain ⟨h_0, h_1, h_2⟩ := cells3 (((show Below _ _ _ from hw1).block _ (lt_of_blk hBh)).trans hBh)
        unfold Oper.wp
        simp only [execOp]
        go_simp <;> first
          | exact ⟨rfl, hw1⟩
          | ((with_reducible refine (KT.out _).mono ?_); rintro e w2 ⟨rfl, hb⟩; exact ⟨rfl, below_call hb hw1⟩)
    case ht =>
      intro w5 hw5
      have K5 := K0.out.call (show Below _ _ _ from hw5)
      simp only [List.drop_succ_cons, List.drop_zero]
      go_wp2_with fail
      go_meet
      exact ⟨rfl, K5⟩
  case rest =>
    rename_i hK
    obtain ⟨rfl, hk⟩ := hcut
    refine hK _ _ ?_
    clear hK
    have KF := Lib.hid hk
    clear hk K0
    go_wp2_with (first
      | (go_at_call 17; (with_reducible refine (KW.out _ KF.out.below).mono ?_); rintro e w99 ⟨rfl, hb99⟩; have K99 := Lib.hid (KF.out.call hb99)))
    go_ret
    exact ⟨rfl, K99.out.below⟩

set_option maxRecDepth 1000000 in
set_option maxHeartbeats 12800000 in
theorem bs32_other (w : World) (x y z a b c a1 a2 a3 b1 b2 b3 t1 t2 t3 n1 n2 n3 : Int)
    (v1 v2 v3 : Bool) (e1 : (b1 == t1) = v1) (e2 : (b2 == t2) = v2) (e3 : (b3 == t3) = v3) (hv : (v1 && (v2 && v3)) = false)
    (KT : Hid (∀ w1 : World, Calls Tryz.prog 23 #[.agg #[.int .i64 a1, .int .i64 a2, .int .i64 a3], .int .i64 (-1)] w1 fun e w' => e = .returned (.agg #[.int .i64 t1, .int .i64 t2, .int .i64 t3]) ∧ Below w1.heap.size w1 w'))
    (KR : Hid (∀ w1 : World, Calls Tryz.prog 11 #[.agg #[.int .i64 n1, .int .i64 n2, .int .i64 n3]] w1 fun e w' => e = .returned (.int .i64 0) ∧ Below w1.heap.size w1 w'))
    (hT : SBs36 w x y z a b c a1 a2 a3 b1 b2 b3 n1 n2 n3) : SBs32 w x y z a b c a1 a2 a3 b1 b2 b3 n1 n2 n3 0 := by
  unfold SBs32
  intro wx B8 B16 B18 B20 B22 B24 u0 u1 u2 u3 u5 u6 u7 u9 u10 u11 u12 u13 u14 u15 u17 u19 u26 u27 u28 u29 u30 u31 u32 u33 u34 u35 u36 u37 u38 u39 u40 u41 u42 u43 u44 u45 u46 u47 u48 u49 u50 u51 u52 u53 u54 u55 u56 u57 u58 u59 u60 u61 u62 u63 u64 u65 u66 u67 u68 u69 u70 u71 u72 u73 u74 u75 u76 u77 u78 u79 u80 u81 u82 u83 u84 u85 u86 u87 u88 u89 u90 u91 u92 u93 u94 u95 u96 u97 u98 u99 u100 u101 u102 u103 u104 u105 u106 u107 u108 u109 u110 u111 u112 u113 u114 u115 u116 u117 u118 u119 u120 u121 u122 u123 u124 u125 u126 u127 u128 u129 u130 u131 u132 u133 u134 u135 u136 u137 u138 u139 u140 u141 u142 u143 u144 u145 u146 u147 u148 u149 u150 u151 u152 u153 u154 u155 u156 u157 u158 u159 u160 u161 u162 u163 u164 u165 u166 u167 u168 u169 u170 u171 u172 u173 u174 u175 u176 u177 u178 u179 u180 u181 u182 u183 u184 u185 u186 u187 u188 u189 u190 u191 u192 u193 u194 u195 u196 u197 u198 u199 u200 u201 u202 u203 u204 u205 u206 u207 u208 u209 u210 u211 u212 u213 u214 u215 u216 u217 u218 u219 u220 u221 u222 u223 u224 u225 u226 u227 u228 u229 u230 u231 u232 u233 u234 u235 u236 u237 u238 u239 u240 u241 u242 u243 u244 u245 u246 u247 u248 u249 u250 u251 u252 u253 u254 u255 u256 u257 u258 u259 u260 u261 u262 u263 u264 u265 u266 u267 u268 u269 u270 u271 u272 u273 u274 u275 u276 u277 u278 u279 u280 u281 u282 u283 u284 u285 u286 u287 u288 u289 u290 u291 u292 u293 u294 u295 hk
  have K0 := Lib.hid hk
  clear hk
  conv => arg 2; whnf
  dsimp only
  go_upto_region 32 with fail
  go_cut [187] (fun s187 wr => s187 = .bool false ∧ Kp w wr [(B24, (.cells #[.int .i64 n1, .int .i64 n2, .int .i64 n3] 23 (0, 0))), (B22, (.cells #[.int .i64 n1, .int .i64 n2, .int .i64 n3] 23 (0, 0))), (B20, (.cells #[.int .i64 n1, .int .i64 n2, .int .i64 n3] 23 (0, 0))), (B18, (.cells #[.int .i64 b1, .int .i64 b2, .int .i64 b3] 23 (0, 0))), (B16, (.cells #[.int .i64 a1, .int .i64 a2, .int .i64 a3] 23 (0, 0))), (B8, (.cells #[.int .i64 x, .int .i64 y, .int .i64 z, .int .i64 a, .int .i64 b, .int .i64 c] 46 (0, 0)))])
  case first =>
    apply wp_region_gives 3 (fun w' => Blw wx.heap.size wx w') [.agg #[.int .i64 b1, .int .i64 b2, .int .i64 b3], .agg #[.int .i64 a1, .int .i64 a2, .int .i64 a3], .agg #[.int .i64 t1, .int .i64 t2, .int .i64 t3]] (by kernel_rfl) (by kernel_rfl) (by kernel_rfl) (show Below _ _ _ from (Below.refl _ _).drew)
    case haF =>
      simp [putJs, Act.put, List.range, List.range.loop]
      exact rfl
    case h =>
      have hBe := K0.out.2 _ (.tail _ (.tail _ (.tail _ (.head _))))
      have hBh := K0.out.2 _ (.tail _ (.tail _ (.tail _ (.tail _ (.head _)))))
      simp only [List.take_succ_cons, List.take_zero, GivesL]
      refine ⟨?_, ?_, ?_, trivial⟩
      all_goals
        intro w1 hw1
        obtain ⟨e_0, e_1, e_2⟩ := cells3 (((show Below _ _ _ from hw1).block _ (lt_of_blk hBe)).trans hBe)
        obtain ⟨h_0, h_1, h_2⟩ := cells3 (((show Below _ _ _ from hw1).block _ (lt_of_blk hBh)).trans hBh)
        unfold Oper.wp
        simp only [execOp]
        go_simp <;> first
          | exact ⟨rfl, hw1⟩
          | ((with_reducible refine (KT.out _).mono ?_); rintro e w2 ⟨rfl, hb⟩; exact ⟨rfl, below_call hb hw1⟩)
    case ht =>
      intro w5 hw5
      have K5 := K0.out.call (show Below _ _ _ from hw5)
      simp only [List.drop_succ_cons, List.drop_zero]
      cases v1 <;> cases v2 <;> cases v3 <;> first
        | exact absurd hv (by decide)
        | (go_wp2_with fail; go_meet; exact ⟨rfl, K5⟩)
  case rest =>
    rename_i hK
    obtain ⟨rfl, hk⟩ := hcut
    refine hK _ _ ?_
    clear hK
    have KF := Lib.hid hk
    clear hk K0
    go_upto_region 34 with fail
    go_cut [225] (fun s225 wr => s225 = .bool false ∧ Kp w wr [(B24, (.cells #[.int .i64 n1, .int .i64 n2, .int .i64 n3] 23 (0, 0))), (B22, (.cells #[.int .i64 n1, .int .i64 n2, .int .i64 n3] 23 (0, 0))), (B20, (.cells #[.int .i64 n1, .int .i64 n2, .int .i64 n3] 23 (0, 0))), (B18, (.cells #[.int .i64 b1, .int .i64 b2, .int .i64 b3] 23 (0, 0))), (B16, (.cells #[.int .i64 a1, .int .i64 a2, .int .i64 a3] 23 (0, 0))), (B8, (.cells #[.int .i64 x, .int .i64 y, .int .i64 z, .int .i64 a, .int .i64 b, .int .i64 c] 46 (0, 0)))])
    case first =>
      obtain ⟨g0, g1, g2⟩ := cells3 (KF.out.2 _ (.head _))
      obtain ⟨h0, h1, h2⟩ := cells3 (KF.out.2 _ (.tail _ (.head _)))
      obtain ⟨k0, k1, k2⟩ := cells3 (KF.out.2 _ (.tail _ (.tail _ (.head _))))
      go_wp2_with (first
        | (go_at_call 11; (with_reducible refine (KR.out _).mono ?_); rintro e w60 ⟨rfl, hb60⟩; have K60 := Lib.hid (KF.out.call hb60)))
      go_meet
      exact ⟨rfl, K60.out⟩
    case rest =>
      rename_i q1 hq1 q0 hq
      obtain ⟨rfl, hb⟩ := hcut
      refine hq _ _ ?_
      clear hq
      have HK1 := Lib.hid hq1
      clear hq1
      go_wp2_with fail
      refine HK1.out _ _ ?_
      have KD : Kp w wc [(B20, (.cells #[.int .i64 n1, .int .i64 n2, .int .i64 n3] 23 (0, 0))), (B18, (.cells #[.int .i64 b1, .int .i64 b2, .int .i64 b3] 23 (0, 0))), (B16, (.cells #[.int .i64 a1, .int .i64 a2, .int .i64 a3] 23 (0, 0))), (B8, (.cells #[.int .i64 x, .int .i64 y, .int .i64 z, .int .i64 a, .int .i64 b, .int .i64 c] 46 (0, 0)))] := hb.subs fun p hp => by
        simp only [List.mem_cons, List.not_mem_nil, or_false] at hp ⊢
        rcases hp with h | h | h | h <;> simp [h]
      unfold SBs36 at hT
      exact hT _ _ _ _ _ _ _ _ _ _ _ _ _ _ _ _ _ _ _ _ _ _ _ _ _ _ _ _ _ _ _ _ _ _ _ _ _ _ _ _ _ _ _ _ _ _ _ _ _ _ _ _ _ _ _ _ _ _ _ _ _ _ _ _ _ _ _ _ _ _ _ _ _ _ _ _ _ _ _ _ _ _ _ _ _ _ _ _ _ _ _ _ _ _ _ _ _ _ _ _ _ _ _ _ _ _ _ _ _ _ _ _ _ _ _ _ _ _ _ _ _ _ _ _ _ _ _ _ _ _ _ _ _ _ _ _ _ _ _ _ _ _ _ _ _ _ _ _ _ _ _ _ _ _ _ _ _ _ _ _ _ _ _ _ _ _ _ _ _ _ _ _ _ _ _ _ _ _ _ _ _ _ _ _ _ _ _ _ _ _ _ _ _ _ _ _ _ _ _ _ _ _ _ _ _ _ _ _ _ _ _ _ _ _ _ _ _ _ _ _ _ _ _ _ _ _ _ _ _ _ _ _ _ _ _ _ _ _ _ _ _ _ _ _ _ _ _ _ _ _ _ _ _ _ _ _ _ _ _ _ _ _ _ _ _ _ _ _ _ _ _ _ _ _ _ _ _ _ _ _ _ _ _ _ _ _ _ _ _ _ _ _ _ _ _ _ (KD)

end Go.Proofs.YtggffhmdgceljaaGreatDoor

/-
  The walk of SunBisects: from region 36 on.
-/
namespace Go.Proofs.YtggffhmdgceljaaGreatDoor
open Go.RowKit
set_option linter.unusedVariables false
set_option linter.unusedSimpArgs false
set_option maxRecDepth 1000000 in
set_option maxHeartbeats 12800000 in
theorem bs36 (w : World) (x y z a b c a1 a2 a3 b1 b2 b3 n1 n2 n3 : Int)
    (KI : Hid (∀ w1 : World, Calls Tryz.prog 24 #[.agg #[.int .i64 x, .int .i64 y, .int .i64 z], .agg #[.int .i64 n1, .int .i64 n2, .int .i64 n3]] w1 fun e w' => e = .returned (.tuple #[.agg #[.int .i64 b1, .int .i64 b2, .int .i64 b3], .int .i64 0]) ∧ Below w1.heap.size w1 w'))
    (KJ : Hid (∀ w1 : World, Calls Tryz.prog 24 #[.agg #[.int .i64 a, .int .i64 b, .int .i64 c], .agg #[.int .i64 n1, .int .i64 n2, .int .i64 n3]] w1 fun e w' => e = .returned (.tuple #[.agg #[.int .i64 a1, .int .i64 a2, .int .i64 a3], .int .i64 0]) ∧ Below w1.heap.size w1 w'))
    (hT : SBs38 w x y z a b c a1 a2 a3 b1 b2 b3 n1 n2 n3) : SBs36 w x y z a b c a1 a2 a3 b1 b2 b3 n1 n2 n3 := by
  unfold SBs36
  intro wx B8 B16 B18 B20 u0 u1 u2 u3 u5 u6 u7 u9 u10 u11 u12 u13 u14 u15 u17 u19 u21 u22 u23 u24 u25 u26 u27 u28 u29 u30 u31 u32 u33 u34 u35 u36 u37 u38 u39 u40 u41 u42 u43 u44 u45 u46 u47 u48 u49 u50 u51 u52 u53 u54 u55 u56 u57 u58 u59 u60 u61 u62 u63 u64 u65 u66 u67 u68 u69 u70 u71 u72 u73 u74 u75 u76 u77 u78 u79 u80 u81 u82 u83 u84 u85 u86 u87 u88 u89 u90 u91 u92 u93 u94 u95 u96 u97 u98 u99 u100 u101 u102 u103 u104 u105 u106 u107 u108 u109 u110 u111 u112 u113 u114 u115 u116 u117 u118 u119 u120 u121 u122 u123 u124 u125 u126 u127 u128 u129 u130 u131 u132 u133 u134 u135 u136 u137 u138 u139 u140 u141 u142 u143 u144 u145 u146 u147 u148 u149 u150 u151 u152 u153 u154 u155 u156 u157 u158 u159 u160 u161 u162 u163 u164 u165 u166 u167 u168 u169 u170 u171 u172 u173 u174 u175 u176 u177 u178 u179 u180 u181 u182 u183 u184 u185 u186 u187 u188 u189 u190 u191 u192 u193 u194 u195 u196 u197 u198 u199 u200 u201 u202 u203 u204 u205 u206 u207 u208 u209 u210 u211 u212 u213 u214 u215 u216 u217 u218 u219 u220 u221 u222 u223 u224 u225 u226 u227 u228 u229 u230 u231 u232 u233 u234 u235 u236 u237 u238 u239 u240 u241 u242 u243 u244 u245 u246 u247 u248 u249 u250 u251 u252 u253 u254 u255 u256 u257 u258 u259 u260 u261 u262 u263 u264 u265 u266 u267 u268 u269 u270 u271 u272 u273 u274 u275 u276 u277 u278 u279 u280 u281 u282 u283 u284 u285 u286 u287 u288 u289 u290 u291 u292 u293 u294 u295 hk
  have K0 := Lib.hid hk
  clear hk
  conv => arg 2; whnf
  dsimp only
  go_upto_region 36 with fail
  go_cut [26, 27] (fun s26 s27 wr => ∃ B26 : Nat, s26 = .pointer (some ⟨B26, 0, none⟩) ∧ s27 = .int .i64 0 ∧ Kp w wr [(B26, (.cells #[.int .i64 b1, .int .i64 b2, .int .i64 b3] 23 (0, 0))), (B20, (.cells #[.int .i64 n1, .int .i64 n2, .int .i64 n3] 23 (0, 0))), (B18, (.cells #[.int .i64 b1, .int .i64 b2, .int .i64 b3] 23 (0, 0))), (B16, (.cells #[.int .i64 a1, .int .i64 a2, .int .i64 a3] 23 (0, 0))), (B8, (.cells #[.int .i64 x, .int .i64 y, .int .i64 z, .int .i64 a, .int .i64 b, .int .i64 c] 46 (0, 0)))])
  case first =>
    obtain ⟨g0, g1, g2⟩ := cells3 (K0.out.2 _ (.head _))
    obtain ⟨k0, k1, k2, k3, k4, k5⟩ := cells6 (K0.out.2 _ (.tail _ (.tail _ (.tail _ (.head _)))))
    go_wp2_with (first
      | (go_at_call 24; (with_reducible refine (KI.out _).mono ?_); rintro e w91 ⟨rfl, hb91⟩; have K91 := Lib.hid (K0.out.call hb91)))
    go_meet
    exact ⟨_, rfl, rfl, K91.out.alloc _⟩
  case rest =>
    rename_i hK
    obtain ⟨B26, rfl, rfl, hk⟩ := hcut
    refine hK _ _ ?_
    clear hK
    have KH := Lib.hid hk
    clear hk K0
    go_upto_region 37 with fail
    go_cut [28, 29] (fun s28 s29 wr => ∃ B28 : Nat, s28 = .pointer (some ⟨B28, 0, none⟩) ∧ s29 = .int .i64 0 ∧ Kp w wr [(B28, (.cells #[.int .i64 a1, .int .i64 a2, .int .i64 a3] 23 (0, 0))), (B26, (.cells #[.int .i64 b1, .int .i64 b2, .int .i64 b3] 23 (0, 0))), (B20, (.cells #[.int .i64 n1, .int .i64 n2, .int .i64 n3] 23 (0, 0))), (B18, (.cells #[.int .i64 b1, .int .i64 b2, .int .i64 b3] 23 (0, 0))), (B16, (.cells #[.int .i64 a1, .int .i64 a2, .int .i64 a3] 23 (0, 0))), (B8, (.cells #[.int .i64 x, .int .i64 y, .int .i64 z, .int .i64 a, .int .i64 b, .int .i64 c] 46 (0, 0)))])
    case first =>
      obtain ⟨g0, g1, g2⟩ := cells3 (KH.out.2 _ (.tail _ (.head _)))
      obtain ⟨k0, k1, k2, k3, k4, k5⟩ := cells6 (KH.out.2 _ (.tail _ (.tail _ (.tail _ (.tail _ (.head _))))))
      go_wp2_with (first
        | (go_at_call 24; (with_reducible refine (KJ.out _).mono ?_); rintro e w91 ⟨rfl, hb91⟩; have K91 := Lib.hid (KH.out.call hb91)))
      go_meet
      exact ⟨_, rfl, rfl, K91.out.alloc _⟩
    case rest =>
      rename_i hK
      obtain ⟨B28, rfl, rfl, hk⟩ := hcut
      refine hK _ _ ?_
      clear hK
      have KN := Lib.hid hk
      clear hk KH
      unfold SBs38 at hT
      exact hT _ _ _ _ _ _ _ _ _ _ _ _ _ _ _ _ _ _ _ _ _ _ _ _ _ _ _ _ _ _ _ _ _ _ _ _ _ _ _ _ _ _ _ _ _ _ _ _ _ _ _ _ _ _ _ _ _ _ _ _ _ _ _ _ _ _ _ _ _ _ _ _ _ _ _ _ _ _ _ _ _ _ _ _ _ _ _ _ _ _ _ _ _ _ _ _ _ _ _ _ _ _ _ _ _ _ _ _ _ _ _ _ _ _ _ _ _ _ _ _ _ _ _ _ _ _ _ _ _ _ _ _ _ _ _ _ _ _ _ _ _ _ _ _ _ _ _ _ _ _ _ _ _ _ _ _ _ _ _ _ _ _ _ _ _ _ _ _ _ _ _ _ _ _ _ _ _ _ _ _ _ _ _ _ _ _ _ _ _ _ _ _ _ _ _ _ _ _ _ _ _ _ _ _ _ _ _ _ _ _ _ _ _ _ _ _ _ _ _ _ _ _ _ _ _ _ _ _ _ _ _ _ _ _ _ _ _ _ _ _ _ _ _ _ _ _ _ _ _ _ _ _ _ _ _ _ _ _ _ _ _ _ _ _ _ _ _ _ _ _ _ _ _ _ _ _ _ _ _ _ _ _ _ _ _ _ _ _ _ _ _ _ _ _ (KN.out)

set_option maxRecDepth 1000000 in
set_option maxHeartbeats 12800000 in
theorem bs38 (w : World) (x y z a b c a1 a2 a3 b1 b2 b3 n1 n2 n3 p q : Int)
    (KL : Hid (∀ w1 : World, Calls Tryz.prog 25 #[.agg #[.int .i64 x, .int .i64 y, .int .i64 z], .agg #[.int .i64 n1, .int .i64 n2, .int .i64 n3]] w1 fun e w' => e = .returned (.tuple #[.int .i64 1, .agg #[.int .i64 p, .int .i64 q], .int .i64 0]) ∧ Below w1.heap.size w1 w'))
    (KM : Hid (∀ w1 : World, Calls Tryz.prog 25 #[.agg #[.int .i64 a, .int .i64 b, .int .i64 c], .agg #[.int .i64 n1, .int .i64 n2, .int .i64 n3]] w1 fun e w' => e = .returned (.tuple #[.int .i64 1, .agg #[.int .i64 p, .int .i64 q], .int .i64 0]) ∧ Below w1.heap.size w1 w'))
    (KW : Hid (∀ w1 : World, Below w.heap.size w w1 → Calls Tryz.prog 17 #[] w1 fun e w' => e = .returned (.bool true) ∧ Below w1.heap.size w1 w'))
    : SBs38 w x y z a b c a1 a2 a3 b1 b2 b3 n1 n2 n3 := by
  unfold SBs38
  intro wx B8 B16 B18 B20 B26 B28 u0 u1 u2 u3 u5 u6 u7 u9 u10 u11 u12 u13 u14 u15 u17 u19 u21 u22 u23 u24 u25 u30 u31 u32 u33 u34 u35 u36 u37 u38 u39 u40 u41 u42 u43 u44 u45 u46 u47 u48 u49 u50 u51 u52 u53 u54 u55 u56 u57 u58 u59 u60 u61 u62 u63 u64 u65 u66 u67 u68 u69 u70 u71 u72 u73 u74 u75 u76 u77 u78 u79 u80 u81 u82 u83 u84 u85 u86 u87 u88 u89 u90 u91 u92 u93 u94 u95 u96 u97 u98 u99 u100 u101 u102 u103 u104 u105 u106 u107 u108 u109 u110 u111 u112 u113 u114 u115 u116 u117 u118 u119 u120 u121 u122 u123 u124 u125 u126 u127 u128 u129 u130 u131 u132 u133 u134 u135 u136 u137 u138 u139 u140 u141 u142 u143 u144 u145 u146 u147 u148 u149 u150 u151 u152 u153 u154 u155 u156 u157 u158 u159 u160 u161 u162 u163 u164 u165 u166 u167 u168 u169 u170 u171 u172 u173 u174 u175 u176 u177 u178 u179 u180 u181 u182 u183 u184 u185 u186 u187 u188 u189 u190 u191 u192 u193 u194 u195 u196 u197 u198 u199 u200 u201 u202 u203 u204 u205 u206 u207 u208 u209 u210 u211 u212 u213 u214 u215 u216 u217 u218 u219 u220 u221 u222 u223 u224 u225 u226 u227 u228 u229 u230 u231 u232 u233 u234 u235 u236 u237 u238 u239 u240 u241 u242 u243 u244 u245 u246 u247 u248 u249 u250 u251 u252 u253 u254 u255 u256 u257 u258 u259 u260 u261 u262 u263 u264 u265 u266 u267 u268 u269 u270 u271 u272 u273 u274 u275 u276 u277 u278 u279 u280 u281 u282 u283 u284 u285 u286 u287 u288 u289 u290 u291 u292 u293 u294 u295 hk
  have K0 := Lib.hid hk
  clear hk
  conv => arg 2; whnf
  dsimp only
  go_upto_region 38 with fail
  go_cut [30, 31, 32] (fun s30 s31 s32 wr => ∃ B31 : Nat, s30 = .int .i64 1 ∧ s31 = .pointer (some ⟨B31, 0, none⟩) ∧ s32 = .int .i64 0 ∧ Kp w wr [(B31, (.cells #[.int .i64 p, .int .i64 q] 56 (0, 0))), (B28, (.cells #[.int .i64 a1, .int .i64 a2, .int .i64 a3] 23 (0, 0))), (B26, (.cells #[.int .i64 b1, .int .i64 b2, .int .i64 b3] 23 (0, 0))), (B20, (.cells #[.int .i64 n1, .int .i64 n2, .int .i64 n3] 23 (0, 0))), (B18, (.cells #[.int .i64 b1, .int .i64 b2, .int .i64 b3] 23 (0, 0))), (B16, (.cells #[.int .i64 a1, .int .i64 a2, .int .i64 a3] 23 (0, 0))), (B8, (.cells #[.int .i64 x, .int .i64 y, .int .i64 z, .int .i64 a, .int .i64 b, .int .i64 c] 46 (0, 0)))])
  case first =>
    obtain ⟨g0, g1, g2⟩ := cells3 (K0.out.2 _ (.tail _ (.tail _ (.head _))))
    obtain ⟨k0, k1, k2, k3, k4, k5⟩ := cells6 (K0.out.2 _ (.tail _ (.tail _ (.tail _ (.tail _ (.tail _ (.head _)))))))
    go_wp2_with (first
      | (go_at_call 25; (with_reducible refine (KL.out _).mono ?_); rintro e w91 ⟨rfl, hb91⟩; have K91 := Lib.hid (K0.out.call hb91)))
    go_meet
    exact ⟨_, rfl, rfl, rfl, K91.out.alloc _⟩
  case rest =>
    rename_i hK
    obtain ⟨B31, rfl, rfl, rfl, hk⟩ := hcut
    refine hK _ _ ?_
    clear hK
    have KO := Lib.hid hk
    clear hk K0
    go_upto_region 39 with fail
    go_cut [33, 34, 35] (fun s33 s34 s35 wr => ∃ B34 : Nat, s33 = .int .i64 1 ∧ s34 = .pointer (some ⟨B34, 0, none⟩) ∧ s35 = .int .i64 0 ∧ Kp w wr [(B34, (.cells #[.int .i64 p, .int .i64 q] 56 (0, 0))), (B31, (.cells #[.int .i64 p, .int .i64 q] 56 (0, 0))), (B28, (.cells #[.int .i64 a1, .int .i64 a2, .int .i64 a3] 23 (0, 0))), (B26, (.cells #[.int .i64 b1, .int .i64 b2, .int .i64 b3] 23 (0, 0))), (B20, (.cells #[.int .i64 n1, .int .i64 n2, .int .i64 n3] 23 (0, 0))), (B18, (.cells #[.int .i64 b1, .int .i64 b2, .int .i64 b3] 23 (0, 0))), (B16, (.cells #[.int .i64 a1, .int .i64 a2, .int .i64 a3] 23 (0, 0))), (B8, (.cells #[.int .i64 x, .int .i64 y, .int .i64 z, .int .i64 a, .int .i64 b, .int .i64 c] 46 (0, 0)))])
    case first =>
      obtain ⟨g0, g1, g2⟩ := cells3 (KO.out.2 _ (.tail _ (.tail _ (.tail _ (.head _)))))
      obtain ⟨k0, k1, k2, k3, k4, k5⟩ := cells6 (KO.out.2 _ (.tail _ (.tail _ (.tail _ (.tail _ (.tail _ (.tail _ (.head _))))))))
      go_wp2_with (first
        | (go_at_call 25; (with_reducible refine (KM.out _).mono ?_); rintro e w91 ⟨rfl, hb91⟩; have K91 := Lib.hid (KO.out.call hb91)))
      go_meet
      exact ⟨_, rfl, rfl, rfl, K91.out.alloc _⟩
    case rest =>
      rename_i hK
      obtain ⟨B34, rfl, rfl, rfl, hk⟩ := hcut
      refine hK _ _ ?_
      clear hK
      have KQ := Lib.hid hk
      clear hk KO
      obtain ⟨q0, q1⟩ := cells2 (KQ.out.2 _ (.head _))
      obtain ⟨s0, s1⟩ := cells2 (KQ.out.2 _ (.tail _ (.head _)))
      obtain ⟨g0, g1, g2⟩ := cells3 (KQ.out.2 _ (.tail _ (.tail _ (.head _))))
      obtain ⟨h0, h1, h2⟩ := cells3 (KQ.out.2 _ (.tail _ (.tail _ (.tail _ (.head _)))))
      obtain ⟨k0, k1, k2⟩ := cells3 (KQ.out.2 _ (.tail _ (.tail _ (.tail _ (.tail _ (.tail _ (.head _)))))))
      obtain ⟨m0, m1, m2⟩ := cells3 (KQ.out.2 _ (.tail _ (.tail _ (.tail _ (.tail _ (.tail _ (.tail _ (.head _))))))))
      go_wp2_with (first
        | (go_at_call 17; (with_reducible refine (KW.out _ KQ.out.below).mono ?_); rintro e w99 ⟨rfl, hb99⟩; have K99 := Lib.hid (KQ.out.call hb99)))
      go_ret
      exact ⟨rfl, K99.out.below⟩
end Go.Proofs.YtggffhmdgceljaaGreatDoor
