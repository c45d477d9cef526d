/-
  The walk of SunWays: from region 28 on.
-/
import Derived.Test.YtggffhmdgceljaaGreatDoorRows
import Derived.WalkKit
import Derived.WalkSpells
import Derived.WalkLawsBesides
import Derived.Lib.Hide
import Derived.BigQuiet
import Derived.Deep.QuietTactic
import Derived.Handy
import Derived.Deep.RegionHeld3
import Derived.Deep.RegionWith
import Derived.StillTailTactics
import Derived.RangeFuncNested
import Derived.RangeFuncBound
import Derived.RangeFuncCalls
import Derived.RangeFuncLeaves
import Derived.RangeFuncBox
import Derived.Shelf.Abstract
import Derived.Shelf.RegionOpen
import Derived.OwnWalkIn
import Derived.TacticsInMore
import Derived.LoopNIn
import Derived.LoopIn
import Derived.Maps.AppendAt
import Derived.Test.YtggffhmdgceljaaGreatDoorProg
import Derived.Laws.FloatArith
import Derived.Laws.BitsAllLaws
import Derived.Deep.DeepCutAuto
import Derived.Stop.BytesEq
import Derived.Deep.MidRow
import Derived.Laws.CopyRow
import Derived.WalkMore
import Derived.Deep.DrawnRows
import Derived.Deep.CutBlock
import Derived.Orders
import Derived.LoopTactic
import Derived.Laws.StructEq
import Derived.Deep.RegionLaw
import Derived.RegionTactic
import Derived.StillTail
import Derived.Laws.RangeString
import Derived.Laws.RangeAny
import Derived.Shelf.Strings.Builder1
import Derived.Shelf.Strings.OnBuilder
import Derived.Shelf.LaysM
import Derived.Shelf.Strconv.Itoa3
import Derived.Lib.AppendIntMem
import Derived.Lib.ItoaLen
import Derived.RowKit
import Derived.Test.YtggffhmdgceljaaGreatDoorOwaWn
import Derived.Test.YtggffhmdgceljaaGreatDoorOwaXe
import Derived.Test.YtggffhmdgceljaaGreatDoorOwaIb
import Derived.Test.YtggffhmdgceljaaGreatDoorOwaIl
import Derived.Test.YtggffhmdgceljaaGreatDoorOwaWi
import Derived.Test.YtggffhmdgceljaaGreatDoorOwaId
import Derived.Test.YtggffhmdgceljaaGreatDoorOwaIp
import Derived.Test.YtggffhmdgceljaaGreatDoorOwaIg
import Derived.Test.YtggffhmdgceljaaGreatDoorOwaNi
import Derived.Test.YtggffhmdgceljaaGreatDoorOwaIx
import Derived.Test.YtggffhmdgceljaaGreatDoorOwaNv
import Derived.Test.YtggffhmdgceljaaGreatDoorOwaWo
import Derived.Test.YtggffhmdgceljaaGreatDoorOwaNo
import Derived.Test.YtggffhmdgceljaaGreatDoorOwaNy
import Derived.Test.YtggffhmdgceljaaGreatDoorOwaIo
import Derived.Test.YtggffhmdgceljaaGreatDoorOwaAd
namespace Go.Proofs.YtggffhmdgceljaaGreatDoor
open Go.RowKit
set_option linter.unusedVariables false
set_option linter.unusedSimpArgs false
set_option maxRecDepth 1000000 in
set_option maxHeartbeats 12800000 in
theorem sw28 (w : World) (x y z num den a b c d i f p q : Int) (xr yr : Int) (m : Bool) (wp : IntKind.i64.wrap p = p) (wq : IntKind.i64.wrap q = q) (ep : p.tmod 13 = xr) (eq : q.tmod 13 = yr) (wx_ : IntKind.i64.wrap xr = xr) (wy_ : IntKind.i64.wrap yr = yr)
    (hT : SWy29 w x y z num den a b c d i f p q xr yr m) : SWy28 w x y z num den a b c d i f p q m := by
  unfold SWy28
  intro wx Bc Bv Bn u0 u1 u2 u7 u8 u10 u11 u12 u13 u14 u15 u16 u17 u18 u19 u20 u21 u22 u23 u24 u25 u26 u27 u28 u29 u30 u31 u32 u33 u34 u35 u36 u37 u38 u39 u40 u41 u42 u43 u44 u45 u46 u47 u48 u49 u50 u51 u52 u53 u54 u55 u56 u57 u58 u59 u60 u61 u62 u63 u64 u65 u66 u67 u68 u69 u70 u71 u72 u73 u74 u75 u76 u77 u78 u79 u80 u81 u82 u83 u84 u85 u86 u87 u88 u89 u90 u91 u92 u93 u94 u95 u96 u97 u98 u99 u100 u101 u102 u103 u104 u105 u106 u107 u108 u109 u110 u111 u112 u113 u114 u115 u116 u117 u118 u119 u120 u121 u122 u123 u124 u125 u126 u127 u128 u129 u130 u131 u132 u133 u134 u135 u136 u137 u138 u139 u140 u141 u142 u143 u144 u145 u146 u147 u148 u149 u150 u151 u152 u153 u154 u155 u156 u157 u158 u159 u160 u161 u162 u163 u164 u165 u166 u167 u168 u169 u170 u171 u172 u173 u174 u175 u176 u177 u178 u179 u180 u181 u182 u183 u184 u185 u186 u187 u188 u189 u190 u191 u192 u193 u194 u195 u196 u197 u198 u199 u200 u201 u202 u203 u204 u205 u206 u207 u208 u209 u210 u211 u212 u213 u214 u215 u216 u217 u218 u219 u220 u221 u222 u223 u224 u225 u226 u227 u228 u229 u230 u231 u232 u233 u234 u235 u236 u237 u238 u239 u240 u241 u242 u243 u244 u245 u246 u247 u248 u249 u250 u251 u252 u253 u254 u255 u256 u257 u258 u259 u260 u261 u262 u263 u264 u265 u266 u267 u268 u269 u270 u271 u272 u273 u274 u275 hk
  have K0 := Lib.hid hk
  clear hk
  conv => arg 2; whnf
  dsimp only
  go_upto_region 28 with fail
  go_cut [21, 22] (fun s21 s22 wr => s21 = .int .i64 xr ∧ s22 = .int .i64 yr ∧ Kp w wr [(Bn, (.cells #[.int .u8 p, .int .u8 q] 60 (0, 0))), (Bv, (.cells #[.int .i64 a, .int .i64 b, .int .i64 c, .int .i64 d, .int .i64 i, .int .i64 f] 46 (0, 0))), (Bc, (.cells #[.int .i64 x, .int .i64 y, .int .i64 z, .int .i64 num, .int .i64 den] 25 (0, 0)))])
  case first =>
    apply wp_region_gives (aF := ⟨#[u0, u1, u2, .pointer (some ⟨Bc, 0, none⟩), .pointer (some ⟨Bv, 0, none⟩), .pointer (some ⟨Bn, 0, none⟩), .bool false, u7, u8, .bool m, u10, u11, u12, u13, u14, u15, u16, u17, u18, u19, u20, .int .i64 xr, u22, u23, u24, u25, u26, u27, u28, u29, u30, u31, u32, u33, u34, u35, u36, u37, u38, u39, u40, u41, u42, u43, u44, u45, u46, u47, u48, u49, u50, u51, u52, u53, u54, u55, u56, u57, u58, u59, u60, u61, u62, u63, u64, u65, u66, u67, u68, u69, u70, u71, u72, u73, u74, u75, u76, u77, u78, u79, u80, u81, u82, u83, u84, u85, u86, u87, u88, u89, u90, u91, u92, u93, u94, u95, u96, u97, u98, u99, u100, u101, u102, u103, u104, u105, u106, u107, u108, u109, u110, u111, u112, u113, u114, u115, u116, u117, u118, u119, u120, u121, u122, u123, u124, u125, u126, u127, u128, u129, u130, u131, u132, u133, u134, u135, u136, u137, u138, u139, u140, u141, u142, u143, u144, u145, u146, u147, u148, u149, u150, u151, u152, u153, u154, u155, u156, u157, u158, u159, u160, u161, u162, u163, u164, u165, u166, u167, u168, u169, u170, u171, u172, u173, u174, u175, u176, u177, u178, u179, u180, u181, u182, u183, u184, u185, u186, u187, u188, u189, u190, u191, u192, u193, .pointer (some ⟨Bn, 0, none⟩), .int .u8 p, .int .i64 p, .int .i64 xr, .pointer (some ⟨Bn, 1, none⟩), .int .u8 q, .int .i64 q, .int .i64 yr, u202, u203, u204, u205, u206, u207, u208, u209, u210, u211, u212, u213, u214, u215, u216, u217, u218, u219, u220, u221, u222, u223, u224, u225, u226, u227, u228, u229, u230, u231, u232, u233, u234, u235, u236, u237, u238, u239, u240, u241, u242, u243, u244, u245, u246, u247, u248, u249, u250, u251, u252, u253, u254, u255, u256, u257, u258, u259, u260, u261, u262, u263, u264, u265, u266, u267, u268, u269, u270, u271, u272, u273, u274, u275], []⟩) 9 (fun w' => Blw wx.heap.size wx w') [.pointer (some ⟨Bn, 0, none⟩), .int .u8 p, .int .i64 p, .int .i64 xr, .pointer (some ⟨Bn, 1, none⟩), .int .u8 q, .int .i64 q, .int .i64 yr, .int .i64 xr] (by kernel_rfl) (by kernel_rfl) (by kernel_rfl) (show Below _ _ _ from (Below.refl _ _).drew)
    case haF => kernel_rfl
    case h =>
      have hBn := K0.out.2 _ (.head _)
      simp only [List.take_succ_cons, List.take_zero, GivesL]
      clear K0
      refine ⟨?_, ?_, ?_, ?_, ?_, ?_, ?_, ?_, ?_, trivial⟩
      all_goals
        intro w1 hw1
        obtain ⟨n_0, n_1⟩ := cells2 (((show Below _ _ _ from hw1).block _ (lt_of_blk hBn)).trans hBn)
        unfold Oper.wp
        simp only [execOp]
        go_simp <;> first
          | exact ⟨rfl, hw1⟩
    case ht =>
      intro w5 hw5
      have K5 := K0.out.call (show Below _ _ _ from hw5)
      simp only [List.drop_succ_cons, List.drop_zero]
      go_wp2_with fail
      go_meet
      exact ⟨rfl, rfl, K5⟩
  case rest =>
    rename_i hK
    obtain ⟨rfl, rfl, hk⟩ := hcut
    refine hK _ _ ?_
    clear hK
    unfold SWy29 at hT
    exact hT _ _ _ _ _ _ _ _ _ _ _ _ _ _ _ _ _ _ _ _ _ _ _ _ _ _ _ _ _ _ _ _ _ _ _ _ _ _ _ _ _ _ _ _ _ _ _ _ _ _ _ _ _ _ _ _ _ _ _ _ _ _ _ _ _ _ _ _ _ _ _ _ _ _ _ _ _ _ _ _ _ _ _ _ _ _ _ _ _ _ _ _ _ _ _ _ _ _ _ _ _ _ _ _ _ _ _ _ _ _ _ _ _ _ _ _ _ _ _ _ _ _ _ _ _ _ _ _ _ _ _ _ _ _ _ _ _ _ _ _ _ _ _ _ _ _ _ _ _ _ _ _ _ _ _ _ _ _ _ _ _ _ _ _ _ _ _ _ _ _ _ _ _ _ _ _ _ _ _ _ _ _ _ _ _ _ _ _ _ _ _ _ _ _ _ _ _ _ _ _ _ _ _ _ _ _ _ _ _ _ _ _ _ _ _ _ _ _ _ _ _ _ _ _ _ _ _ _ _ _ _ _ _ _ _ _ _ _ _ _ _ _ _ _ _ _ _ _ _ _ _ _ _ _ _ _ _ _ _ _ _ _ _ _ _ _ _ _ _ _ _ _ _ (hk)

set_option maxRecDepth 1000000 in
set_option maxHeartbeats 12800000 in
theorem sw29_a (w : World) (x y z num den a b c d i f p q : Int) (xr yr : Int) (m : Bool) (sv : Int) (fw : IntKind.i64.wrap (xr + yr) = sv) (e0 : (sv == 0) = true)
    (KW : Hid (∀ w1 : World, Below w.heap.size w w1 → Calls Tryz.prog 17 #[] w1 fun e w' => e = .returned (.bool true) ∧ Below w1.heap.size w1 w'))
    : SWy29 w x y z num den a b c d i f p q xr yr m := by
  unfold SWy29
  intro wx Bc Bv Bn u0 u1 u2 u7 u8 u10 u11 u12 u13 u14 u15 u16 u17 u18 u19 u20 u23 u24 u25 u26 u27 u28 u29 u30 u31 u32 u33 u34 u35 u36 u37 u38 u39 u40 u41 u42 u43 u44 u45 u46 u47 u48 u49 u50 u51 u52 u53 u54 u55 u56 u57 u58 u59 u60 u61 u62 u63 u64 u65 u66 u67 u68 u69 u70 u71 u72 u73 u74 u75 u76 u77 u78 u79 u80 u81 u82 u83 u84 u85 u86 u87 u88 u89 u90 u91 u92 u93 u94 u95 u96 u97 u98 u99 u100 u101 u102 u103 u104 u105 u106 u107 u108 u109 u110 u111 u112 u113 u114 u115 u116 u117 u118 u119 u120 u121 u122 u123 u124 u125 u126 u127 u128 u129 u130 u131 u132 u133 u134 u135 u136 u137 u138 u139 u140 u141 u142 u143 u144 u145 u146 u147 u148 u149 u150 u151 u152 u153 u154 u155 u156 u157 u158 u159 u160 u161 u162 u163 u164 u165 u166 u167 u168 u169 u170 u171 u172 u173 u174 u175 u176 u177 u178 u179 u180 u181 u182 u183 u184 u185 u186 u187 u188 u189 u190 u191 u192 u193 u194 u195 u196 u197 u198 u199 u200 u201 u202 u203 u204 u205 u206 u207 u208 u209 u210 u211 u212 u213 u214 u215 u216 u217 u218 u219 u220 u221 u222 u223 u224 u225 u226 u227 u228 u229 u230 u231 u232 u233 u234 u235 u236 u237 u238 u239 u240 u241 u242 u243 u244 u245 u246 u247 u248 u249 u250 u251 u252 u253 u254 u255 u256 u257 u258 u259 u260 u261 u262 u263 u264 u265 u266 u267 u268 u269 u270 u271 u272 u273 u274 u275 hk
  have K0 := Lib.hid hk
  clear hk
  conv => arg 2; whnf
  dsimp only
  go_wp2_with (first
    | (go_at_call 17; (with_reducible refine (KW.out _ K0.out.below).mono ?_); rintro e w99 ⟨rfl, hb99⟩; have K99 := Lib.hid (K0.out.call hb99)))
  go_ret
  exact ⟨rfl, K99.out.below⟩

set_option maxRecDepth 1000000 in
set_option maxHeartbeats 12800000 in
theorem sw29_b (w : World) (x y z num den a b c d i f p q : Int) (xr yr : Int) (sv : Int) (fw : IntKind.i64.wrap (xr + yr) = sv) (e0 : (sv == 0) = false)
    (KW : Hid (∀ w1 : World, Below w.heap.size w w1 → Calls Tryz.prog 17 #[] w1 fun e w' => e = .returned (.bool true) ∧ Below w1.heap.size w1 w'))
    : SWy29 w x y z num den a b c d i f p q xr yr true := by
  unfold SWy29
  intro wx Bc Bv Bn u0 u1 u2 u7 u8 u10 u11 u12 u13 u14 u15 u16 u17 u18 u19 u20 u23 u24 u25 u26 u27 u28 u29 u30 u31 u32 u33 u34 u35 u36 u37 u38 u39 u40 u41 u42 u43 u44 u45 u46 u47 u48 u49 u50 u51 u52 u53 u54 u55 u56 u57 u58 u59 u60 u61 u62 u63 u64 u65 u66 u67 u68 u69 u70 u71 u72 u73 u74 u75 u76 u77 u78 u79 u80 u81 u82 u83 u84 u85 u86 u87 u88 u89 u90 u91 u92 u93 u94 u95 u96 u97 u98 u99 u100 u101 u102 u103 u104 u105 u106 u107 u108 u109 u110 u111 u112 u113 u114 u115 u116 u117 u118 u119 u120 u121 u122 u123 u124 u125 u126 u127 u128 u129 u130 u131 u132 u133 u134 u135 u136 u137 u138 u139 u140 u141 u142 u143 u144 u145 u146 u147 u148 u149 u150 u151 u152 u153 u154 u155 u156 u157 u158 u159 u160 u161 u162 u163 u164 u165 u166 u167 u168 u169 u170 u171 u172 u173 u174 u175 u176 u177 u178 u179 u180 u181 u182 u183 u184 u185 u186 u187 u188 u189 u190 u191 u192 u193 u194 u195 u196 u197 u198 u199 u200 u201 u202 u203 u204 u205 u206 u207 u208 u209 u210 u211 u212 u213 u214 u215 u216 u217 u218 u219 u220 u221 u222 u223 u224 u225 u226 u227 u228 u229 u230 u231 u232 u233 u234 u235 u236 u237 u238 u239 u240 u241 u242 u243 u244 u245 u246 u247 u248 u249 u250 u251 u252 u253 u254 u255 u256 u257 u258 u259 u260 u261 u262 u263 u264 u265 u266 u267 u268 u269 u270 u271 u272 u273 u274 u275 hk
  have K0 := Lib.hid hk
  clear hk
  conv => arg 2; whnf
  dsimp only
  go_wp2_with (first
    | (go_at_call 17; (with_reducible refine (KW.out _ K0.out.below).mono ?_); rintro e w99 ⟨rfl, hb99⟩; have K99 := Lib.hid (K0.out.call hb99)))
  go_ret
  exact ⟨rfl, K99.out.below⟩

set_option maxRecDepth 1000000 in
set_option maxHeartbeats 12800000 in
theorem sw29_c (w : World) (x y z num den a b c d i f p q : Int) (xr yr : Int) (sv : Int) (fw : IntKind.i64.wrap (xr + yr) = sv) (e0 : (sv == 0) = false) (hT : SWy31 w x y z num den a b c d i f p q xr yr) : SWy29 w x y z num den a b c d i f p q xr yr false := by
  unfold SWy29
  intro wx Bc Bv Bn u0 u1 u2 u7 u8 u10 u11 u12 u13 u14 u15 u16 u17 u18 u19 u20 u23 u24 u25 u26 u27 u28 u29 u30 u31 u32 u33 u34 u35 u36 u37 u38 u39 u40 u41 u42 u43 u44 u45 u46 u47 u48 u49 u50 u51 u52 u53 u54 u55 u56 u57 u58 u59 u60 u61 u62 u63 u64 u65 u66 u67 u68 u69 u70 u71 u72 u73 u74 u75 u76 u77 u78 u79 u80 u81 u82 u83 u84 u85 u86 u87 u88 u89 u90 u91 u92 u93 u94 u95 u96 u97 u98 u99 u100 u101 u102 u103 u104 u105 u106 u107 u108 u109 u110 u111 u112 u113 u114 u115 u116 u117 u118 u119 u120 u121 u122 u123 u124 u125 u126 u127 u128 u129 u130 u131 u132 u133 u134 u135 u136 u137 u138 u139 u140 u141 u142 u143 u144 u145 u146 u147 u148 u149 u150 u151 u152 u153 u154 u155 u156 u157 u158 u159 u160 u161 u162 u163 u164 u165 u166 u167 u168 u169 u170 u171 u172 u173 u174 u175 u176 u177 u178 u179 u180 u181 u182 u183 u184 u185 u186 u187 u188 u189 u190 u191 u192 u193 u194 u195 u196 u197 u198 u199 u200 u201 u202 u203 u204 u205 u206 u207 u208 u209 u210 u211 u212 u213 u214 u215 u216 u217 u218 u219 u220 u221 u222 u223 u224 u225 u226 u227 u228 u229 u230 u231 u232 u233 u234 u235 u236 u237 u238 u239 u240 u241 u242 u243 u244 u245 u246 u247 u248 u249 u250 u251 u252 u253 u254 u255 u256 u257 u258 u259 u260 u261 u262 u263 u264 u265 u266 u267 u268 u269 u270 u271 u272 u273 u274 u275 hk
  have K0 := Lib.hid hk
  clear hk
  conv => arg 2; whnf
  dsimp only
  go_upto_region 29 with fail
  go_cut [208] (fun s208 wr => s208 = .bool false ∧ Kp w wr [(Bn, (.cells #[.int .u8 p, .int .u8 q] 60 (0, 0))), (Bv, (.cells #[.int .i64 a, .int .i64 b, .int .i64 c, .int .i64 d, .int .i64 i, .int .i64 f] 46 (0, 0))), (Bc, (.cells #[.int .i64 x, .int .i64 y, .int .i64 z, .int .i64 num, .int .i64 den] 25 (0, 0)))])
  case first =>
    go_wp2_with fail
    go_meet
    exact ⟨rfl, K0.out⟩
  case rest =>
    rename_i q1 hq1 q0 hq
    obtain ⟨rfl, hb⟩ := hcut
    refine hq _ _ ?_
    clear hq
    have HK1 := Lib.hid hq1
    clear hq1
    go_wp2_with fail
    refine HK1.out _ _ ?_
    have KD : Kp w _ [(Bn, (.cells #[.int .u8 p, .int .u8 q] 60 (0, 0))), (Bv, (.cells #[.int .i64 a, .int .i64 b, .int .i64 c, .int .i64 d, .int .i64 i, .int .i64 f] 46 (0, 0))), (Bc, (.cells #[.int .i64 x, .int .i64 y, .int .i64 z, .int .i64 num, .int .i64 den] 25 (0, 0)))] := hb.subs fun p hp => by
      simp only [List.mem_cons, List.not_mem_nil, or_false] at hp ⊢
      rcases hp with h | h | h <;> simp [h]
    unfold SWy31 at hT
    exact hT _ _ _ _ _ _ _ _ _ _ _ _ _ _ _ _ _ _ _ _ _ _ _ _ _ _ _ _ _ _ _ _ _ _ _ _ _ _ _ _ _ _ _ _ _ _ _ _ _ _ _ _ _ _ _ _ _ _ _ _ _ _ _ _ _ _ _ _ _ _ _ _ _ _ _ _ _ _ _ _ _ _ _ _ _ _ _ _ _ _ _ _ _ _ _ _ _ _ _ _ _ _ _ _ _ _ _ _ _ _ _ _ _ _ _ _ _ _ _ _ _ _ _ _ _ _ _ _ _ _ _ _ _ _ _ _ _ _ _ _ _ _ _ _ _ _ _ _ _ _ _ _ _ _ _ _ _ _ _ _ _ _ _ _ _ _ _ _ _ _ _ _ _ _ _ _ _ _ _ _ _ _ _ _ _ _ _ _ _ _ _ _ _ _ _ _ _ _ _ _ _ _ _ _ _ _ _ _ _ _ _ _ _ _ _ _ _ _ _ _ _ _ _ _ _ _ _ _ _ _ _ _ _ _ _ _ _ _ _ _ _ _ _ _ _ _ _ _ _ _ _ _ _ _ _ _ _ _ _ _ _ _ _ _ _ _ _ _ _ _ _ _ _ _ (KD)

set_option maxRecDepth 1000000 in
set_option maxHeartbeats 12800000 in
theorem sw31 (w : World) (x y z num den a b c d i f p q : Int) (xr yr a1 a2 a3 d1 d2 d3 t1 t2 t3 m1 m2 m3 : Int)
    (KA : Hid (∀ w1 : World, Calls Tryz.prog 23 #[.agg #[.int .i64 a, .int .i64 b, .int .i64 c], .int .i64 xr] w1 fun e w' => e = .returned (.agg #[.int .i64 a1, .int .i64 a2, .int .i64 a3]) ∧ Below w1.heap.size w1 w'))
    (KD : Hid (∀ w1 : World, Calls Tryz.prog 23 #[.agg #[.int .i64 d, .int .i64 i, .int .i64 f], .int .i64 yr] w1 fun e w' => e = .returned (.agg #[.int .i64 d1, .int .i64 d2, .int .i64 d3]) ∧ Below w1.heap.size w1 w'))
    (KP : Hid (∀ w1 : World, Calls Tryz.prog 30 #[.agg #[.int .i64 a1, .int .i64 a2, .int .i64 a3], .agg #[.int .i64 d1, .int .i64 d2, .int .i64 d3]] w1 fun e w' => e = .returned (.agg #[.int .i64 t1, .int .i64 t2, .int .i64 t3]) ∧ Below w1.heap.size w1 w'))
    (KR : Hid (∀ w1 : World, Calls Tryz.prog 22 #[.agg #[.int .i64 t1, .int .i64 t2, .int .i64 t3]] w1 fun e w' => e = .returned (.tuple #[.agg #[.int .i64 m1, .int .i64 m2, .int .i64 m3], .int .i64 0]) ∧ Below w1.heap.size w1 w'))
    (hT : SWy34 w x y z num den a b c d i f p q m1 m2 m3) : SWy31 w x y z num den a b c d i f p q xr yr := by
  unfold SWy31
  intro wx Bc Bv Bn u0 u1 u2 u7 u8 u9 u10 u11 u12 u13 u14 u15 u16 u17 u18 u19 u20 u23 u24 u25 u26 u27 u28 u29 u30 u31 u32 u33 u34 u35 u36 u37 u38 u39 u40 u41 u42 u43 u44 u45 u46 u47 u48 u49 u50 u51 u52 u53 u54 u55 u56 u57 u58 u59 u60 u61 u62 u63 u64 u65 u66 u67 u68 u69 u70 u71 u72 u73 u74 u75 u76 u77 u78 u79 u80 u81 u82 u83 u84 u85 u86 u87 u88 u89 u90 u91 u92 u93 u94 u95 u96 u97 u98 u99 u100 u101 u102 u103 u104 u105 u106 u107 u108 u109 u110 u111 u112 u113 u114 u115 u116 u117 u118 u119 u120 u121 u122 u123 u124 u125 u126 u127 u128 u129 u130 u131 u132 u133 u134 u135 u136 u137 u138 u139 u140 u141 u142 u143 u144 u145 u146 u147 u148 u149 u150 u151 u152 u153 u154 u155 u156 u157 u158 u159 u160 u161 u162 u163 u164 u165 u166 u167 u168 u169 u170 u171 u172 u173 u174 u175 u176 u177 u178 u179 u180 u181 u182 u183 u184 u185 u186 u187 u188 u189 u190 u191 u192 u193 u194 u195 u196 u197 u198 u199 u200 u201 u202 u203 u204 u205 u206 u207 u208 u209 u210 u211 u212 u213 u214 u215 u216 u217 u218 u219 u220 u221 u222 u223 u224 u225 u226 u227 u228 u229 u230 u231 u232 u233 u234 u235 u236 u237 u238 u239 u240 u241 u242 u243 u244 u245 u246 u247 u248 u249 u250 u251 u252 u253 u254 u255 u256 u257 u258 u259 u260 u261 u262 u263 u264 u265 u266 u267 u268 u269 u270 u271 u272 u273 u274 u275 hk
  have K0 := Lib.hid hk
  clear hk
  conv => arg 2; whnf
  dsimp only
  go_upto_region 31 with fail
  go_cut [23, 24] (fun s23 s24 wr => ∃ Bm : Nat, s23 = .pointer (some ⟨Bm, 0, none⟩) ∧ s24 = .int .i64 0 ∧ Kp w wr [(Bm, (.cells #[.int .i64 m1, .int .i64 m2, .int .i64 m3] 23 (0, 0))), (Bn, (.cells #[.int .u8 p, .int .u8 q] 60 (0, 0))), (Bv, (.cells #[.int .i64 a, .int .i64 b, .int .i64 c, .int .i64 d, .int .i64 i, .int .i64 f] 46 (0, 0))), (Bc, (.cells #[.int .i64 x, .int .i64 y, .int .i64 z, .int .i64 num, .int .i64 den] 25 (0, 0)))])
  case first =>
    apply wp_region_put1 (aF := fun u => ⟨#[u0, u1, u2, .pointer (some ⟨Bc, 0, none⟩), .pointer (some ⟨Bv, 0, none⟩), .pointer (some ⟨Bn, 0, none⟩), .bool false, u7, u8, u9, u10, u11, u12, u13, u14, u15, u16, u17, u18, u19, u20, .int .i64 xr, .int .i64 yr, u, .int .i64 0, u25, u26, u27, u28, u29, u30, u31, u32, u33, u34, u35, u36, u37, u38, u39, u40, u41, u42, u43, u44, u45, u46, u47, u48, u49, u50, u51, u52, u53, u54, u55, u56, u57, u58, u59, u60, u61, u62, u63, u64, u65, u66, u67, u68, u69, u70, u71, u72, u73, u74, u75, u76, u77, u78, u79, u80, u81, u82, u83, u84, u85, u86, u87, u88, u89, u90, u91, u92, u93, u94, u95, u96, u97, u98, u99, u100, u101, u102, u103, u104, u105, u106, u107, u108, u109, u110, u111, u112, u113, u114, u115, u116, u117, u118, u119, u120, u121, u122, u123, u124, u125, u126, u127, u128, u129, u130, u131, u132, u133, u134, u135, u136, u137, u138, u139, u140, u141, u142, u143, u144, u145, u146, u147, u148, u149, u150, u151, u152, u153, u154, u155, u156, u157, u158, u159, u160, u161, u162, u163, u164, u165, u166, u167, u168, u169, u170, u171, u172, u173, u174, u175, u176, u177, u178, u179, u180, u181, u182, u183, u184, u185, u186, u187, u188, u189, u190, u191, u192, u193, u194, u195, u196, u197, u198, u199, u200, u201, u202, u203, u204, u205, u206, u207, u208, u209, .tuple #[.agg #[.int .i64 m1, .int .i64 m2, .int .i64 m3], .int .i64 0], .pointer (some ⟨Bv, 0, none⟩), .agg #[.int .i64 a, .int .i64 b, .int .i64 c], .int .i64 xr, .agg #[.int .i64 a1, .int .i64 a2, .int .i64 a3], .pointer (some ⟨Bv, 3, none⟩), .agg #[.int .i64 d, .int .i64 i, .int .i64 f], .int .i64 yr, .agg #[.int .i64 d1, .int .i64 d2, .int .i64 d3], .agg #[.int .i64 t1, .int .i64 t2, .int .i64 t3], .tuple #[.agg #[.int .i64 m1, .int .i64 m2, .int .i64 m3], .int .i64 0], .agg #[.int .i64 m1, .int .i64 m2, .int .i64 m3], .int .i64 0, u223, u224, u225, u226, u227, u228, u229, u230, u231, u232, u233, u234, u235, u236, u237, u238, u239, u240, u241, u242, u243, u244, u245, u246, u247, u248, u249, u250, u251, u252, u253, u254, u255, u256, u257, u258, u259, u260, u261, u262, u263, u264, u265, u266, u267, u268, u269, u270, u271, u272, u273, u274, u275], []⟩) 13 14 [false, false, false, false, false, false, false, false, false, false, false, false, false, true, true, false] (.int .i64 0) (.int .i64 0) (.int .i64 0) (.int .i64 m1) (.int .i64 m2) (.int .i64 m3) 23 [.pointer (some ⟨Bv, 0, none⟩), .agg #[.int .i64 a, .int .i64 b, .int .i64 c], .int .i64 xr, .agg #[.int .i64 a1, .int .i64 a2, .int .i64 a3], .pointer (some ⟨Bv, 3, none⟩), .agg #[.int .i64 d, .int .i64 i, .int .i64 f], .int .i64 yr, .agg #[.int .i64 d1, .int .i64 d2, .int .i64 d3], .agg #[.int .i64 t1, .int .i64 t2, .int .i64 t3], .tuple #[.agg #[.int .i64 m1, .int .i64 m2, .int .i64 m3], .int .i64 0], .tuple #[.agg #[.int .i64 m1, .int .i64 m2, .int .i64 m3], .int .i64 0], .agg #[.int .i64 m1, .int .i64 m2, .int .i64 m3], .int .i64 0, undef, undef, .int .i64 0] _ _ (by kernel_rfl) (by kernel_rfl) (by decide) (by kernel_rfl) rfl rfl rfl
    case hz1 =>
      intro b w1
      simp only [execOp]
      go_simp
    case haF =>
      intro u
      kernel_rfl
    case hG =>
      intro u Tt hT
      have hBh := K0.out.2 _ (.tail _ (.head _))
      simp only [GivesM]
      clear K0
      refine ⟨?_, ?_, ?_, ?_, ?_, ?_, ?_, ?_, ?_, ?_, ?_, ?_, ?_, ?_, trivial⟩
      all_goals
        intro w1 hw
        obtain ⟨hw1, ht1⟩ := hw
        obtain ⟨h_0, h_1, h_2, h_3, h_4, h_5⟩ := cells6 (((show Below _ _ _ from hw1).block _ (lt_of_blk hBh)).trans hBh)
        unfold Oper.wp
        simp only [execOp]
        go_simp <;> first
          | exact ⟨rfl, hw1, ht1⟩
          | exact ht1
          | exact ⟨hw1, ht1⟩
          | ((with_reducible refine (KA.out _).mono ?_); rintro e w2 ⟨rfl, hb⟩; exact ⟨rfl, below_call hb hw1, hT _ _ ht1 hb⟩)
          | ((with_reducible refine (KD.out _).mono ?_); rintro e w2 ⟨rfl, hb⟩; exact ⟨rfl, below_call hb hw1, hT _ _ ht1 hb⟩)
          | ((with_reducible refine (KP.out _).mono ?_); rintro e w2 ⟨rfl, hb⟩; exact ⟨rfl, below_call hb hw1, hT _ _ ht1 hb⟩)
          | ((with_reducible refine (KR.out _).mono ?_); rintro e w2 ⟨rfl, hb⟩; exact ⟨rfl, below_call hb hw1, hT _ _ ht1 hb⟩)
    case hS1 =>
      intro B w1 hb
      obtain ⟨m0, m1, m2⟩ := cells3 hb
      have mz : ∀ j, w1.frozen? ⟨B, j, none⟩ = false := fun j => frozen_of_row w1 B j _ _ hb
      unfold Oper.wp
      simp only [execOp]
      go_simp
      exact rfl
    case hQ =>
      intro Bd w5 hBd hw5 hm
      go_wp2_with fail
      go_meet
      exact ⟨Bd, rfl, rfl, Kp.cons (K0.out.call (show Below _ _ _ from hw5)) hm⟩
  case rest =>
    rename_i hK
    obtain ⟨Bm, rfl, rfl, hk⟩ := hcut
    refine hK _ _ ?_
    clear hK
    have K6 := Lib.hid hk
    clear hk K0
    go_upto_region 32 with fail
    go_cut [224] (fun s224 wr => s224 = .bool false ∧ Kp w wr [(Bm, (.cells #[.int .i64 m1, .int .i64 m2, .int .i64 m3] 23 (0, 0))), (Bn, (.cells #[.int .u8 p, .int .u8 q] 60 (0, 0))), (Bv, (.cells #[.int .i64 a, .int .i64 b, .int .i64 c, .int .i64 d, .int .i64 i, .int .i64 f] 46 (0, 0))), (Bc, (.cells #[.int .i64 x, .int .i64 y, .int .i64 z, .int .i64 num, .int .i64 den] 25 (0, 0)))])
    case first =>
      go_wp2_with fail
      go_meet
      exact ⟨rfl, K6.out⟩
    case rest =>
      rename_i q1 hq1 q0 hq
      obtain ⟨rfl, hb⟩ := hcut
      refine hq _ _ ?_
      clear hq
      have HK1 := Lib.hid hq1
      clear hq1
      go_wp2_with fail
      refine HK1.out _ _ ?_
      have KD : Kp w _ [(Bm, (.cells #[.int .i64 m1, .int .i64 m2, .int .i64 m3] 23 (0, 0))), (Bn, (.cells #[.int .u8 p, .int .u8 q] 60 (0, 0))), (Bv, (.cells #[.int .i64 a, .int .i64 b, .int .i64 c, .int .i64 d, .int .i64 i, .int .i64 f] 46 (0, 0))), (Bc, (.cells #[.int .i64 x, .int .i64 y, .int .i64 z, .int .i64 num, .int .i64 den] 25 (0, 0)))] := hb.subs fun p hp => by
        simp only [List.mem_cons, List.not_mem_nil, or_false] at hp ⊢
        rcases hp with h | h | h | h <;> simp [h]
      unfold SWy34 at hT
      exact hT _ _ _ _ _ _ _ _ _ _ _ _ _ _ _ _ _ _ _ _ _ _ _ _ _ _ _ _ _ _ _ _ _ _ _ _ _ _ _ _ _ _ _ _ _ _ _ _ _ _ _ _ _ _ _ _ _ _ _ _ _ _ _ _ _ _ _ _ _ _ _ _ _ _ _ _ _ _ _ _ _ _ _ _ _ _ _ _ _ _ _ _ _ _ _ _ _ _ _ _ _ _ _ _ _ _ _ _ _ _ _ _ _ _ _ _ _ _ _ _ _ _ _ _ _ _ _ _ _ _ _ _ _ _ _ _ _ _ _ _ _ _ _ _ _ _ _ _ _ _ _ _ _ _ _ _ _ _ _ _ _ _ _ _ _ _ _ _ _ _ _ _ _ _ _ _ _ _ _ _ _ _ _ _ _ _ _ _ _ _ _ _ _ _ _ _ _ _ _ _ _ _ _ _ _ _ _ _ _ _ _ _ _ _ _ _ _ _ _ _ _ _ _ _ _ _ _ _ _ _ _ _ _ _ _ _ _ _ _ _ _ _ _ _ _ _ _ _ _ _ _ _ _ _ _ _ _ _ _ _ _ _ _ _ _ _ _ _ _ _ _ _ _ _ _ _ (KD)

set_option maxRecDepth 1000000 in
set_option maxHeartbeats 12800000 in
theorem sw34_a (w : World) (x y z num den a b c d i f p q : Int) (m1 m2 m3 : Int) (n1 : IntKind.i64.wrap (-m1) = -m1) (n2 : IntKind.i64.wrap (-m2) = -m2) (n3 : IntKind.i64.wrap (-m3) = -m3) (mx : Int) (hmm : max6 m1 (-m1) m2 (-m2) m3 (-m3) = mx) (hgt : 256 < mx)
    (KW : Hid (∀ w1 : World, Below w.heap.size w w1 → Calls Tryz.prog 17 #[] w1 fun e w' => e = .returned (.bool true) ∧ Below w1.heap.size w1 w'))
    : SWy34 w x y z num den a b c d i f p q m1 m2 m3 := by
  have y6 := @run_max6
  clear y6
  unfold SWy34
  intro wx Bc Bv Bn Bm u0 u1 u2 u7 u8 u9 u10 u11 u12 u13 u14 u15 u16 u17 u18 u19 u20 u21 u22 u24 u25 u26 u27 u28 u29 u30 u31 u32 u33 u34 u35 u36 u37 u38 u39 u40 u41 u42 u43 u44 u45 u46 u47 u48 u49 u50 u51 u52 u53 u54 u55 u56 u57 u58 u59 u60 u61 u62 u63 u64 u65 u66 u67 u68 u69 u70 u71 u72 u73 u74 u75 u76 u77 u78 u79 u80 u81 u82 u83 u84 u85 u86 u87 u88 u89 u90 u91 u92 u93 u94 u95 u96 u97 u98 u99 u100 u101 u102 u103 u104 u105 u106 u107 u108 u109 u110 u111 u112 u113 u114 u115 u116 u117 u118 u119 u120 u121 u122 u123 u124 u125 u126 u127 u128 u129 u130 u131 u132 u133 u134 u135 u136 u137 u138 u139 u140 u141 u142 u143 u144 u145 u146 u147 u148 u149 u150 u151 u152 u153 u154 u155 u156 u157 u158 u159 u160 u161 u162 u163 u164 u165 u166 u167 u168 u169 u170 u171 u172 u173 u174 u175 u176 u177 u178 u179 u180 u181 u182 u183 u184 u185 u186 u187 u188 u189 u190 u191 u192 u193 u194 u195 u196 u197 u198 u199 u200 u201 u202 u203 u204 u205 u206 u207 u208 u209 u210 u211 u212 u213 u214 u215 u216 u217 u218 u219 u220 u221 u222 u223 u224 u225 u226 u227 u228 u229 u230 u231 u232 u233 u234 u235 u236 u237 u238 u239 u240 u241 u242 u243 u244 u245 u246 u247 u248 u249 u250 u251 u252 u253 u254 u255 u256 u257 u258 u259 u260 u261 u262 u263 u264 u265 u266 u267 u268 u269 u270 u271 u272 u273 u274 u275 hk
  have K0 := Lib.hid hk
  clear hk
  conv => arg 2; whnf
  dsimp only
  obtain ⟨o0, o1, o2⟩ := cells3 (K0.out.2 _ (.head _))
  go_wp2_with (first
    | (go_at_call 17; (with_reducible refine (KW.out _ K0.out.below).mono ?_); rintro e w99 ⟨rfl, hb99⟩; have K99 := Lib.hid (K0.out.call hb99)))
  go_ret
  exact ⟨rfl, K99.out.below⟩

set_option maxRecDepth 1000000 in
set_option maxHeartbeats 12800000 in
theorem sw34_b (w : World) (x y z num den a b c d i f p q : Int) (m1 m2 m3 : Int) (n1 : IntKind.i64.wrap (-m1) = -m1) (n2 : IntKind.i64.wrap (-m2) = -m2) (n3 : IntKind.i64.wrap (-m3) = -m3) (mx : Int) (hmm : max6 m1 (-m1) m2 (-m2) m3 (-m3) = mx) (hle : ¬ 256 < mx) (hT : SWy36 w x y z num den a b c d i f p q m1 m2 m3) : SWy34 w x y z num den a b c d i f p q m1 m2 m3 := by
  have y6 := @run_max6
  clear y6
  unfold SWy34
  intro wx Bc Bv Bn Bm u0 u1 u2 u7 u8 u9 u10 u11 u12 u13 u14 u15 u16 u17 u18 u19 u20 u21 u22 u24 u25 u26 u27 u28 u29 u30 u31 u32 u33 u34 u35 u36 u37 u38 u39 u40 u41 u42 u43 u44 u45 u46 u47 u48 u49 u50 u51 u52 u53 u54 u55 u56 u57 u58 u59 u60 u61 u62 u63 u64 u65 u66 u67 u68 u69 u70 u71 u72 u73 u74 u75 u76 u77 u78 u79 u80 u81 u82 u83 u84 u85 u86 u87 u88 u89 u90 u91 u92 u93 u94 u95 u96 u97 u98 u99 u100 u101 u102 u103 u104 u105 u106 u107 u108 u109 u110 u111 u112 u113 u114 u115 u116 u117 u118 u119 u120 u121 u122 u123 u124 u125 u126 u127 u128 u129 u130 u131 u132 u133 u134 u135 u136 u137 u138 u139 u140 u141 u142 u143 u144 u145 u146 u147 u148 u149 u150 u151 u152 u153 u154 u155 u156 u157 u158 u159 u160 u161 u162 u163 u164 u165 u166 u167 u168 u169 u170 u171 u172 u173 u174 u175 u176 u177 u178 u179 u180 u181 u182 u183 u184 u185 u186 u187 u188 u189 u190 u191 u192 u193 u194 u195 u196 u197 u198 u199 u200 u201 u202 u203 u204 u205 u206 u207 u208 u209 u210 u211 u212 u213 u214 u215 u216 u217 u218 u219 u220 u221 u222 u223 u224 u225 u226 u227 u228 u229 u230 u231 u232 u233 u234 u235 u236 u237 u238 u239 u240 u241 u242 u243 u244 u245 u246 u247 u248 u249 u250 u251 u252 u253 u254 u255 u256 u257 u258 u259 u260 u261 u262 u263 u264 u265 u266 u267 u268 u269 u270 u271 u272 u273 u274 u275 hk
  have K0 := Lib.hid hk
  clear hk
  conv => arg 2; whnf
  dsimp only
  go_upto_region 34 with fail
  go_cut [241] (fun s241 wr => s241 = .bool false ∧ Kp w wr [(Bm, (.cells #[.int .i64 m1, .int .i64 m2, .int .i64 m3] 23 (0, 0))), (Bn, (.cells #[.int .u8 p, .int .u8 q] 60 (0, 0))), (Bv, (.cells #[.int .i64 a, .int .i64 b, .int .i64 c, .int .i64 d, .int .i64 i, .int .i64 f] 46 (0, 0))), (Bc, (.cells #[.int .i64 x, .int .i64 y, .int .i64 z, .int .i64 num, .int .i64 den] 25 (0, 0)))])
  case first =>
    obtain ⟨o0, o1, o2⟩ := cells3 (K0.out.2 _ (.head _))
    go_wp2_with fail
    go_meet
    exact ⟨rfl, K0.out⟩
  case rest =>
    rename_i q1 hq1 q0 hq
    obtain ⟨rfl, hb⟩ := hcut
    refine hq _ _ ?_
    clear hq
    have HK1 := Lib.hid hq1
    clear hq1
    go_wp2_with fail
    refine HK1.out _ _ ?_
    have KD : Kp w _ [(Bm, (.cells #[.int .i64 m1, .int .i64 m2, .int .i64 m3] 23 (0, 0))), (Bn, (.cells #[.int .u8 p, .int .u8 q] 60 (0, 0))), (Bv, (.cells #[.int .i64 a, .int .i64 b, .int .i64 c, .int .i64 d, .int .i64 i, .int .i64 f] 46 (0, 0))), (Bc, (.cells #[.int .i64 x, .int .i64 y, .int .i64 z, .int .i64 num, .int .i64 den] 25 (0, 0)))] := hb.subs fun p hp => by
      simp only [List.mem_cons, List.not_mem_nil, or_false] at hp ⊢
      rcases hp with h | h | h | h <;> simp [h]
    unfold SWy36 at hT
    exact hT _ _ _ _ _ _ _ _ _ _ _ _ _ _ _ _ _ _ _ _ _ _ _ _ _ _ _ _ _ _ _ _ _ _ _ _ _ _ _ _ _ _ _ _ _ _ _ _ _ _ _ _ _ _ _ _ _ _ _ _ _ _ _ _ _ _ _ _ _ _ _ _ _ _ _ _ _ _ _ _ _ _ _ _ _ _ _ _ _ _ _ _ _ _ _ _ _ _ _ _ _ _ _ _ _ _ _ _ _ _ _ _ _ _ _ _ _ _ _ _ _ _ _ _ _ _ _ _ _ _ _ _ _ _ _ _ _ _ _ _ _ _ _ _ _ _ _ _ _ _ _ _ _ _ _ _ _ _ _ _ _ _ _ _ _ _ _ _ _ _ _ _ _ _ _ _ _ _ _ _ _ _ _ _ _ _ _ _ _ _ _ _ _ _ _ _ _ _ _ _ _ _ _ _ _ _ _ _ _ _ _ _ _ _ _ _ _ _ _ _ _ _ _ _ _ _ _ _ _ _ _ _ _ _ _ _ _ _ _ _ _ _ _ _ _ _ _ _ _ _ _ _ _ _ _ _ _ _ _ _ _ _ _ _ _ _ _ _ _ _ _ _ _ _ _ _ (KD)

set_option maxRecDepth 1000000 in
set_option maxHeartbeats 12800000 in
theorem sw36 (w : World) (x y z num den a b c d i f p q : Int) (m1 m2 m3 : Int)
    (Q1 : Hid (∀ w1 : World, Calls Tryz.prog 8 #[.agg #[.int .i64 x, .int .i64 y, .int .i64 z, .int .i64 num, .int .i64 den], .agg #[.int .i64 a, .int .i64 b, .int .i64 c], .agg #[.int .i64 m1, .int .i64 m2, .int .i64 m3]] w1 fun e w' => e = .returned (.tuple #[.bool false, .int .i64 0]) ∧ Below w1.heap.size w1 w'))
    (Q2 : Hid (∀ w1 : World, Calls Tryz.prog 8 #[.agg #[.int .i64 x, .int .i64 y, .int .i64 z, .int .i64 num, .int .i64 den], .agg #[.int .i64 m1, .int .i64 m2, .int .i64 m3], .agg #[.int .i64 d, .int .i64 i, .int .i64 f]] w1 fun e w' => e = .returned (.tuple #[.bool false, .int .i64 0]) ∧ Below w1.heap.size w1 w'))
    (KW : Hid (∀ w1 : World, Below w.heap.size w w1 → Calls Tryz.prog 17 #[] w1 fun e w' => e = .returned (.bool true) ∧ Below w1.heap.size w1 w'))
    : SWy36 w x y z num den a b c d i f p q m1 m2 m3 := by
  unfold SWy36
  intro wx Bc Bv Bn Bm u0 u1 u2 u7 u8 u9 u10 u11 u12 u13 u14 u15 u16 u17 u18 u19 u20 u21 u22 u24 u25 u26 u27 u28 u29 u30 u31 u32 u33 u34 u35 u36 u37 u38 u39 u40 u41 u42 u43 u44 u45 u46 u47 u48 u49 u50 u51 u52 u53 u54 u55 u56 u57 u58 u59 u60 u61 u62 u63 u64 u65 u66 u67 u68 u69 u70 u71 u72 u73 u74 u75 u76 u77 u78 u79 u80 u81 u82 u83 u84 u85 u86 u87 u88 u89 u90 u91 u92 u93 u94 u95 u96 u97 u98 u99 u100 u101 u102 u103 u104 u105 u106 u107 u108 u109 u110 u111 u112 u113 u114 u115 u116 u117 u118 u119 u120 u121 u122 u123 u124 u125 u126 u127 u128 u129 u130 u131 u132 u133 u134 u135 u136 u137 u138 u139 u140 u141 u142 u143 u144 u145 u146 u147 u148 u149 u150 u151 u152 u153 u154 u155 u156 u157 u158 u159 u160 u161 u162 u163 u164 u165 u166 u167 u168 u169 u170 u171 u172 u173 u174 u175 u176 u177 u178 u179 u180 u181 u182 u183 u184 u185 u186 u187 u188 u189 u190 u191 u192 u193 u194 u195 u196 u197 u198 u199 u200 u201 u202 u203 u204 u205 u206 u207 u208 u209 u210 u211 u212 u213 u214 u215 u216 u217 u218 u219 u220 u221 u222 u223 u224 u225 u226 u227 u228 u229 u230 u231 u232 u233 u234 u235 u236 u237 u238 u239 u240 u241 u242 u243 u244 u245 u246 u247 u248 u249 u250 u251 u252 u253 u254 u255 u256 u257 u258 u259 u260 u261 u262 u263 u264 u265 u266 u267 u268 u269 u270 u271 u272 u273 u274 u275 hk
  have K0 := Lib.hid hk
  clear hk
  conv => arg 2; whnf
  dsimp only
  go_upto_region 36 with fail
  go_cut [25, 26] (fun s25 s26 wr => s25 = .bool false ∧ s26 = .int .i64 0 ∧ Kp w wr [(Bm, (.cells #[.int .i64 m1, .int .i64 m2, .int .i64 m3] 23 (0, 0))), (Bn, (.cells #[.int .u8 p, .int .u8 q] 60 (0, 0))), (Bv, (.cells #[.int .i64 a, .int .i64 b, .int .i64 c, .int .i64 d, .int .i64 i, .int .i64 f] 46 (0, 0))), (Bc, (.cells #[.int .i64 x, .int .i64 y, .int .i64 z, .int .i64 num, .int .i64 den] 25 (0, 0)))])
  case first =>
    obtain ⟨g0, g1, g2, g3, g4⟩ := cells5 (K0.out.2 _ (.tail _ (.tail _ (.tail _ (.head _)))))
    obtain ⟨h0, h1, h2, h3, h4, h5⟩ := cells6 (K0.out.2 _ (.tail _ (.tail _ (.head _))))
    obtain ⟨k0, k1, k2⟩ := cells3 (K0.out.2 _ (.head _))
    go_wp2_with (first
      | (go_at_call 8; (with_reducible refine (Q1.out _).mono ?_); rintro e w91 ⟨rfl, hb91⟩; have K91 := Lib.hid (K0.out.call hb91)))
    go_meet
    exact ⟨rfl, rfl, K91.out⟩
  case rest =>
    rename_i hK
    obtain ⟨rfl, rfl, hk⟩ := hcut
    refine hK _ _ ?_
    clear hK
    have K1 := Lib.hid hk
    clear hk K0
    go_upto_region 37 with fail
    go_cut [27, 28] (fun s27 s28 wr => s27 = .bool false ∧ s28 = .int .i64 0 ∧ Kp w wr [(Bm, (.cells #[.int .i64 m1, .int .i64 m2, .int .i64 m3] 23 (0, 0))), (Bn, (.cells #[.int .u8 p, .int .u8 q] 60 (0, 0))), (Bv, (.cells #[.int .i64 a, .int .i64 b, .int .i64 c, .int .i64 d, .int .i64 i, .int .i64 f] 46 (0, 0))), (Bc, (.cells #[.int .i64 x, .int .i64 y, .int .i64 z, .int .i64 num, .int .i64 den] 25 (0, 0)))])
    case first =>
      obtain ⟨g0, g1, g2, g3, g4⟩ := cells5 (K1.out.2 _ (.tail _ (.tail _ (.tail _ (.head _)))))
      obtain ⟨h0, h1, h2, h3, h4, h5⟩ := cells6 (K1.out.2 _ (.tail _ (.tail _ (.head _))))
      obtain ⟨k0, k1, k2⟩ := cells3 (K1.out.2 _ (.head _))
      go_wp2_with (first
        | (go_at_call 8; (with_reducible refine (Q2.out _).mono ?_); rintro e w91 ⟨rfl, hb91⟩; have K91 := Lib.hid (K1.out.call hb91)))
      go_meet
      exact ⟨rfl, rfl, K91.out⟩
    case rest =>
      rename_i hK
      obtain ⟨rfl, rfl, hk⟩ := hcut
      refine hK _ _ ?_
      clear hK
      have K2 := Lib.hid hk
      clear hk K1
      go_wp2_with (first
        | (go_at_call 17; (with_reducible refine (KW.out _ K2.out.below).mono ?_); rintro e w99 ⟨rfl, hb99⟩; have K99 := Lib.hid (K2.out.call hb99)))
      go_ret
      exact ⟨rfl, K99.out.below⟩
end Go.Proofs.YtggffhmdgceljaaGreatDoor
