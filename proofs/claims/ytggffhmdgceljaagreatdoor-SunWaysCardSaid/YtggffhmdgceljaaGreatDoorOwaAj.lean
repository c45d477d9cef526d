/-
  The walk of chapter 2's awake: regions 9 to 11.
-/
import Derived.Test.YtggffhmdgceljaaGreatDoorRows
import Derived.WalkKit
import Derived.WalkSpells
import Derived.WalkLawsBesides
import Derived.Lib.Hide
import Derived.BigQuiet
import Derived.Deep.QuietTactic
import Derived.Handy
import Derived.Deep.RegionHeld3
import Derived.Deep.RegionWith
import Derived.StillTailTactics
import Derived.RangeFuncNested
import Derived.RangeFuncBound
import Derived.RangeFuncCalls
import Derived.RangeFuncLeaves
import Derived.RangeFuncBox
import Derived.Shelf.Abstract
import Derived.Shelf.RegionOpen
import Derived.OwnWalkIn
import Derived.TacticsInMore
import Derived.LoopNIn
import Derived.LoopIn
import Derived.Maps.AppendAt
import Derived.Test.YtggffhmdgceljaaGreatDoorProg
import Derived.Laws.FloatArith
import Derived.Laws.BitsAllLaws
import Derived.Deep.DeepCutAuto
import Derived.Stop.BytesEq
import Derived.Deep.MidRow
import Derived.Laws.CopyRow
import Derived.WalkMore
import Derived.Deep.DrawnRows
import Derived.Deep.CutBlock
import Derived.Orders
import Derived.LoopTactic
import Derived.Laws.StructEq
import Derived.Deep.RegionLaw
import Derived.RegionTactic
import Derived.StillTail
import Derived.Laws.RangeString
import Derived.Laws.RangeAny
import Derived.Shelf.Strings.Builder1
import Derived.Shelf.Strings.OnBuilder
import Derived.Shelf.LaysM
import Derived.Shelf.Strconv.Itoa3
import Derived.Lib.AppendIntMem
import Derived.Lib.ItoaLen
import Derived.RowKit
import Derived.Test.YtggffhmdgceljaaGreatDoorOwaWn
import Derived.Test.YtggffhmdgceljaaGreatDoorOwaXe
import Derived.Test.YtggffhmdgceljaaGreatDoorOwaIb
import Derived.Test.YtggffhmdgceljaaGreatDoorOwaIl
import Derived.Test.YtggffhmdgceljaaGreatDoorOwaId
import Derived.Test.YtggffhmdgceljaaGreatDoorOwaIp
import Derived.Test.YtggffhmdgceljaaGreatDoorOwaNi
import Derived.Test.YtggffhmdgceljaaGreatDoorOwaNv
import Derived.Test.YtggffhmdgceljaaGreatDoorOwaWo
import Derived.Test.YtggffhmdgceljaaGreatDoorOwaNo
import Derived.Test.YtggffhmdgceljaaGreatDoorOwaNy
import Derived.Test.YtggffhmdgceljaaGreatDoorOwaAb
import Derived.Test.YtggffhmdgceljaaGreatDoorOwaAc
import Derived.Test.YtggffhmdgceljaaGreatDoorOwaAf
import Derived.Test.YtggffhmdgceljaaGreatDoorOwaAh
import Derived.Test.YtggffhmdgceljaaGreatDoorOwaAp
namespace Go.Proofs.YtggffhmdgceljaaGreatDoor
open Go.RowKit
set_option linter.unusedVariables false
set_option linter.unusedSimpArgs false

set_option maxRecDepth 1000000 in
/-- What is still to be shown where the walk stands ahead of region 10. -/
def SAwk10 (w : World) : Prop :=
  ∀ (wx : World) (B1 : Nat) (B7 : Nat) (B9 : Nat) (B11 : Nat) (B14 : Nat) (B16 : Nat) (u19 u20 u21 u22 u23 u24 u25 u26 u27 u28 u29 u30 u31 u32 u33 u34 u35 u36 u37 u38 u39 u40 u41 u42 u43 u44 u45 u46 u47 u48 u49 u50 u51 u52 u53 u54 u55 u56 u57 u58 u59 u60 u61 u62 u63 u64 u65 u66 u67 u68 u69 u70 u71 u72 u73 u74 u75 u76 u77 u78 u79 u80 u81 u82 u83 u84 u85 u86 u87 u88 u89 u90 u91 u92 u93 u94 u95 u96 u97 u98 u99 u100 u101 u102 u103 u104 u105 u106 u107 u108 u109 u110 u111 u112 u113 u114 u115 u116 u117 u118 u119 u120 u121 u122 u123 u124 u125 u126 u127 u128 u129 u130 u131 u132 u133 u134 u135 u136 u137 u138 u139 u140 u141 u142 u143 u144 u145 u146 u147 u148 u149 u150 u151 u152 u153 u154 u155 u156 u157 u158 u159 u160 u161 u162 u163 u164 u165 u166 u167 u168 u169 u170 u171 u172 u173 u174 u175 u176 u177 u178 u179 u180 u181 u182 u183 u184 u185 u186 u187 u188 u189 u190 u191 u192 u193 u194 u195 u196 u197 u198 u199 u200 u201 u202 u203 u204 u205 u206 u207 u208 u209 u210 u211 u212 u213 u214 u215 u216 u217 u218 u219 u220 u221 u222 u223 u224 u225 u226 u227 u228 u229 u230 u231 u232 u233 u234 u235 u236 u237 u238 u239 u240 u241 u242 u243 u244 u245 u246 u247 u248 u249 u250 u251 u252 u253 u254 u255 u256 u257 u258 u259 u260 u261 u262 u263 u264 u265 u266 u267 u268 u269 u270 u271 u272 u273 u274 u275 u276 u277 u278 u279 u280 u281 u282 u283 u284 u285 u286 u287 u288 u289 u290 u291 u292 u293 u294 u295 u296 u297 u298 u299 u300 u301 u302 u303 u304 u305 u306 u307 u308 u309 u310 u311 u312 u313 u314 u315 u316 u317 u318 u319 u320 u321 u322 : Value), Below w.heap.size w wx → wx.heap[B1]? = some (.cells #[.int .i64 1, .int .i64 2, .int .i64 2] 23 (0, 0)) → wx.heap[B7]? = some (.cells #[.int .i64 1, .int .i64 2, .int .i64 (-2)] 23 (0, 0)) → wx.heap[B9]? = some (.cells #[.int .i64 2, .int .i64 1, .int .i64 5] 23 (0, 0)) → wx.heap[B11]? = some (.cells #[.int .i64 2, .int .i64 1, .int .i64 2] 23 (0, 0)) → wx.heap[B14]? = some (.cells #[.int .i64 64, .int .i64 81] 56 (0, 0)) → wx.heap[B16]? = some (.cells #[.int .i64 0, .int .i64 0, .int .i64 1, .int .i64 1, .int .i64 2] 29 (0, 0)) → Code.wp Tryz.prog (sunAwkOf 10) (bodyPost Tryz.prog Tryz.f17 (SunPost w)) ⟨#[.bool false, .pointer (some ⟨B1, 0, none⟩), .int .i64 0, .int .i64 3, .int .i64 0, .int .i64 0, .int .i64 1, .pointer (some ⟨B7, 0, none⟩), .int .i64 0, .pointer (some ⟨B9, 0, none⟩), .int .i64 0, .pointer (some ⟨B11, 0, none⟩), .int .i64 0, .int .i64 1, .pointer (some ⟨B14, 0, none⟩), .int .i64 0, .pointer (some ⟨B16, 0, none⟩), .bool true, .int .i64 0, u19, u20, u21, u22, u23, u24, u25, u26, u27, u28, u29, u30, u31, u32, u33, u34, u35, u36, u37, u38, u39, u40, u41, u42, u43, u44, u45, u46, u47, u48, u49, u50, u51, u52, u53, u54, u55, u56, u57, u58, u59, u60, u61, u62, u63, u64, u65, u66, u67, u68, u69, u70, u71, u72, u73, u74, u75, u76, u77, u78, u79, u80, u81, u82, u83, u84, u85, u86, u87, u88, u89, u90, u91, u92, u93, u94, u95, u96, u97, u98, u99, u100, u101, u102, u103, u104, u105, u106, u107, u108, u109, u110, u111, u112, u113, u114, u115, u116, u117, u118, u119, u120, u121, u122, u123, u124, u125, u126, u127, u128, u129, u130, u131, u132, u133, u134, u135, u136, u137, u138, u139, u140, u141, u142, u143, u144, u145, u146, u147, u148, u149, u150, u151, u152, u153, u154, u155, u156, u157, u158, u159, u160, u161, u162, u163, u164, u165, u166, u167, u168, u169, u170, u171, u172, u173, u174, u175, u176, u177, u178, u179, u180, u181, u182, u183, u184, u185, u186, u187, u188, u189, u190, u191, u192, u193, u194, u195, u196, u197, u198, u199, u200, u201, u202, u203, u204, u205, u206, u207, u208, u209, u210, u211, u212, u213, u214, u215, u216, u217, u218, u219, u220, u221, u222, u223, u224, u225, u226, u227, u228, u229, u230, u231, u232, u233, u234, u235, u236, u237, u238, u239, u240, u241, u242, u243, u244, u245, u246, u247, u248, u249, u250, u251, u252, u253, u254, u255, u256, u257, u258, u259, u260, u261, u262, u263, u264, u265, u266, u267, u268, u269, u270, u271, u272, u273, u274, u275, u276, u277, u278, u279, u280, u281, u282, u283, u284, u285, u286, u287, u288, u289, u290, u291, u292, u293, u294, u295, u296, u297, u298, u299, u300, u301, u302, u303, u304, u305, u306, u307, u308, u309, u310, u311, u312, u313, u314, u315, u316, u317, u318, u319, u320, u321, u322], []⟩ wx

set_option maxRecDepth 1000000 in
/-- What is still to be shown where the walk stands ahead of region 11. -/
def SAwk11 (w : World) : Prop :=
  ∀ (wx : World) (B1 : Nat) (B7 : Nat) (B9 : Nat) (B11 : Nat) (B14 : Nat) (B16 : Nat) (u21 u22 u23 u24 u25 u26 u27 u28 u29 u30 u31 u32 u33 u34 u35 u36 u37 u38 u39 u40 u41 u42 u43 u44 u45 u46 u47 u48 u49 u50 u51 u52 u53 u54 u55 u56 u57 u58 u59 u60 u61 u62 u63 u64 u65 u66 u67 u68 u69 u70 u71 u72 u73 u74 u75 u76 u77 u78 u79 u80 u81 u82 u83 u84 u85 u86 u87 u88 u89 u90 u91 u92 u93 u94 u95 u96 u97 u98 u99 u100 u101 u102 u103 u104 u105 u106 u107 u108 u109 u110 u111 u112 u113 u114 u115 u116 u117 u118 u119 u120 u121 u122 u123 u124 u125 u126 u127 u128 u129 u130 u131 u132 u133 u134 u135 u136 u137 u138 u139 u140 u141 u142 u143 u144 u145 u146 u147 u148 u149 u150 u151 u152 u153 u154 u155 u156 u157 u158 u159 u160 u161 u162 u163 u164 u165 u166 u167 u168 u169 u170 u171 u172 u173 u174 u175 u176 u177 u178 u179 u180 u181 u182 u183 u184 u185 u186 u187 u188 u189 u190 u191 u192 u193 u194 u195 u196 u197 u198 u199 u200 u201 u202 u203 u204 u205 u206 u207 u208 u209 u210 u211 u212 u213 u214 u215 u216 u217 u218 u219 u220 u221 u222 u223 u224 u225 u226 u227 u228 u229 u230 u231 u232 u233 u234 u235 u236 u237 u238 u239 u240 u241 u242 u243 u244 u245 u246 u247 u248 u249 u250 u251 u252 u253 u254 u255 u256 u257 u258 u259 u260 u261 u262 u263 u264 u265 u266 u267 u268 u269 u270 u271 u272 u273 u274 u275 u276 u277 u278 u279 u280 u281 u282 u283 u284 u285 u286 u287 u288 u289 u290 u291 u292 u293 u294 u295 u296 u297 u298 u299 u300 u301 u302 u303 u304 u305 u306 u307 u308 u309 u310 u311 u312 u313 u314 u315 u316 u317 u318 u319 u320 u321 u322 : Value), Below w.heap.size w wx → wx.heap[B1]? = some (.cells #[.int .i64 1, .int .i64 2, .int .i64 2] 23 (0, 0)) → wx.heap[B7]? = some (.cells #[.int .i64 1, .int .i64 2, .int .i64 (-2)] 23 (0, 0)) → wx.heap[B9]? = some (.cells #[.int .i64 2, .int .i64 1, .int .i64 5] 23 (0, 0)) → wx.heap[B11]? = some (.cells #[.int .i64 2, .int .i64 1, .int .i64 2] 23 (0, 0)) → wx.heap[B14]? = some (.cells #[.int .i64 64, .int .i64 81] 56 (0, 0)) → wx.heap[B16]? = some (.cells #[.int .i64 0, .int .i64 0, .int .i64 1, .int .i64 1, .int .i64 2] 29 (0, 0)) → Code.wp Tryz.prog (sunAwkOf 11) (bodyPost Tryz.prog Tryz.f17 (SunPost w)) ⟨#[.bool false, .pointer (some ⟨B1, 0, none⟩), .int .i64 0, .int .i64 3, .int .i64 0, .int .i64 0, .int .i64 1, .pointer (some ⟨B7, 0, none⟩), .int .i64 0, .pointer (some ⟨B9, 0, none⟩), .int .i64 0, .pointer (some ⟨B11, 0, none⟩), .int .i64 0, .int .i64 1, .pointer (some ⟨B14, 0, none⟩), .int .i64 0, .pointer (some ⟨B16, 0, none⟩), .bool true, .int .i64 0, .bool false, .int .i64 0, u21, u22, u23, u24, u25, u26, u27, u28, u29, u30, u31, u32, u33, u34, u35, u36, u37, u38, u39, u40, u41, u42, u43, u44, u45, u46, u47, u48, u49, u50, u51, u52, u53, u54, u55, u56, u57, u58, u59, u60, u61, u62, u63, u64, u65, u66, u67, u68, u69, u70, u71, u72, u73, u74, u75, u76, u77, u78, u79, u80, u81, u82, u83, u84, u85, u86, u87, u88, u89, u90, u91, u92, u93, u94, u95, u96, u97, u98, u99, u100, u101, u102, u103, u104, u105, u106, u107, u108, u109, u110, u111, u112, u113, u114, u115, u116, u117, u118, u119, u120, u121, u122, u123, u124, u125, u126, u127, u128, u129, u130, u131, u132, u133, u134, u135, u136, u137, u138, u139, u140, u141, u142, u143, u144, u145, u146, u147, u148, u149, u150, u151, u152, u153, u154, u155, u156, u157, u158, u159, u160, u161, u162, u163, u164, u165, u166, u167, u168, u169, u170, u171, u172, u173, u174, u175, u176, u177, u178, u179, u180, u181, u182, u183, u184, u185, u186, u187, u188, u189, u190, u191, u192, u193, u194, u195, u196, u197, u198, u199, u200, u201, u202, u203, u204, u205, u206, u207, u208, u209, u210, u211, u212, u213, u214, u215, u216, u217, u218, u219, u220, u221, u222, u223, u224, u225, u226, u227, u228, u229, u230, u231, u232, u233, u234, u235, u236, u237, u238, u239, u240, u241, u242, u243, u244, u245, u246, u247, u248, u249, u250, u251, u252, u253, u254, u255, u256, u257, u258, u259, u260, u261, u262, u263, u264, u265, u266, u267, u268, u269, u270, u271, u272, u273, u274, u275, u276, u277, u278, u279, u280, u281, u282, u283, u284, u285, u286, u287, u288, u289, u290, u291, u292, u293, u294, u295, u296, u297, u298, u299, u300, u301, u302, u303, u304, u305, u306, u307, u308, u309, u310, u311, u312, u313, u314, u315, u316, u317, u318, u319, u320, u321, u322], []⟩ wx

set_option maxRecDepth 1000000 in
/-- What is still to be shown where the walk stands ahead of region 12. -/
def SAwk12 (w : World) : Prop :=
  ∀ (wx : World) (B1 : Nat) (B7 : Nat) (B9 : Nat) (B11 : Nat) (B14 : Nat) (B16 : Nat) (u23 u24 u25 u26 u27 u28 u29 u30 u31 u32 u33 u34 u35 u36 u37 u38 u39 u40 u41 u42 u43 u44 u45 u46 u47 u48 u49 u50 u51 u52 u53 u54 u55 u56 u57 u58 u59 u60 u61 u62 u63 u64 u65 u66 u67 u68 u69 u70 u71 u72 u73 u74 u75 u76 u77 u78 u79 u80 u81 u82 u83 u84 u85 u86 u87 u88 u89 u90 u91 u92 u93 u94 u95 u96 u97 u98 u99 u100 u101 u102 u103 u104 u105 u106 u107 u108 u109 u110 u111 u112 u113 u114 u115 u116 u117 u118 u119 u120 u121 u122 u123 u124 u125 u126 u127 u128 u129 u130 u131 u132 u133 u134 u135 u136 u137 u138 u139 u140 u141 u142 u143 u144 u145 u146 u147 u148 u149 u150 u151 u152 u153 u154 u155 u156 u157 u158 u159 u160 u161 u162 u163 u164 u165 u166 u167 u168 u169 u170 u171 u172 u173 u174 u175 u176 u177 u178 u179 u180 u181 u182 u183 u184 u185 u186 u187 u188 u189 u190 u191 u192 u193 u194 u195 u196 u197 u198 u199 u200 u201 u202 u203 u204 u205 u206 u207 u208 u209 u210 u211 u212 u213 u214 u215 u216 u217 u218 u219 u220 u221 u222 u223 u224 u225 u226 u227 u228 u229 u230 u231 u232 u233 u234 u235 u236 u237 u238 u239 u240 u241 u242 u243 u244 u245 u246 u247 u248 u249 u250 u251 u252 u253 u254 u255 u256 u257 u258 u259 u260 u261 u262 u263 u264 u265 u266 u267 u268 u269 u270 u271 u272 u273 u274 u275 u276 u277 u278 u279 u280 u281 u282 u283 u284 u285 u286 u287 u288 u289 u290 u291 u292 u293 u294 u295 u296 u297 u298 u299 u300 u301 u302 u303 u304 u305 u306 u307 u308 u309 u310 u311 u312 u313 u314 u315 u316 u317 u318 u319 u320 u321 u322 : Value), Below w.heap.size w wx → wx.heap[B1]? = some (.cells #[.int .i64 1, .int .i64 2, .int .i64 2] 23 (0, 0)) → wx.heap[B7]? = some (.cells #[.int .i64 1, .int .i64 2, .int .i64 (-2)] 23 (0, 0)) → wx.heap[B9]? = some (.cells #[.int .i64 2, .int .i64 1, .int .i64 5] 23 (0, 0)) → wx.heap[B11]? = some (.cells #[.int .i64 2, .int .i64 1, .int .i64 2] 23 (0, 0)) → wx.heap[B14]? = some (.cells #[.int .i64 64, .int .i64 81] 56 (0, 0)) → wx.heap[B16]? = some (.cells #[.int .i64 0, .int .i64 0, .int .i64 1, .int .i64 1, .int .i64 2] 29 (0, 0)) → Code.wp Tryz.prog (sunAwkOf 12) (bodyPost Tryz.prog Tryz.f17 (SunPost w)) ⟨#[.bool false, .pointer (some ⟨B1, 0, none⟩), .int .i64 0, .int .i64 3, .int .i64 0, .int .i64 0, .int .i64 1, .pointer (some ⟨B7, 0, none⟩), .int .i64 0, .pointer (some ⟨B9, 0, none⟩), .int .i64 0, .pointer (some ⟨B11, 0, none⟩), .int .i64 0, .int .i64 1, .pointer (some ⟨B14, 0, none⟩), .int .i64 0, .pointer (some ⟨B16, 0, none⟩), .bool true, .int .i64 0, .bool false, .int .i64 0, .bool true, .int .i64 0, u23, u24, u25, u26, u27, u28, u29, u30, u31, u32, u33, u34, u35, u36, u37, u38, u39, u40, u41, u42, u43, u44, u45, u46, u47, u48, u49, u50, u51, u52, u53, u54, u55, u56, u57, u58, u59, u60, u61, u62, u63, u64, u65, u66, u67, u68, u69, u70, u71, u72, u73, u74, u75, u76, u77, u78, u79, u80, u81, u82, u83, u84, u85, u86, u87, u88, u89, u90, u91, u92, u93, u94, u95, u96, u97, u98, u99, u100, u101, u102, u103, u104, u105, u106, u107, u108, u109, u110, u111, u112, u113, u114, u115, u116, u117, u118, u119, u120, u121, u122, u123, u124, u125, u126, u127, u128, u129, u130, u131, u132, u133, u134, u135, u136, u137, u138, u139, u140, u141, u142, u143, u144, u145, u146, u147, u148, u149, u150, u151, u152, u153, u154, u155, u156, u157, u158, u159, u160, u161, u162, u163, u164, u165, u166, u167, u168, u169, u170, u171, u172, u173, u174, u175, u176, u177, u178, u179, u180, u181, u182, u183, u184, u185, u186, u187, u188, u189, u190, u191, u192, u193, u194, u195, u196, u197, u198, u199, u200, u201, u202, u203, u204, u205, u206, u207, u208, u209, u210, u211, u212, u213, u214, u215, u216, u217, u218, u219, u220, u221, u222, u223, u224, u225, u226, u227, u228, u229, u230, u231, u232, u233, u234, u235, u236, u237, u238, u239, u240, u241, u242, u243, u244, u245, u246, u247, u248, u249, u250, u251, u252, u253, u254, u255, u256, u257, u258, u259, u260, u261, u262, u263, u264, u265, u266, u267, u268, u269, u270, u271, u272, u273, u274, u275, u276, u277, u278, u279, u280, u281, u282, u283, u284, u285, u286, u287, u288, u289, u290, u291, u292, u293, u294, u295, u296, u297, u298, u299, u300, u301, u302, u303, u304, u305, u306, u307, u308, u309, u310, u311, u312, u313, u314, u315, u316, u317, u318, u319, u320, u321, u322], []⟩ wx

set_option maxRecDepth 1000000 in
set_option maxHeartbeats 12800000 in
theorem sawk9 (w : World) (hX : AxesIn w) (ht : TabAt w) (hT : SAwk10 w) : SAwk9 w := by
  unfold SAwk9
  intro wx B1 B7 B9 B11 B14 B16 u17 u18 u19 u20 u21 u22 u23 u24 u25 u26 u27 u28 u29 u30 u31 u32 u33 u34 u35 u36 u37 u38 u39 u40 u41 u42 u43 u44 u45 u46 u47 u48 u49 u50 u51 u52 u53 u54 u55 u56 u57 u58 u59 u60 u61 u62 u63 u64 u65 u66 u67 u68 u69 u70 u71 u72 u73 u74 u75 u76 u77 u78 u79 u80 u81 u82 u83 u84 u85 u86 u87 u88 u89 u90 u91 u92 u93 u94 u95 u96 u97 u98 u99 u100 u101 u102 u103 u104 u105 u106 u107 u108 u109 u110 u111 u112 u113 u114 u115 u116 u117 u118 u119 u120 u121 u122 u123 u124 u125 u126 u127 u128 u129 u130 u131 u132 u133 u134 u135 u136 u137 u138 u139 u140 u141 u142 u143 u144 u145 u146 u147 u148 u149 u150 u151 u152 u153 u154 u155 u156 u157 u158 u159 u160 u161 u162 u163 u164 u165 u166 u167 u168 u169 u170 u171 u172 u173 u174 u175 u176 u177 u178 u179 u180 u181 u182 u183 u184 u185 u186 u187 u188 u189 u190 u191 u192 u193 u194 u195 u196 u197 u198 u199 u200 u201 u202 u203 u204 u205 u206 u207 u208 u209 u210 u211 u212 u213 u214 u215 u216 u217 u218 u219 u220 u221 u222 u223 u224 u225 u226 u227 u228 u229 u230 u231 u232 u233 u234 u235 u236 u237 u238 u239 u240 u241 u242 u243 u244 u245 u246 u247 u248 u249 u250 u251 u252 u253 u254 u255 u256 u257 u258 u259 u260 u261 u262 u263 u264 u265 u266 u267 u268 u269 u270 u271 u272 u273 u274 u275 u276 u277 u278 u279 u280 u281 u282 u283 u284 u285 u286 u287 u288 u289 u290 u291 u292 u293 u294 u295 u296 u297 u298 u299 u300 u301 u302 u303 u304 u305 u306 u307 u308 u309 u310 u311 u312 u313 u314 u315 u316 u317 u318 u319 u320 u321 u322 hB f1 f7 f9 f11 f14 f16
  conv => arg 2; whnf
  dsimp only
  go_upto_region 9 with fail
  go_cut [17, 18] (fun s17 s18 wr => s17 = .bool true ∧ s18 = .int .i64 0 ∧ Below wx.heap.size wx wr)
  case first =>
    have w0 : IntKind.i64.wrap 0 = 0 := by decide
    have KV : Hid (∀ (x y z : Int) (w1 : World), Calls Tryz.prog 55 #[.int .i64 x, .int .i64 y, .int .i64 z] w1 fun e w' => e = .returned (.agg #[.int .i64 x, .int .i64 y, .int .i64 z]) ∧ Below w1.heap.size w1 w') := Lib.hid vec_any
    have KI : Hid (∀ w1 : World, Calls Tryz.prog 7 #[.agg #[.int .i64 0, .int .i64 0, .int .i64 1, .int .i64 1, .int .i64 2], .agg #[.int .i64 1, .int .i64 0, .int .i64 1]] w1 fun e w' => e = .returned (.tuple #[.bool true, .int .i64 0]) ∧ Below w1.heap.size w1 w') := Lib.hid ex_inside
    apply wp_region_yields (aF := ⟨#[.bool false, .pointer (some ⟨B1, 0, none⟩), .int .i64 0, .int .i64 3, .int .i64 0, .int .i64 0, .int .i64 1, .pointer (some ⟨B7, 0, none⟩), .int .i64 0, .pointer (some ⟨B9, 0, none⟩), .int .i64 0, .pointer (some ⟨B11, 0, none⟩), .int .i64 0, .int .i64 1, .pointer (some ⟨B14, 0, none⟩), .int .i64 0, .pointer (some ⟨B16, 0, none⟩), .bool true, u18, u19, u20, u21, u22, u23, u24, u25, u26, u27, u28, u29, u30, u31, u32, u33, u34, u35, u36, u37, u38, u39, u40, u41, u42, u43, u44, u45, u46, u47, u48, u49, u50, u51, u52, u53, u54, u55, u56, u57, u58, u59, u60, u61, u62, u63, u64, u65, u66, u67, u68, u69, u70, u71, u72, u73, u74, u75, u76, u77, u78, u79, u80, u81, u82, u83, u84, u85, u86, u87, .tuple #[.bool true, .int .i64 0], .agg #[.int .i64 0, .int .i64 0, .int .i64 1, .int .i64 1, .int .i64 2], .agg #[.int .i64 1, .int .i64 0, .int .i64 1], .tuple #[.bool true, .int .i64 0], .bool true, .int .i64 0, u94, u95, u96, u97, u98, u99, u100, u101, u102, u103, u104, u105, u106, u107, u108, u109, u110, u111, u112, u113, u114, u115, u116, u117, u118, u119, u120, u121, u122, u123, u124, u125, u126, u127, u128, u129, u130, u131, u132, u133, u134, u135, u136, u137, u138, u139, u140, u141, u142, u143, u144, u145, u146, u147, u148, u149, u150, u151, u152, u153, u154, u155, u156, u157, u158, u159, u160, u161, u162, u163, u164, u165, u166, u167, u168, u169, u170, u171, u172, u173, u174, u175, u176, u177, u178, u179, u180, u181, u182, u183, u184, u185, u186, u187, u188, u189, u190, u191, u192, u193, u194, u195, u196, u197, u198, u199, u200, u201, u202, u203, u204, u205, u206, u207, u208, u209, u210, u211, u212, u213, u214, u215, u216, u217, u218, u219, u220, u221, u222, u223, u224, u225, u226, u227, u228, u229, u230, u231, u232, u233, u234, u235, u236, u237, u238, u239, u240, u241, u242, u243, u244, u245, u246, u247, u248, u249, u250, u251, u252, u253, u254, u255, u256, u257, u258, u259, u260, u261, u262, u263, u264, u265, u266, u267, u268, u269, u270, u271, u272, u273, u274, u275, u276, u277, u278, u279, u280, u281, u282, u283, u284, u285, u286, u287, u288, u289, u290, u291, u292, u293, u294, u295, u296, u297, u298, u299, u300, u301, u302, u303, u304, u305, u306, u307, u308, u309, u310, u311, u312, u313, u314, u315, u316, u317, u318, u319, u320, u321, u322], []⟩) 7 (fun w' => Blw wx.heap.size wx w') [.agg #[.int .i64 0, .int .i64 0, .int .i64 1, .int .i64 1, .int .i64 2], .agg #[.int .i64 1, .int .i64 0, .int .i64 1], .tuple #[.bool true, .int .i64 0], .tuple #[.bool true, .int .i64 0], .bool true, .int .i64 0, .bool true] (by kernel_rfl) (by kernel_rfl) (show Below _ _ _ from (Below.refl _ _).drew)
    case haF => kernel_rfl
    case h =>
      simp only [List.take_succ_cons, List.take_zero, YieldsL]
      refine ⟨.no rfl ?_, .no rfl ?_, .no rfl ?_, .no rfl ?_, .no rfl ?_, .no rfl ?_, .no rfl ?_, trivial⟩
      all_goals
        intro w1 hw1
        obtain ⟨c16_0, c16_1, c16_2, c16_3, c16_4⟩ := cells5 (((show Below _ _ _ from hw1).block _ (lt_of_blk f16)).trans f16)
        unfold Oper.wp
        simp only [execOp]
        go_simp <;> first
          | exact ⟨rfl, hw1⟩
          | ((with_reducible refine (KV.out _ _ _ _).mono ?_); rintro e w2 ⟨rfl, hb⟩; exact ⟨rfl, below_call hb hw1⟩)
          | ((with_reducible refine (KI.out _).mono ?_); rintro e w2 ⟨rfl, hb⟩; exact ⟨rfl, below_call hb hw1⟩)
    case ht =>
      intro w5 hw5
      simp only [List.drop_succ_cons, List.drop_zero]
      go_wp2_with fail
      go_meet
      exact ⟨rfl, rfl, hw5⟩
  case rest =>
    rename_i hK
    obtain ⟨rfl, rfl, hb⟩ := hcut
    refine hK _ _ ?_
    clear hK
    unfold SAwk10 at hT
    exact hT _ B1 B7 B9 B11 B14 B16 _ _ _ _ _ _ _ _ _ _ _ _ _ _ _ _ _ _ _ _ _ _ _ _ _ _ _ _ _ _ _ _ _ _ _ _ _ _ _ _ _ _ _ _ _ _ _ _ _ _ _ _ _ _ _ _ _ _ _ _ _ _ _ _ _ _ _ _ _ _ _ _ _ _ _ _ _ _ _ _ _ _ _ _ _ _ _ _ _ _ _ _ _ _ _ _ _ _ _ _ _ _ _ _ _ _ _ _ _ _ _ _ _ _ _ _ _ _ _ _ _ _ _ _ _ _ _ _ _ _ _ _ _ _ _ _ _ _ _ _ _ _ _ _ _ _ _ _ _ _ _ _ _ _ _ _ _ _ _ _ _ _ _ _ _ _ _ _ _ _ _ _ _ _ _ _ _ _ _ _ _ _ _ _ _ _ _ _ _ _ _ _ _ _ _ _ _ _ _ _ _ _ _ _ _ _ _ _ _ _ _ _ _ _ _ _ _ _ _ _ _ _ _ _ _ _ _ _ _ _ _ _ _ _ _ _ _ _ _ _ _ _ _ _ _ _ _ _ _ _ _ _ _ _ _ _ _ _ _ _ _ _ _ _ _ _ _ _ _ _ _ _ _ _ _ _ _ _ _ _ _ _ _ _ _ _ _ _ _ _ _ _ _ _ _ _ _ _ _ _ _ _ _ _ (hB.trans (hb.mono hB.size)) ((hb.block _ (lt_of_blk f1)).trans f1) ((hb.block _ (lt_of_blk f7)).trans f7) ((hb.block _ (lt_of_blk f9)).trans f9) ((hb.block _ (lt_of_blk f11)).trans f11) ((hb.block _ (lt_of_blk f14)).trans f14) ((hb.block _ (lt_of_blk f16)).trans f16)

set_option maxRecDepth 1000000 in
set_option maxHeartbeats 12800000 in
theorem sawk10 (w : World) (hX : AxesIn w) (ht : TabAt w) (hT : SAwk11 w) : SAwk10 w := by
  unfold SAwk10
  intro wx B1 B7 B9 B11 B14 B16 u19 u20 u21 u22 u23 u24 u25 u26 u27 u28 u29 u30 u31 u32 u33 u34 u35 u36 u37 u38 u39 u40 u41 u42 u43 u44 u45 u46 u47 u48 u49 u50 u51 u52 u53 u54 u55 u56 u57 u58 u59 u60 u61 u62 u63 u64 u65 u66 u67 u68 u69 u70 u71 u72 u73 u74 u75 u76 u77 u78 u79 u80 u81 u82 u83 u84 u85 u86 u87 u88 u89 u90 u91 u92 u93 u94 u95 u96 u97 u98 u99 u100 u101 u102 u103 u104 u105 u106 u107 u108 u109 u110 u111 u112 u113 u114 u115 u116 u117 u118 u119 u120 u121 u122 u123 u124 u125 u126 u127 u128 u129 u130 u131 u132 u133 u134 u135 u136 u137 u138 u139 u140 u141 u142 u143 u144 u145 u146 u147 u148 u149 u150 u151 u152 u153 u154 u155 u156 u157 u158 u159 u160 u161 u162 u163 u164 u165 u166 u167 u168 u169 u170 u171 u172 u173 u174 u175 u176 u177 u178 u179 u180 u181 u182 u183 u184 u185 u186 u187 u188 u189 u190 u191 u192 u193 u194 u195 u196 u197 u198 u199 u200 u201 u202 u203 u204 u205 u206 u207 u208 u209 u210 u211 u212 u213 u214 u215 u216 u217 u218 u219 u220 u221 u222 u223 u224 u225 u226 u227 u228 u229 u230 u231 u232 u233 u234 u235 u236 u237 u238 u239 u240 u241 u242 u243 u244 u245 u246 u247 u248 u249 u250 u251 u252 u253 u254 u255 u256 u257 u258 u259 u260 u261 u262 u263 u264 u265 u266 u267 u268 u269 u270 u271 u272 u273 u274 u275 u276 u277 u278 u279 u280 u281 u282 u283 u284 u285 u286 u287 u288 u289 u290 u291 u292 u293 u294 u295 u296 u297 u298 u299 u300 u301 u302 u303 u304 u305 u306 u307 u308 u309 u310 u311 u312 u313 u314 u315 u316 u317 u318 u319 u320 u321 u322 hB f1 f7 f9 f11 f14 f16
  conv => arg 2; whnf
  dsimp only
  go_upto_region 10 with fail
  go_cut [19, 20] (fun s19 s20 wr => s19 = .bool false ∧ s20 = .int .i64 0 ∧ Below wx.heap.size wx wr)
  case first =>
    have w0 : IntKind.i64.wrap 0 = 0 := by decide
    have KV : Hid (∀ (x y z : Int) (w1 : World), Calls Tryz.prog 55 #[.int .i64 x, .int .i64 y, .int .i64 z] w1 fun e w' => e = .returned (.agg #[.int .i64 x, .int .i64 y, .int .i64 z]) ∧ Below w1.heap.size w1 w') := Lib.hid vec_any
    have KI : Hid (∀ w1 : World, Calls Tryz.prog 7 #[.agg #[.int .i64 0, .int .i64 0, .int .i64 1, .int .i64 1, .int .i64 2], .agg #[.int .i64 2, .int .i64 0, .int .i64 1]] w1 fun e w' => e = .returned (.tuple #[.bool false, .int .i64 0]) ∧ Below w1.heap.size w1 w') := Lib.hid ex_insideNo
    apply wp_region_yields (aF := ⟨#[.bool false, .pointer (some ⟨B1, 0, none⟩), .int .i64 0, .int .i64 3, .int .i64 0, .int .i64 0, .int .i64 1, .pointer (some ⟨B7, 0, none⟩), .int .i64 0, .pointer (some ⟨B9, 0, none⟩), .int .i64 0, .pointer (some ⟨B11, 0, none⟩), .int .i64 0, .int .i64 1, .pointer (some ⟨B14, 0, none⟩), .int .i64 0, .pointer (some ⟨B16, 0, none⟩), .bool true, .int .i64 0, .bool false, u20, u21, u22, u23, u24, u25, u26, u27, u28, u29, u30, u31, u32, u33, u34, u35, u36, u37, u38, u39, u40, u41, u42, u43, u44, u45, u46, u47, u48, u49, u50, u51, u52, u53, u54, u55, u56, u57, u58, u59, u60, u61, u62, u63, u64, u65, u66, u67, u68, u69, u70, u71, u72, u73, u74, u75, u76, u77, u78, u79, u80, u81, u82, u83, u84, u85, u86, u87, u88, u89, u90, u91, u92, u93, .tuple #[.bool false, .int .i64 0], .agg #[.int .i64 0, .int .i64 0, .int .i64 1, .int .i64 1, .int .i64 2], .agg #[.int .i64 2, .int .i64 0, .int .i64 1], .tuple #[.bool false, .int .i64 0], .bool false, .int .i64 0, u100, u101, u102, u103, u104, u105, u106, u107, u108, u109, u110, u111, u112, u113, u114, u115, u116, u117, u118, u119, u120, u121, u122, u123, u124, u125, u126, u127, u128, u129, u130, u131, u132, u133, u134, u135, u136, u137, u138, u139, u140, u141, u142, u143, u144, u145, u146, u147, u148, u149, u150, u151, u152, u153, u154, u155, u156, u157, u158, u159, u160, u161, u162, u163, u164, u165, u166, u167, u168, u169, u170, u171, u172, u173, u174, u175, u176, u177, u178, u179, u180, u181, u182, u183, u184, u185, u186, u187, u188, u189, u190, u191, u192, u193, u194, u195, u196, u197, u198, u199, u200, u201, u202, u203, u204, u205, u206, u207, u208, u209, u210, u211, u212, u213, u214, u215, u216, u217, u218, u219, u220, u221, u222, u223, u224, u225, u226, u227, u228, u229, u230, u231, u232, u233, u234, u235, u236, u237, u238, u239, u240, u241, u242, u243, u244, u245, u246, u247, u248, u249, u250, u251, u252, u253, u254, u255, u256, u257, u258, u259, u260, u261, u262, u263, u264, u265, u266, u267, u268, u269, u270, u271, u272, u273, u274, u275, u276, u277, u278, u279, u280, u281, u282, u283, u284, u285, u286, u287, u288, u289, u290, u291, u292, u293, u294, u295, u296, u297, u298, u299, u300, u301, u302, u303, u304, u305, u306, u307, u308, u309, u310, u311, u312, u313, u314, u315, u316, u317, u318, u319, u320, u321, u322], []⟩) 7 (fun w' => Blw wx.heap.size wx w') [.agg #[.int .i64 0, .int .i64 0, .int .i64 1, .int .i64 1, .int .i64 2], .agg #[.int .i64 2, .int .i64 0, .int .i64 1], .tuple #[.bool false, .int .i64 0], .tuple #[.bool false, .int .i64 0], .bool false, .int .i64 0, .bool false] (by kernel_rfl) (by kernel_rfl) (show Below _ _ _ from (Below.refl _ _).drew)
    case haF => kernel_rfl
    case h =>
      simp only [List.take_succ_cons, List.take_zero, YieldsL]
      refine ⟨.no rfl ?_, .no rfl ?_, .no rfl ?_, .no rfl ?_, .no rfl ?_, .no rfl ?_, .no rfl ?_, trivial⟩
      all_goals
        intro w1 hw1
        obtain ⟨c16_0, c16_1, c16_2, c16_3, c16_4⟩ := cells5 (((show Below _ _ _ from hw1).block _ (lt_of_blk f16)).trans f16)
        unfold Oper.wp
        simp only [execOp]
        go_simp <;> first
          | exact ⟨rfl, hw1⟩
          | ((with_reducible refine (KV.out _ _ _ _).mono ?_); rintro e w2 ⟨rfl, hb⟩; exact ⟨rfl, below_call hb hw1⟩)
          | ((with_reducible refine (KI.out _).mono ?_); rintro e w2 ⟨rfl, hb⟩; exact ⟨rfl, below_call hb hw1⟩)
    case ht =>
      intro w5 hw5
      simp only [List.drop_succ_cons, List.drop_zero]
      go_wp2_with fail
      go_meet
      exact ⟨rfl, rfl, hw5⟩
  case rest =>
    rename_i hK
    obtain ⟨rfl, rfl, hb⟩ := hcut
    refine hK _ _ ?_
    clear hK
    unfold SAwk11 at hT
    exact hT _ B1 B7 B9 B11 B14 B16 _ _ _ _ _ _ _ _ _ _ _ _ _ _ _ _ _ _ _ _ _ _ _ _ _ _ _ _ _ _ _ _ _ _ _ _ _ _ _ _ _ _ _ _ _ _ _ _ _ _ _ _ _ _ _ _ _ _ _ _ _ _ _ _ _ _ _ _ _ _ _ _ _ _ _ _ _ _ _ _ _ _ _ _ _ _ _ _ _ _ _ _ _ _ _ _ _ _ _ _ _ _ _ _ _ _ _ _ _ _ _ _ _ _ _ _ _ _ _ _ _ _ _ _ _ _ _ _ _ _ _ _ _ _ _ _ _ _ _ _ _ _ _ _ _ _ _ _ _ _ _ _ _ _ _ _ _ _ _ _ _ _ _ _ _ _ _ _ _ _ _ _ _ _ _ _ _ _ _ _ _ _ _ _ _ _ _ _ _ _ _ _ _ _ _ _ _ _ _ _ _ _ _ _ _ _ _ _ _ _ _ _ _ _ _ _ _ _ _ _ _ _ _ _ _ _ _ _ _ _ _ _ _ _ _ _ _ _ _ _ _ _ _ _ _ _ _ _ _ _ _ _ _ _ _ _ _ _ _ _ _ _ _ _ _ _ _ _ _ _ _ _ _ _ _ _ _ _ _ _ _ _ _ _ _ _ _ _ _ _ _ _ _ _ _ _ _ _ _ _ _ _ (hB.trans (hb.mono hB.size)) ((hb.block _ (lt_of_blk f1)).trans f1) ((hb.block _ (lt_of_blk f7)).trans f7) ((hb.block _ (lt_of_blk f9)).trans f9) ((hb.block _ (lt_of_blk f11)).trans f11) ((hb.block _ (lt_of_blk f14)).trans f14) ((hb.block _ (lt_of_blk f16)).trans f16)

set_option maxRecDepth 1000000 in
set_option maxHeartbeats 12800000 in
theorem sawk11 (w : World) (hX : AxesIn w) (ht : TabAt w) (hT : SAwk12 w) : SAwk11 w := by
  unfold SAwk11
  intro wx B1 B7 B9 B11 B14 B16 u21 u22 u23 u24 u25 u26 u27 u28 u29 u30 u31 u32 u33 u34 u35 u36 u37 u38 u39 u40 u41 u42 u43 u44 u45 u46 u47 u48 u49 u50 u51 u52 u53 u54 u55 u56 u57 u58 u59 u60 u61 u62 u63 u64 u65 u66 u67 u68 u69 u70 u71 u72 u73 u74 u75 u76 u77 u78 u79 u80 u81 u82 u83 u84 u85 u86 u87 u88 u89 u90 u91 u92 u93 u94 u95 u96 u97 u98 u99 u100 u101 u102 u103 u104 u105 u106 u107 u108 u109 u110 u111 u112 u113 u114 u115 u116 u117 u118 u119 u120 u121 u122 u123 u124 u125 u126 u127 u128 u129 u130 u131 u132 u133 u134 u135 u136 u137 u138 u139 u140 u141 u142 u143 u144 u145 u146 u147 u148 u149 u150 u151 u152 u153 u154 u155 u156 u157 u158 u159 u160 u161 u162 u163 u164 u165 u166 u167 u168 u169 u170 u171 u172 u173 u174 u175 u176 u177 u178 u179 u180 u181 u182 u183 u184 u185 u186 u187 u188 u189 u190 u191 u192 u193 u194 u195 u196 u197 u198 u199 u200 u201 u202 u203 u204 u205 u206 u207 u208 u209 u210 u211 u212 u213 u214 u215 u216 u217 u218 u219 u220 u221 u222 u223 u224 u225 u226 u227 u228 u229 u230 u231 u232 u233 u234 u235 u236 u237 u238 u239 u240 u241 u242 u243 u244 u245 u246 u247 u248 u249 u250 u251 u252 u253 u254 u255 u256 u257 u258 u259 u260 u261 u262 u263 u264 u265 u266 u267 u268 u269 u270 u271 u272 u273 u274 u275 u276 u277 u278 u279 u280 u281 u282 u283 u284 u285 u286 u287 u288 u289 u290 u291 u292 u293 u294 u295 u296 u297 u298 u299 u300 u301 u302 u303 u304 u305 u306 u307 u308 u309 u310 u311 u312 u313 u314 u315 u316 u317 u318 u319 u320 u321 u322 hB f1 f7 f9 f11 f14 f16
  conv => arg 2; whnf
  dsimp only
  go_upto_region 11 with fail
  go_cut [21, 22] (fun s21 s22 wr => s21 = .bool true ∧ s22 = .int .i64 0 ∧ Below wx.heap.size wx wr)
  case first =>
    have w0 : IntKind.i64.wrap 0 = 0 := by decide
    have KV : Hid (∀ (x y z : Int) (w1 : World), Calls Tryz.prog 55 #[.int .i64 x, .int .i64 y, .int .i64 z] w1 fun e w' => e = .returned (.agg #[.int .i64 x, .int .i64 y, .int .i64 z]) ∧ Below w1.heap.size w1 w') := Lib.hid vec_any
    have KI : Hid (∀ w1 : World, Calls Tryz.prog 8 #[.agg #[.int .i64 0, .int .i64 0, .int .i64 1, .int .i64 1, .int .i64 2], .agg #[.int .i64 3, .int .i64 0, .int .i64 1], .agg #[.int .i64 (-3), .int .i64 0, .int .i64 1]] w1 fun e w' => e = .returned (.tuple #[.bool true, .int .i64 0]) ∧ Below w1.heap.size w1 w') := Lib.hid ex_meets
    apply wp_region_yields (aF := ⟨#[.bool false, .pointer (some ⟨B1, 0, none⟩), .int .i64 0, .int .i64 3, .int .i64 0, .int .i64 0, .int .i64 1, .pointer (some ⟨B7, 0, none⟩), .int .i64 0, .pointer (some ⟨B9, 0, none⟩), .int .i64 0, .pointer (some ⟨B11, 0, none⟩), .int .i64 0, .int .i64 1, .pointer (some ⟨B14, 0, none⟩), .int .i64 0, .pointer (some ⟨B16, 0, none⟩), .bool true, .int .i64 0, .bool false, .int .i64 0, .bool true, u22, u23, u24, u25, u26, u27, u28, u29, u30, u31, u32, u33, u34, u35, u36, u37, u38, u39, u40, u41, u42, u43, u44, u45, u46, u47, u48, u49, u50, u51, u52, u53, u54, u55, u56, u57, u58, u59, u60, u61, u62, u63, u64, u65, u66, u67, u68, u69, u70, u71, u72, u73, u74, u75, u76, u77, u78, u79, u80, u81, u82, u83, u84, u85, u86, u87, u88, u89, u90, u91, u92, u93, u94, u95, u96, u97, u98, u99, .tuple #[.bool true, .int .i64 0], .agg #[.int .i64 0, .int .i64 0, .int .i64 1, .int .i64 1, .int .i64 2], .agg #[.int .i64 3, .int .i64 0, .int .i64 1], .agg #[.int .i64 (-3), .int .i64 0, .int .i64 1], .tuple #[.bool true, .int .i64 0], .bool true, .int .i64 0, u107, u108, u109, u110, u111, u112, u113, u114, u115, u116, u117, u118, u119, u120, u121, u122, u123, u124, u125, u126, u127, u128, u129, u130, u131, u132, u133, u134, u135, u136, u137, u138, u139, u140, u141, u142, u143, u144, u145, u146, u147, u148, u149, u150, u151, u152, u153, u154, u155, u156, u157, u158, u159, u160, u161, u162, u163, u164, u165, u166, u167, u168, u169, u170, u171, u172, u173, u174, u175, u176, u177, u178, u179, u180, u181, u182, u183, u184, u185, u186, u187, u188, u189, u190, u191, u192, u193, u194, u195, u196, u197, u198, u199, u200, u201, u202, u203, u204, u205, u206, u207, u208, u209, u210, u211, u212, u213, u214, u215, u216, u217, u218, u219, u220, u221, u222, u223, u224, u225, u226, u227, u228, u229, u230, u231, u232, u233, u234, u235, u236, u237, u238, u239, u240, u241, u242, u243, u244, u245, u246, u247, u248, u249, u250, u251, u252, u253, u254, u255, u256, u257, u258, u259, u260, u261, u262, u263, u264, u265, u266, u267, u268, u269, u270, u271, u272, u273, u274, u275, u276, u277, u278, u279, u280, u281, u282, u283, u284, u285, u286, u287, u288, u289, u290, u291, u292, u293, u294, u295, u296, u297, u298, u299, u300, u301, u302, u303, u304, u305, u306, u307, u308, u309, u310, u311, u312, u313, u314, u315, u316, u317, u318, u319, u320, u321, u322], []⟩) 8 (fun w' => Blw wx.heap.size wx w') [.agg #[.int .i64 0, .int .i64 0, .int .i64 1, .int .i64 1, .int .i64 2], .agg #[.int .i64 3, .int .i64 0, .int .i64 1], .agg #[.int .i64 (-3), .int .i64 0, .int .i64 1], .tuple #[.bool true, .int .i64 0], .tuple #[.bool true, .int .i64 0], .bool true, .int .i64 0, .bool true] (by kernel_rfl) (by kernel_rfl) (show Below _ _ _ from (Below.refl _ _).drew)
    case haF => kernel_rfl
    case h =>
      simp only [List.take_succ_cons, List.take_zero, YieldsL]
      refine ⟨.no rfl ?_, .no rfl ?_, .no rfl ?_, .no rfl ?_, .no rfl ?_, .no rfl ?_, .no rfl ?_, .no rfl ?_, trivial⟩
      all_goals
        intro w1 hw1
        obtain ⟨c16_0, c16_1, c16_2, c16_3, c16_4⟩ := cells5 (((show Below _ _ _ from hw1).block _ (lt_of_blk f16)).trans f16)
        unfold Oper.wp
        simp only [execOp]
        go_simp <;> first
          | exact ⟨rfl, hw1⟩
          | ((with_reducible refine (KV.out _ _ _ _).mono ?_); rintro e w2 ⟨rfl, hb⟩; exact ⟨rfl, below_call hb hw1⟩)
          | ((with_reducible refine (KI.out _).mono ?_); rintro e w2 ⟨rfl, hb⟩; exact ⟨rfl, below_call hb hw1⟩)
    case ht =>
      intro w5 hw5
      simp only [List.drop_succ_cons, List.drop_zero]
      go_wp2_with fail
      go_meet
      exact ⟨rfl, rfl, hw5⟩
  case rest =>
    rename_i hK
    obtain ⟨rfl, rfl, hb⟩ := hcut
    refine hK _ _ ?_
    clear hK
    unfold SAwk12 at hT
    exact hT _ B1 B7 B9 B11 B14 B16 _ _ _ _ _ _ _ _ _ _ _ _ _ _ _ _ _ _ _ _ _ _ _ _ _ _ _ _ _ _ _ _ _ _ _ _ _ _ _ _ _ _ _ _ _ _ _ _ _ _ _ _ _ _ _ _ _ _ _ _ _ _ _ _ _ _ _ _ _ _ _ _ _ _ _ _ _ _ _ _ _ _ _ _ _ _ _ _ _ _ _ _ _ _ _ _ _ _ _ _ _ _ _ _ _ _ _ _ _ _ _ _ _ _ _ _ _ _ _ _ _ _ _ _ _ _ _ _ _ _ _ _ _ _ _ _ _ _ _ _ _ _ _ _ _ _ _ _ _ _ _ _ _ _ _ _ _ _ _ _ _ _ _ _ _ _ _ _ _ _ _ _ _ _ _ _ _ _ _ _ _ _ _ _ _ _ _ _ _ _ _ _ _ _ _ _ _ _ _ _ _ _ _ _ _ _ _ _ _ _ _ _ _ _ _ _ _ _ _ _ _ _ _ _ _ _ _ _ _ _ _ _ _ _ _ _ _ _ _ _ _ _ _ _ _ _ _ _ _ _ _ _ _ _ _ _ _ _ _ _ _ _ _ _ _ _ _ _ _ _ _ _ _ _ _ _ _ _ _ _ _ _ _ _ _ _ _ _ _ _ _ _ _ _ _ _ _ _ _ _ (hB.trans (hb.mono hB.size)) ((hb.block _ (lt_of_blk f1)).trans f1) ((hb.block _ (lt_of_blk f7)).trans f7) ((hb.block _ (lt_of_blk f9)).trans f9) ((hb.block _ (lt_of_blk f11)).trans f11) ((hb.block _ (lt_of_blk f14)).trans f14) ((hb.block _ (lt_of_blk f16)).trans f16)

end Go.Proofs.YtggffhmdgceljaaGreatDoor

/-
  The walk of chapter 2's awake: region 12.
-/
namespace Go.Proofs.YtggffhmdgceljaaGreatDoor
open Go.RowKit
set_option linter.unusedVariables false
set_option linter.unusedSimpArgs false

set_option maxRecDepth 1000000 in
set_option maxHeartbeats 12800000 in
theorem sawk12 (w : World) (hX : AxesIn w) (ht : TabAt w) (hT : SAwk13 w) : SAwk12 w := by
  unfold SAwk12
  intro wx B1 B7 B9 B11 B14 B16 u23 u24 u25 u26 u27 u28 u29 u30 u31 u32 u33 u34 u35 u36 u37 u38 u39 u40 u41 u42 u43 u44 u45 u46 u47 u48 u49 u50 u51 u52 u53 u54 u55 u56 u57 u58 u59 u60 u61 u62 u63 u64 u65 u66 u67 u68 u69 u70 u71 u72 u73 u74 u75 u76 u77 u78 u79 u80 u81 u82 u83 u84 u85 u86 u87 u88 u89 u90 u91 u92 u93 u94 u95 u96 u97 u98 u99 u100 u101 u102 u103 u104 u105 u106 u107 u108 u109 u110 u111 u112 u113 u114 u115 u116 u117 u118 u119 u120 u121 u122 u123 u124 u125 u126 u127 u128 u129 u130 u131 u132 u133 u134 u135 u136 u137 u138 u139 u140 u141 u142 u143 u144 u145 u146 u147 u148 u149 u150 u151 u152 u153 u154 u155 u156 u157 u158 u159 u160 u161 u162 u163 u164 u165 u166 u167 u168 u169 u170 u171 u172 u173 u174 u175 u176 u177 u178 u179 u180 u181 u182 u183 u184 u185 u186 u187 u188 u189 u190 u191 u192 u193 u194 u195 u196 u197 u198 u199 u200 u201 u202 u203 u204 u205 u206 u207 u208 u209 u210 u211 u212 u213 u214 u215 u216 u217 u218 u219 u220 u221 u222 u223 u224 u225 u226 u227 u228 u229 u230 u231 u232 u233 u234 u235 u236 u237 u238 u239 u240 u241 u242 u243 u244 u245 u246 u247 u248 u249 u250 u251 u252 u253 u254 u255 u256 u257 u258 u259 u260 u261 u262 u263 u264 u265 u266 u267 u268 u269 u270 u271 u272 u273 u274 u275 u276 u277 u278 u279 u280 u281 u282 u283 u284 u285 u286 u287 u288 u289 u290 u291 u292 u293 u294 u295 u296 u297 u298 u299 u300 u301 u302 u303 u304 u305 u306 u307 u308 u309 u310 u311 u312 u313 u314 u315 u316 u317 u318 u319 u320 u321 u322 hB f1 f7 f9 f11 f14 f16
  conv => arg 2; whnf
  dsimp only
  go_upto_region 12 with fail
  go_cut [23, 24] (fun s23 s24 wr => s23 = .bool false ∧ s24 = .int .i64 0 ∧ Below wx.heap.size wx wr)
  case first =>
    have w0 : IntKind.i64.wrap 0 = 0 := by decide
    have KV : Hid (∀ (x y z : Int) (w1 : World), Calls Tryz.prog 55 #[.int .i64 x, .int .i64 y, .int .i64 z] w1 fun e w' => e = .returned (.agg #[.int .i64 x, .int .i64 y, .int .i64 z]) ∧ Below w1.heap.size w1 w') := Lib.hid vec_any
    have KI : Hid (∀ w1 : World, Calls Tryz.prog 8 #[.agg #[.int .i64 0, .int .i64 0, .int .i64 1, .int .i64 1, .int .i64 2], .agg #[.int .i64 3, .int .i64 0, .int .i64 1], .agg #[.int .i64 0, .int .i64 3, .int .i64 1]] w1 fun e w' => e = .returned (.tuple #[.bool false, .int .i64 0]) ∧ Below w1.heap.size w1 w') := Lib.hid ex_meetsNo
    apply wp_region_yields (aF := ⟨#[.bool false, .pointer (some ⟨B1, 0, none⟩), .int .i64 0, .int .i64 3, .int .i64 0, .int .i64 0, .int .i64 1, .pointer (some ⟨B7, 0, none⟩), .int .i64 0, .pointer (some ⟨B9, 0, none⟩), .int .i64 0, .pointer (some ⟨B11, 0, none⟩), .int .i64 0, .int .i64 1, .pointer (some ⟨B14, 0, none⟩), .int .i64 0, .pointer (some ⟨B16, 0, none⟩), .bool true, .int .i64 0, .bool false, .int .i64 0, .bool true, .int .i64 0, .bool false, u24, u25, u26, u27, u28, u29, u30, u31, u32, u33, u34, u35, u36, u37, u38, u39, u40, u41, u42, u43, u44, u45, u46, u47, u48, u49, u50, u51, u52, u53, u54, u55, u56, u57, u58, u59, u60, u61, u62, u63, u64, u65, u66, u67, u68, u69, u70, u71, u72, u73, u74, u75, u76, u77, u78, u79, u80, u81, u82, u83, u84, u85, u86, u87, u88, u89, u90, u91, u92, u93, u94, u95, u96, u97, u98, u99, u100, u101, u102, u103, u104, u105, u106, .tuple #[.bool false, .int .i64 0], .agg #[.int .i64 0, .int .i64 0, .int .i64 1, .int .i64 1, .int .i64 2], .agg #[.int .i64 3, .int .i64 0, .int .i64 1], .agg #[.int .i64 0, .int .i64 3, .int .i64 1], .tuple #[.bool false, .int .i64 0], .bool false, .int .i64 0, u114, u115, u116, u117, u118, u119, u120, u121, u122, u123, u124, u125, u126, u127, u128, u129, u130, u131, u132, u133, u134, u135, u136, u137, u138, u139, u140, u141, u142, u143, u144, u145, u146, u147, u148, u149, u150, u151, u152, u153, u154, u155, u156, u157, u158, u159, u160, u161, u162, u163, u164, u165, u166, u167, u168, u169, u170, u171, u172, u173, u174, u175, u176, u177, u178, u179, u180, u181, u182, u183, u184, u185, u186, u187, u188, u189, u190, u191, u192, u193, u194, u195, u196, u197, u198, u199, u200, u201, u202, u203, u204, u205, u206, u207, u208, u209, u210, u211, u212, u213, u214, u215, u216, u217, u218, u219, u220, u221, u222, u223, u224, u225, u226, u227, u228, u229, u230, u231, u232, u233, u234, u235, u236, u237, u238, u239, u240, u241, u242, u243, u244, u245, u246, u247, u248, u249, u250, u251, u252, u253, u254, u255, u256, u257, u258, u259, u260, u261, u262, u263, u264, u265, u266, u267, u268, u269, u270, u271, u272, u273, u274, u275, u276, u277, u278, u279, u280, u281, u282, u283, u284, u285, u286, u287, u288, u289, u290, u291, u292, u293, u294, u295, u296, u297, u298, u299, u300, u301, u302, u303, u304, u305, u306, u307, u308, u309, u310, u311, u312, u313, u314, u315, u316, u317, u318, u319, u320, u321, u322], []⟩) 8 (fun w' => Blw wx.heap.size wx w') [.agg #[.int .i64 0, .int .i64 0, .int .i64 1, .int .i64 1, .int .i64 2], .agg #[.int .i64 3, .int .i64 0, .int .i64 1], .agg #[.int .i64 0, .int .i64 3, .int .i64 1], .tuple #[.bool false, .int .i64 0], .tuple #[.bool false, .int .i64 0], .bool false, .int .i64 0, .bool false] (by kernel_rfl) (by kernel_rfl) (show Below _ _ _ from (Below.refl _ _).drew)
    case haF => kernel_rfl
    case h =>
      simp only [List.take_succ_cons, List.take_zero, YieldsL]
      refine ⟨.no rfl ?_, .no rfl ?_, .no rfl ?_, .no rfl ?_, .no rfl ?_, .no rfl ?_, .no rfl ?_, .no rfl ?_, trivial⟩
      all_goals
        intro w1 hw1
        obtain ⟨c16_0, c16_1, c16_2, c16_3, c16_4⟩ := cells5 (((show Below _ _ _ from hw1).block _ (lt_of_blk f16)).trans f16)
        unfold Oper.wp
        simp only [execOp]
        go_simp <;> first
          | exact ⟨rfl, hw1⟩
          | ((with_reducible refine (KV.out _ _ _ _).mono ?_); rintro e w2 ⟨rfl, hb⟩; exact ⟨rfl, below_call hb hw1⟩)
          | ((with_reducible refine (KI.out _).mono ?_); rintro e w2 ⟨rfl, hb⟩; exact ⟨rfl, below_call hb hw1⟩)
    case ht =>
      intro w5 hw5
      simp only [List.drop_succ_cons, List.drop_zero]
      go_wp2_with fail
      go_meet
      exact ⟨rfl, rfl, hw5⟩
  case rest =>
    rename_i hK
    obtain ⟨rfl, rfl, hb⟩ := hcut
    refine hK _ _ ?_
    clear hK
    unfold SAwk13 at hT
    exact hT _ B1 B7 B9 B11 B14 B16 _ _ _ _ _ _ _ _ _ _ _ _ _ _ _ _ _ _ _ _ _ _ _ _ _ _ _ _ _ _ _ _ _ _ _ _ _ _ _ _ _ _ _ _ _ _ _ _ _ _ _ _ _ _ _ _ _ _ _ _ _ _ _ _ _ _ _ _ _ _ _ _ _ _ _ _ _ _ _ _ _ _ _ _ _ _ _ _ _ _ _ _ _ _ _ _ _ _ _ _ _ _ _ _ _ _ _ _ _ _ _ _ _ _ _ _ _ _ _ _ _ _ _ _ _ _ _ _ _ _ _ _ _ _ _ _ _ _ _ _ _ _ _ _ _ _ _ _ _ _ _ _ _ _ _ _ _ _ _ _ _ _ _ _ _ _ _ _ _ _ _ _ _ _ _ _ _ _ _ _ _ _ _ _ _ _ _ _ _ _ _ _ _ _ _ _ _ _ _ _ _ _ _ _ _ _ _ _ _ _ _ _ _ _ _ _ _ _ _ _ _ _ _ _ _ _ _ _ _ _ _ _ _ _ _ _ _ _ _ _ _ _ _ _ _ _ _ _ _ _ _ _ _ _ _ _ _ _ _ _ _ _ _ _ _ _ _ _ _ _ _ _ _ _ _ _ _ _ _ _ _ _ _ _ _ _ _ _ _ _ _ _ _ _ _ _ _ _ (hB.trans (hb.mono hB.size)) ((hb.block _ (lt_of_blk f1)).trans f1) ((hb.block _ (lt_of_blk f7)).trans f7) ((hb.block _ (lt_of_blk f9)).trans f9) ((hb.block _ (lt_of_blk f11)).trans f11) ((hb.block _ (lt_of_blk f14)).trans f14) ((hb.block _ (lt_of_blk f16)).trans f16)

set_option maxRecDepth 1000000 in
set_option maxHeartbeats 12800000 in
theorem sawk13 (w : World) (hX : AxesIn w) (ht : TabAt w) (hT : SAwk15 w) : SAwk13 w := by
  unfold SAwk13
  intro wx B1 B7 B9 B11 B14 B16 u25 u26 u27 u28 u29 u30 u31 u32 u33 u34 u35 u36 u37 u38 u39 u40 u41 u42 u43 u44 u45 u46 u47 u48 u49 u50 u51 u52 u53 u54 u55 u56 u57 u58 u59 u60 u61 u62 u63 u64 u65 u66 u67 u68 u69 u70 u71 u72 u73 u74 u75 u76 u77 u78 u79 u80 u81 u82 u83 u84 u85 u86 u87 u88 u89 u90 u91 u92 u93 u94 u95 u96 u97 u98 u99 u100 u101 u102 u103 u104 u105 u106 u107 u108 u109 u110 u111 u112 u113 u114 u115 u116 u117 u118 u119 u120 u121 u122 u123 u124 u125 u126 u127 u128 u129 u130 u131 u132 u133 u134 u135 u136 u137 u138 u139 u140 u141 u142 u143 u144 u145 u146 u147 u148 u149 u150 u151 u152 u153 u154 u155 u156 u157 u158 u159 u160 u161 u162 u163 u164 u165 u166 u167 u168 u169 u170 u171 u172 u173 u174 u175 u176 u177 u178 u179 u180 u181 u182 u183 u184 u185 u186 u187 u188 u189 u190 u191 u192 u193 u194 u195 u196 u197 u198 u199 u200 u201 u202 u203 u204 u205 u206 u207 u208 u209 u210 u211 u212 u213 u214 u215 u216 u217 u218 u219 u220 u221 u222 u223 u224 u225 u226 u227 u228 u229 u230 u231 u232 u233 u234 u235 u236 u237 u238 u239 u240 u241 u242 u243 u244 u245 u246 u247 u248 u249 u250 u251 u252 u253 u254 u255 u256 u257 u258 u259 u260 u261 u262 u263 u264 u265 u266 u267 u268 u269 u270 u271 u272 u273 u274 u275 u276 u277 u278 u279 u280 u281 u282 u283 u284 u285 u286 u287 u288 u289 u290 u291 u292 u293 u294 u295 u296 u297 u298 u299 u300 u301 u302 u303 u304 u305 u306 u307 u308 u309 u310 u311 u312 u313 u314 u315 u316 u317 u318 u319 u320 u321 u322 hB f1 f7 f9 f11 f14 f16
  conv => arg 2; whnf
  dsimp only
  go_upto_region 13 with fail
  go_cut [184] (fun s184 wr => s184 = .bool false ∧ Below wx.heap.size wx wr)
  case first =>
    have w0 : IntKind.i64.wrap 0 = 0 := by decide
    have KV : Hid (∀ (x y z : Int) (w1 : World), Calls Tryz.prog 55 #[.int .i64 x, .int .i64 y, .int .i64 z] w1 fun e w' => e = .returned (.agg #[.int .i64 x, .int .i64 y, .int .i64 z]) ∧ Below w1.heap.size w1 w') := Lib.hid vec_any
    apply wp_region_yields (aF := ⟨#[.bool false, .pointer (some ⟨B1, 0, none⟩), .int .i64 0, .int .i64 3, .int .i64 0, .int .i64 0, .int .i64 1, .pointer (some ⟨B7, 0, none⟩), .int .i64 0, .pointer (some ⟨B9, 0, none⟩), .int .i64 0, .pointer (some ⟨B11, 0, none⟩), .int .i64 0, .int .i64 1, .pointer (some ⟨B14, 0, none⟩), .int .i64 0, .pointer (some ⟨B16, 0, none⟩), .bool true, .int .i64 0, .bool false, .int .i64 0, .bool true, .int .i64 0, .bool false, .int .i64 0, u25, u26, u27, u28, u29, u30, u31, u32, u33, u34, u35, u36, u37, u38, u39, u40, u41, u42, u43, u44, u45, u46, u47, u48, u49, u50, u51, u52, u53, u54, u55, u56, u57, u58, u59, u60, u61, u62, u63, u64, u65, u66, u67, u68, u69, u70, u71, u72, u73, u74, u75, u76, u77, u78, u79, u80, u81, u82, u83, u84, u85, u86, u87, u88, u89, u90, u91, u92, u93, u94, u95, u96, u97, u98, u99, u100, u101, u102, u103, u104, u105, u106, u107, u108, u109, u110, u111, u112, u113, .int .i64 0, .int .i64 0, .int .i64 0, .int .i64 0, .int .i64 0, .int .i64 0, .int .i64 0, .int .i64 0, .int .i64 0, .int .i64 0, .int .i64 0, .int .i64 0, .int .i64 0, .int .i64 0, .int .i64 0, .int .i64 0, .int .i64 0, .int .i64 0, .int .i64 0, .bool false, .bool false, .int .i64 1, .bool false, .bool false, .bool false, .agg #[.int .i64 1, .int .i64 2, .int .i64 2], .agg #[.int .i64 1, .int .i64 2, .int .i64 2], .bool false, .bool false, .bool false, .int .i64 3, .bool false, .bool false, .bool false, .agg #[.int .i64 1, .int .i64 2, .int .i64 (-2)], .agg #[.int .i64 1, .int .i64 2, .int .i64 (-2)], .bool false, .bool false, .bool false, .agg #[.int .i64 2, .int .i64 1, .int .i64 5], .agg #[.int .i64 2, .int .i64 1, .int .i64 5], .bool false, .bool false, .bool false, .agg #[.int .i64 2, .int .i64 1, .int .i64 2], .agg #[.int .i64 2, .int .i64 1, .int .i64 2], .bool false, .bool false, .bool false, .int .i64 1, .bool false, .bool false, .bool false, .agg #[.int .i64 64, .int .i64 81], .agg #[.int .i64 64, .int .i64 81], .bool false, .bool false, .bool false, .bool true, .bool false, .bool false, .bool false, .bool false, .bool false, .bool false, .bool true, .bool false, .bool false, .bool false, .bool false, u184, u185, u186, u187, u188, u189, u190, u191, u192, u193, u194, u195, u196, u197, u198, u199, u200, u201, u202, u203, u204, u205, u206, u207, u208, u209, u210, u211, u212, u213, u214, u215, u216, u217, u218, u219, u220, u221, u222, u223, u224, u225, u226, u227, u228, u229, u230, u231, u232, u233, u234, u235, u236, u237, u238, u239, u240, u241, u242, u243, u244, u245, u246, u247, u248, u249, u250, u251, u252, u253, u254, u255, u256, u257, u258, u259, u260, u261, u262, u263, u264, u265, u266, u267, u268, u269, u270, u271, u272, u273, u274, u275, u276, u277, u278, u279, u280, u281, u282, u283, u284, u285, u286, u287, u288, u289, u290, u291, u292, u293, u294, u295, u296, u297, u298, u299, u300, u301, u302, u303, u304, u305, u306, u307, u308, u309, u310, u311, u312, u313, u314, u315, u316, u317, u318, u319, u320, u321, u322], []⟩) 70 (fun w' => Blw wx.heap.size wx w') [.int .i64 0, .int .i64 0, .int .i64 0, .int .i64 0, .int .i64 0, .int .i64 0, .int .i64 0, .int .i64 0, .int .i64 0, .int .i64 0, .int .i64 0, .int .i64 0, .int .i64 0, .int .i64 0, .int .i64 0, .int .i64 0, .int .i64 0, .int .i64 0, .int .i64 0, .bool false, .bool false, .int .i64 1, .bool false, .bool false, .bool false, .agg #[.int .i64 1, .int .i64 2, .int .i64 2], .agg #[.int .i64 1, .int .i64 2, .int .i64 2], .bool false, .bool false, .bool false, .int .i64 3, .bool false, .bool false, .bool false, .agg #[.int .i64 1, .int .i64 2, .int .i64 (-2)], .agg #[.int .i64 1, .int .i64 2, .int .i64 (-2)], .bool false, .bool false, .bool false, .agg #[.int .i64 2, .int .i64 1, .int .i64 5], .agg #[.int .i64 2, .int .i64 1, .int .i64 5], .bool false, .bool false, .bool false, .agg #[.int .i64 2, .int .i64 1, .int .i64 2], .agg #[.int .i64 2, .int .i64 1, .int .i64 2], .bool false, .bool false, .bool false, .int .i64 1, .bool false, .bool false, .bool false, .agg #[.int .i64 64, .int .i64 81], .agg #[.int .i64 64, .int .i64 81], .bool false, .bool false, .bool false, .bool true, .bool false, .bool false, .bool false, .bool false, .bool false, .bool false, .bool true, .bool false, .bool false, .bool false, .bool false] (by kernel_rfl) (by kernel_rfl) (show Below _ _ _ from (Below.refl _ _).drew)
    case haF => kernel_rfl
    case h =>
      simp only [List.take_succ_cons, List.take_zero, YieldsL]
      refine ⟨.no rfl ?_, .no rfl ?_, .no rfl ?_, .no rfl ?_, .no rfl ?_, .no rfl ?_, .no rfl ?_, .no rfl ?_, .no rfl ?_, .no rfl ?_, .no rfl ?_, .no rfl ?_, .no rfl ?_, .no rfl ?_, .no rfl ?_, .no rfl ?_, .no rfl ?_, .no rfl ?_, .no rfl ?_, .no rfl ?_, .no rfl ?_, .yes rfl rfl ?_, .yes rfl rfl ?_, .no rfl ?_, .no rfl ?_, .yes rfl rfl ?_, .yes rfl rfl ?_, .yes rfl rfl ?_, .no rfl ?_, .no rfl ?_, .yes rfl rfl ?_, .yes rfl rfl ?_, .no rfl ?_, .no rfl ?_, .yes rfl rfl ?_, .yes rfl rfl ?_, .yes rfl rfl ?_, .no rfl ?_, .no rfl ?_, .yes rfl rfl ?_, .yes rfl rfl ?_, .yes rfl rfl ?_, .no rfl ?_, .no rfl ?_, .yes rfl rfl ?_, .yes rfl rfl ?_, .yes rfl rfl ?_, .no rfl ?_, .no rfl ?_, .yes rfl rfl ?_, .yes rfl rfl ?_, .no rfl ?_, .no rfl ?_, .yes rfl rfl ?_, .yes rfl rfl ?_, .yes rfl rfl ?_, .no rfl ?_, .no rfl ?_, .yes rfl rfl ?_, .yes rfl rfl ?_, .no rfl ?_, .no rfl ?_, .yes rfl rfl ?_, .no rfl ?_, .no rfl ?_, .yes rfl rfl ?_, .yes rfl rfl ?_, .no rfl ?_, .no rfl ?_, .yes rfl rfl ?_, trivial⟩
      all_goals
        intro w1 hw1
        obtain ⟨c1_0, c1_1, c1_2⟩ := cells3 (((show Below _ _ _ from hw1).block _ (lt_of_blk f1)).trans f1)
        obtain ⟨c7_0, c7_1, c7_2⟩ := cells3 (((show Below _ _ _ from hw1).block _ (lt_of_blk f7)).trans f7)
        obtain ⟨c9_0, c9_1, c9_2⟩ := cells3 (((show Below _ _ _ from hw1).block _ (lt_of_blk f9)).trans f9)
        obtain ⟨c11_0, c11_1, c11_2⟩ := cells3 (((show Below _ _ _ from hw1).block _ (lt_of_blk f11)).trans f11)
        obtain ⟨c14_0, c14_1⟩ := cells2 (((show Below _ _ _ from hw1).block _ (lt_of_blk f14)).trans f14)
        unfold Oper.wp
        simp only [execOp]
        go_simp <;> first
          | exact ⟨rfl, hw1⟩
          | ((with_reducible refine (KV.out _ _ _ _).mono ?_); rintro e w2 ⟨rfl, hb⟩; exact ⟨rfl, below_call hb hw1⟩)
    case ht =>
      intro w5 hw5
      simp only [List.drop_succ_cons, List.drop_zero]
      go_wp2_with fail
      go_meet
      exact ⟨rfl, hw5⟩
  case rest =>
    rename_i K1 hK1 K0 hK
    obtain ⟨rfl, hb⟩ := hcut
    refine hK _ _ ?_
    clear hK
    have HK1 := Lib.hid hK1
    clear hK1
    go_wp2_with fail
    refine HK1.out _ _ ?_
    unfold SAwk15 at hT
    exact hT _  _ _ _ _ _ _ _ _ _ _ _ _ _ _ _ _ _ _ _ _ _ _ _ _ _ _ _ _ _ _ _ _ _ _ _ _ _ _ _ _ _ _ _ _ _ _ _ _ _ _ _ _ _ _ _ _ _ _ _ _ _ _ _ _ _ _ _ _ _ _ _ _ _ _ _ _ _ _ _ _ _ _ _ _ _ _ _ _ _ _ _ _ _ _ _ _ _ _ _ _ _ _ _ _ _ _ _ _ _ _ _ _ _ _ _ _ _ _ _ _ _ _ _ _ _ _ _ _ _ _ _ _ _ _ _ _ _ _ _ _ _ _ _ _ _ _ _ _ _ _ _ _ _ _ _ _ _ _ _ _ _ _ _ _ _ _ _ _ _ _ _ _ _ _ _ _ _ _ _ _ _ _ _ _ _ _ _ _ _ _ _ _ _ _ _ _ _ _ _ _ _ _ _ _ _ _ _ _ _ _ _ _ _ _ _ _ _ _ _ _ _ _ _ _ _ _ _ _ _ _ _ _ _ _ _ _ _ _ _ _ _ _ _ _ _ _ _ _ _ _ _ _ _ _ _ _ _ _ _ _ _ _ _ _ _ _ _ _ _ _ _ _ _ _ _ _ _ _ _ _ _ _ _ _ _ _ _ _ _ _ _ _ _ _ _ _ _ _ _ _ _ _ _ _ _ _ _ _ _ _ _ _ _ _ _ _ _ _ _ _ _ _ (hB.trans (hb.mono hB.size)) 

end Go.Proofs.YtggffhmdgceljaaGreatDoor
