/-
  The walk of chapter 2's awake: regions 25 and 26.
-/
import Derived.Test.YtggffhmdgceljaaGreatDoorRows
import Derived.WalkKit
import Derived.WalkSpells
import Derived.WalkLawsBesides
import Derived.Lib.Hide
import Derived.BigQuiet
import Derived.Deep.QuietTactic
import Derived.Handy
import Derived.Deep.RegionHeld3
import Derived.Deep.RegionWith
import Derived.StillTailTactics
import Derived.RangeFuncNested
import Derived.RangeFuncBound
import Derived.RangeFuncCalls
import Derived.RangeFuncLeaves
import Derived.RangeFuncBox
import Derived.Shelf.Abstract
import Derived.Shelf.RegionOpen
import Derived.OwnWalkIn
import Derived.TacticsInMore
import Derived.LoopNIn
import Derived.LoopIn
import Derived.Maps.AppendAt
import Derived.Test.YtggffhmdgceljaaGreatDoorProg
import Derived.Laws.FloatArith
import Derived.Laws.BitsAllLaws
import Derived.Deep.DeepCutAuto
import Derived.Stop.BytesEq
import Derived.Deep.MidRow
import Derived.Laws.CopyRow
import Derived.WalkMore
import Derived.Deep.DrawnRows
import Derived.Deep.CutBlock
import Derived.Orders
import Derived.LoopTactic
import Derived.Laws.StructEq
import Derived.Deep.RegionLaw
import Derived.RegionTactic
import Derived.StillTail
import Derived.Laws.RangeString
import Derived.Laws.RangeAny
import Derived.Shelf.Strings.Builder1
import Derived.Shelf.Strings.OnBuilder
import Derived.Shelf.LaysM
import Derived.Shelf.Strconv.Itoa3
import Derived.Lib.AppendIntMem
import Derived.Lib.ItoaLen
import Derived.RowKit
import Derived.Test.YtggffhmdgceljaaGreatDoorOwaWn
import Derived.Test.YtggffhmdgceljaaGreatDoorOwaXe
import Derived.Test.YtggffhmdgceljaaGreatDoorOwaIb
import Derived.Test.YtggffhmdgceljaaGreatDoorOwaIl
import Derived.Test.YtggffhmdgceljaaGreatDoorOwaId
import Derived.Test.YtggffhmdgceljaaGreatDoorOwaNi
import Derived.Test.YtggffhmdgceljaaGreatDoorOwaIx
import Derived.Test.YtggffhmdgceljaaGreatDoorOwaNv
import Derived.Test.YtggffhmdgceljaaGreatDoorOwaWo
import Derived.Test.YtggffhmdgceljaaGreatDoorOwaNo
import Derived.Test.YtggffhmdgceljaaGreatDoorOwaNy
import Derived.Test.YtggffhmdgceljaaGreatDoorOwaAb
import Derived.Test.YtggffhmdgceljaaGreatDoorOwaAc
import Derived.Test.YtggffhmdgceljaaGreatDoorOwaAe
import Derived.Test.YtggffhmdgceljaaGreatDoorOwaAg
import Derived.Test.YtggffhmdgceljaaGreatDoorOwaAh
import Derived.Test.YtggffhmdgceljaaGreatDoorOwaAp
import Derived.Test.YtggffhmdgceljaaGreatDoorOwaIo
namespace Go.Proofs.YtggffhmdgceljaaGreatDoor
open Go.RowKit
set_option linter.unusedVariables false
set_option linter.unusedSimpArgs false

set_option maxRecDepth 1000000 in
/-- What is still to be shown where the walk stands ahead of region 26. -/
def SAwk26 (w : World) : Prop :=
  ∀ (wx : World) (B25 : Nat) (B27 : Nat) (B29 : Nat) (g33 : Nat) (c33 : Nat) (B37 : Nat) (B39 : Nat) (g41 : Nat) (c41 : Nat) (u1 u2 u3 u4 u5 u6 u7 u8 u9 u10 u11 u12 u13 u14 u15 u16 u17 u18 u19 u20 u21 u22 u23 u24 u47 u48 u49 u50 u51 u52 u53 u54 u55 u56 u57 u58 u59 u60 u61 u62 u63 u64 u65 u66 u67 u68 u69 u70 u71 u72 u73 u74 u75 u76 u77 u78 u79 u80 u81 u82 u83 u84 u85 u86 u87 u88 u89 u90 u91 u92 u93 u94 u95 u96 u97 u98 u99 u100 u101 u102 u103 u104 u105 u106 u107 u108 u109 u110 u111 u112 u113 u114 u115 u116 u117 u118 u119 u120 u121 u122 u123 u124 u125 u126 u127 u128 u129 u130 u131 u132 u133 u134 u135 u136 u137 u138 u139 u140 u141 u142 u143 u144 u145 u146 u147 u148 u149 u150 u151 u152 u153 u154 u155 u156 u157 u158 u159 u160 u161 u162 u163 u164 u165 u166 u167 u168 u169 u170 u171 u172 u173 u174 u175 u176 u177 u178 u179 u180 u181 u182 u183 u184 u185 u186 u187 u188 u189 u190 u191 u192 u193 u194 u195 u196 u197 u198 u199 u200 u201 u202 u203 u204 u205 u206 u207 u208 u209 u210 u211 u212 u213 u214 u215 u216 u217 u218 u219 u220 u221 u222 u223 u224 u225 u226 u227 u228 u229 u230 u231 u232 u233 u234 u235 u236 u237 u238 u239 u240 u241 u242 u243 u244 u245 u246 u247 u248 u249 u250 u251 u252 u253 u254 u255 u256 u257 u258 u259 u260 u261 u262 u263 u264 u265 u266 u267 u268 u269 u270 u271 u272 u273 u274 u275 u276 u277 u278 u279 u280 u281 u282 u283 u284 u285 u286 u287 u288 u289 u290 u291 u292 u293 u294 u295 u296 u297 u298 u299 u300 u301 u302 u303 u304 u305 u306 u307 u308 u309 u310 u311 u312 u313 u314 u315 u316 u317 u318 u319 u320 u321 u322 : Value), Below w.heap.size w wx → wx.heap[B25]? = some (.cells #[.int .i64 (-1), .int .i64 0, .int .i64 0, .int .i64 0, .int .i64 (-4), .int .i64 3] 46 (0, 0)) → wx.heap[B27]? = some (.cells #[.int .i64 6, .int .i64 1] 56 (0, 0)) → wx.heap[B29]? = some (.cells #[.int .i64 5, .int .i64 1, .int .i64 2] 23 (0, 0)) → wx.cell? ⟨g33, 0, none⟩ = some (.int .i64 1) ∧ wx.cell? ⟨g33, 0 + 1, none⟩ = some (.int .i64 21) ∧ g33 < wx.heap.size → wx.heap[B37]? = some (.cells #[.int .i64 8, .int .i64 0, .int .i64 3] 23 (0, 0)) → wx.heap[B39]? = some (.cells #[.int .i64 1, .int .i64 0, .int .i64 1] 23 (0, 0)) → wx.cell? ⟨g41, 0, none⟩ = some (.int .i64 4) ∧ wx.cell? ⟨g41, 0 + 1, none⟩ = some (.int .i64 0) ∧ wx.cell? ⟨g41, 0 + 2, none⟩ = some (.int .i64 1) ∧ g41 < wx.heap.size → Code.wp Tryz.prog (sunAwkOf 26) (bodyPost Tryz.prog Tryz.f17 (SunPost w)) ⟨#[.bool false, u1, u2, u3, u4, u5, u6, u7, u8, u9, u10, u11, u12, u13, u14, u15, u16, u17, u18, u19, u20, u21, u22, u23, u24, .pointer (some ⟨B25, 0, none⟩), .int .i64 0, .pointer (some ⟨B27, 0, none⟩), .int .i64 0, .pointer (some ⟨B29, 0, none⟩), .int .i64 0, .bool false, .int .i64 0, .slice (some ⟨g33, 0, none⟩) 1 c33, .int .i64 0, .int .i64 1, .int .i64 0, .pointer (some ⟨B37, 0, none⟩), .int .i64 0, .pointer (some ⟨B39, 0, none⟩), .int .i64 0, .slice (some ⟨g41, 0, none⟩) 1 c41, .int .i64 0, strV dayText, .int .i64 0, .bool true, .int .i64 0, u47, u48, u49, u50, u51, u52, u53, u54, u55, u56, u57, u58, u59, u60, u61, u62, u63, u64, u65, u66, u67, u68, u69, u70, u71, u72, u73, u74, u75, u76, u77, u78, u79, u80, u81, u82, u83, u84, u85, u86, u87, u88, u89, u90, u91, u92, u93, u94, u95, u96, u97, u98, u99, u100, u101, u102, u103, u104, u105, u106, u107, u108, u109, u110, u111, u112, u113, u114, u115, u116, u117, u118, u119, u120, u121, u122, u123, u124, u125, u126, u127, u128, u129, u130, u131, u132, u133, u134, u135, u136, u137, u138, u139, u140, u141, u142, u143, u144, u145, u146, u147, u148, u149, u150, u151, u152, u153, u154, u155, u156, u157, u158, u159, u160, u161, u162, u163, u164, u165, u166, u167, u168, u169, u170, u171, u172, u173, u174, u175, u176, u177, u178, u179, u180, u181, u182, u183, u184, u185, u186, u187, u188, u189, u190, u191, u192, u193, u194, u195, u196, u197, u198, u199, u200, u201, u202, u203, u204, u205, u206, u207, u208, u209, u210, u211, u212, u213, u214, u215, u216, u217, u218, u219, u220, u221, u222, u223, u224, u225, u226, u227, u228, u229, u230, u231, u232, u233, u234, u235, u236, u237, u238, u239, u240, u241, u242, u243, u244, u245, u246, u247, u248, u249, u250, u251, u252, u253, u254, u255, u256, u257, u258, u259, u260, u261, u262, u263, u264, u265, u266, u267, u268, u269, u270, u271, u272, u273, u274, u275, u276, u277, u278, u279, u280, u281, u282, u283, u284, u285, u286, u287, u288, u289, u290, u291, u292, u293, u294, u295, u296, u297, u298, u299, u300, u301, u302, u303, u304, u305, u306, u307, u308, u309, u310, u311, u312, u313, u314, u315, u316, u317, u318, u319, u320, u321, u322], []⟩ wx

set_option maxRecDepth 1000000 in
set_option maxHeartbeats 12800000 in
theorem sawk25 (w : World) (hT : SAwk26 w) : SAwk25 w := by
  unfold SAwk25
  intro wx B25 B27 B29 g33 c33 B37 B39 g41 c41 u1 u2 u3 u4 u5 u6 u7 u8 u9 u10 u11 u12 u13 u14 u15 u16 u17 u18 u19 u20 u21 u22 u23 u24 u45 u46 u47 u48 u49 u50 u51 u52 u53 u54 u55 u56 u57 u58 u59 u60 u61 u62 u63 u64 u65 u66 u67 u68 u69 u70 u71 u72 u73 u74 u75 u76 u77 u78 u79 u80 u81 u82 u83 u84 u85 u86 u87 u88 u89 u90 u91 u92 u93 u94 u95 u96 u97 u98 u99 u100 u101 u102 u103 u104 u105 u106 u107 u108 u109 u110 u111 u112 u113 u114 u115 u116 u117 u118 u119 u120 u121 u122 u123 u124 u125 u126 u127 u128 u129 u130 u131 u132 u133 u134 u135 u136 u137 u138 u139 u140 u141 u142 u143 u144 u145 u146 u147 u148 u149 u150 u151 u152 u153 u154 u155 u156 u157 u158 u159 u160 u161 u162 u163 u164 u165 u166 u167 u168 u169 u170 u171 u172 u173 u174 u175 u176 u177 u178 u179 u180 u181 u182 u183 u184 u185 u186 u187 u188 u189 u190 u191 u192 u193 u194 u195 u196 u197 u198 u199 u200 u201 u202 u203 u204 u205 u206 u207 u208 u209 u210 u211 u212 u213 u214 u215 u216 u217 u218 u219 u220 u221 u222 u223 u224 u225 u226 u227 u228 u229 u230 u231 u232 u233 u234 u235 u236 u237 u238 u239 u240 u241 u242 u243 u244 u245 u246 u247 u248 u249 u250 u251 u252 u253 u254 u255 u256 u257 u258 u259 u260 u261 u262 u263 u264 u265 u266 u267 u268 u269 u270 u271 u272 u273 u274 u275 u276 u277 u278 u279 u280 u281 u282 u283 u284 u285 u286 u287 u288 u289 u290 u291 u292 u293 u294 u295 u296 u297 u298 u299 u300 u301 u302 u303 u304 u305 u306 u307 u308 u309 u310 u311 u312 u313 u314 u315 u316 u317 u318 u319 u320 u321 u322 hB f25 f27 f29 h33 f37 f39 h41
  conv => arg 2; whnf
  dsimp only
  go_upto_region 25 with fail
  go_cut [45, 46] (fun s45 s46 wr => s45 = .bool true ∧ s46 = .int .i64 0 ∧ Below wx.heap.size wx wr)
  case first =>
    have KV : Hid (∀ (x y z : Int) (w1 : World), Calls Tryz.prog 55 #[.int .i64 x, .int .i64 y, .int .i64 z] w1 fun e w' => e = .returned (.agg #[.int .i64 x, .int .i64 y, .int .i64 z]) ∧ Below w1.heap.size w1 w') := Lib.hid vec_any
    go_wp2_with (first
      | (go_at_call 55; (with_reducible refine (KV.out (1) (2) (2) _).mono ?_); rintro e w1 ⟨rfl, hb1⟩)
      | (go_at_call 55; (with_reducible refine (KV.out (2) (4) (4) _).mono ?_); rintro e w2 ⟨rfl, hb2⟩)
      | (go_at_call 62; (with_reducible refine (ex_same _).mono ?_); rintro e w3 ⟨rfl, hb3⟩))
    go_meet
    have hc := ((hb1.trans (hb2.mono hb1.size)).trans (hb3.mono (hb1.trans (hb2.mono hb1.size)).size))
    exact ⟨rfl, rfl, hc⟩
  case rest =>
    rename_i hK
    obtain ⟨rfl, rfl, hb⟩ := hcut
    refine hK _ _ ?_
    clear hK
    unfold SAwk26 at hT
    exact hT _ B25 B27 B29 g33 c33 B37 B39 g41 c41 _ _ _ _ _ _ _ _ _ _ _ _ _ _ _ _ _ _ _ _ _ _ _ _ _ _ _ _ _ _ _ _ _ _ _ _ _ _ _ _ _ _ _ _ _ _ _ _ _ _ _ _ _ _ _ _ _ _ _ _ _ _ _ _ _ _ _ _ _ _ _ _ _ _ _ _ _ _ _ _ _ _ _ _ _ _ _ _ _ _ _ _ _ _ _ _ _ _ _ _ _ _ _ _ _ _ _ _ _ _ _ _ _ _ _ _ _ _ _ _ _ _ _ _ _ _ _ _ _ _ _ _ _ _ _ _ _ _ _ _ _ _ _ _ _ _ _ _ _ _ _ _ _ _ _ _ _ _ _ _ _ _ _ _ _ _ _ _ _ _ _ _ _ _ _ _ _ _ _ _ _ _ _ _ _ _ _ _ _ _ _ _ _ _ _ _ _ _ _ _ _ _ _ _ _ _ _ _ _ _ _ _ _ _ _ _ _ _ _ _ _ _ _ _ _ _ _ _ _ _ _ _ _ _ _ _ _ _ _ _ _ _ _ _ _ _ _ _ _ _ _ _ _ _ _ _ _ _ _ _ _ _ _ _ _ _ _ _ _ _ _ _ _ _ _ _ _ _ _ _ _ _ _ _ _ _ _ _ _ _ _ _ _ _ _ _ _ _ _ _ (hB.trans (hb.mono hB.size)) ((hb.block _ (lt_of_blk f25)).trans f25) ((hb.block _ (lt_of_blk f27)).trans f27) ((hb.block _ (lt_of_blk f29)).trans f29) (⟨(hb.cell h33.2.2).trans h33.1, (hb.cell h33.2.2).trans h33.2.1, Nat.lt_of_lt_of_le h33.2.2 hb.size⟩) ((hb.block _ (lt_of_blk f37)).trans f37) ((hb.block _ (lt_of_blk f39)).trans f39) (⟨(hb.cell h41.2.2.2).trans h41.1, (hb.cell h41.2.2.2).trans h41.2.1, (hb.cell h41.2.2.2).trans h41.2.2.1, Nat.lt_of_lt_of_le h41.2.2.2 hb.size⟩)

set_option maxRecDepth 1000000 in
set_option maxHeartbeats 25600000 in
theorem sawk26 (w : World) : SAwk26 w := by
  unfold SAwk26
  intro wx B25 B27 B29 g33 c33 B37 B39 g41 c41 u1 u2 u3 u4 u5 u6 u7 u8 u9 u10 u11 u12 u13 u14 u15 u16 u17 u18 u19 u20 u21 u22 u23 u24 u47 u48 u49 u50 u51 u52 u53 u54 u55 u56 u57 u58 u59 u60 u61 u62 u63 u64 u65 u66 u67 u68 u69 u70 u71 u72 u73 u74 u75 u76 u77 u78 u79 u80 u81 u82 u83 u84 u85 u86 u87 u88 u89 u90 u91 u92 u93 u94 u95 u96 u97 u98 u99 u100 u101 u102 u103 u104 u105 u106 u107 u108 u109 u110 u111 u112 u113 u114 u115 u116 u117 u118 u119 u120 u121 u122 u123 u124 u125 u126 u127 u128 u129 u130 u131 u132 u133 u134 u135 u136 u137 u138 u139 u140 u141 u142 u143 u144 u145 u146 u147 u148 u149 u150 u151 u152 u153 u154 u155 u156 u157 u158 u159 u160 u161 u162 u163 u164 u165 u166 u167 u168 u169 u170 u171 u172 u173 u174 u175 u176 u177 u178 u179 u180 u181 u182 u183 u184 u185 u186 u187 u188 u189 u190 u191 u192 u193 u194 u195 u196 u197 u198 u199 u200 u201 u202 u203 u204 u205 u206 u207 u208 u209 u210 u211 u212 u213 u214 u215 u216 u217 u218 u219 u220 u221 u222 u223 u224 u225 u226 u227 u228 u229 u230 u231 u232 u233 u234 u235 u236 u237 u238 u239 u240 u241 u242 u243 u244 u245 u246 u247 u248 u249 u250 u251 u252 u253 u254 u255 u256 u257 u258 u259 u260 u261 u262 u263 u264 u265 u266 u267 u268 u269 u270 u271 u272 u273 u274 u275 u276 u277 u278 u279 u280 u281 u282 u283 u284 u285 u286 u287 u288 u289 u290 u291 u292 u293 u294 u295 u296 u297 u298 u299 u300 u301 u302 u303 u304 u305 u306 u307 u308 u309 u310 u311 u312 u313 u314 u315 u316 u317 u318 u319 u320 u321 u322 hB f25 f27 f29 h33 f37 f39 h41
  conv => arg 2; whnf
  dsimp only
  have KV : Hid (∀ (x y z : Int) (w1 : World), Calls Tryz.prog 55 #[.int .i64 x, .int .i64 y, .int .i64 z] w1 fun e w' => e = .returned (.agg #[.int .i64 x, .int .i64 y, .int .i64 z]) ∧ Below w1.heap.size w1 w') := Lib.hid vec_any
  have e59 : ∀ w : World, (Op.equalIn 10000 46 (.agg #[.int .i64 (-1), .int .i64 0, .int .i64 0, .int .i64 0, .int .i64 (-4), .int .i64 3]) (.agg #[.int .i64 (-1), .int .i64 0, .int .i64 0, .int .i64 0, .int .i64 (-4), .int .i64 3])).run Tryz.prog w = .ok true w := fun w => by kernel_rfl
  have es : ∀ w : World, (binOp .eql 9 (strV dayText) (.string ⟨#[115, 107, 121, 32, 115, 10, 115, 117, 110, 32, 48, 32, 51, 32, 48, 32, 48, 10, 115, 117, 110, 32, 49, 48, 32, 50, 32, 49, 32, 50, 10, 115, 117, 110, 32, 50, 48, 32, 45, 49, 32, 50, 32, 50, 10]⟩)).run Tryz.prog w = .ok (.bool true) w := fun w => by kernel_rfl
  have hS33 : Hid (∀ w1 : World, Blw wx.heap.size wx w1 → w1.cell? ⟨g33, 0, none⟩ = some (.int .i64 1) ∧ w1.cell? ⟨g33, 0 + 1, none⟩ = some (.int .i64 21)) := Lib.hid fun w1 (h : Below wx.heap.size wx w1) => ⟨(h.cell h33.2.2).trans h33.1, (h.cell h33.2.2).trans h33.2.1⟩
  have hS41 : Hid (∀ w1 : World, Blw wx.heap.size wx w1 → w1.cell? ⟨g41, 0, none⟩ = some (.int .i64 4) ∧ w1.cell? ⟨g41, 0 + 1, none⟩ = some (.int .i64 0) ∧ w1.cell? ⟨g41, 0 + 2, none⟩ = some (.int .i64 1)) := Lib.hid fun w1 (h : Below wx.heap.size wx w1) => ⟨(h.cell h41.2.2.2).trans h41.1, (h.cell h41.2.2.2).trans h41.2.1, (h.cell h41.2.2.2).trans h41.2.2.1⟩
  have w0 : IntKind.i64.wrap 0 = 0 := by decide
  go_upto_region 26 with fail
  apply wp_region_slices2 (aF := (fun ua va => ⟨#[.bool false, u1, u2, u3, u4, u5, u6, u7, u8, u9, u10, u11, u12, u13, u14, u15, u16, u17, u18, u19, u20, u21, u22, u23, u24, .pointer (some ⟨B25, 0, none⟩), .int .i64 0, .pointer (some ⟨B27, 0, none⟩), .int .i64 0, .pointer (some ⟨B29, 0, none⟩), .int .i64 0, .bool false, .int .i64 0, .slice (some ⟨g33, 0, none⟩) 1 c33, .int .i64 0, .int .i64 1, .int .i64 0, .pointer (some ⟨B37, 0, none⟩), .int .i64 0, .pointer (some ⟨B39, 0, none⟩), .int .i64 0, .slice (some ⟨g41, 0, none⟩) 1 c41, .int .i64 0, strV dayText, .int .i64 0, .bool true, .int .i64 0, u47, u48, u49, u50, u51, u52, u53, u54, u55, u56, u57, u58, u59, u60, u61, u62, u63, u64, u65, u66, u67, u68, u69, u70, u71, u72, u73, u74, u75, u76, u77, u78, u79, u80, u81, u82, u83, u84, u85, u86, u87, u88, u89, u90, u91, u92, u93, u94, u95, u96, u97, u98, u99, u100, u101, u102, u103, u104, u105, u106, u107, u108, u109, u110, u111, u112, u113, u114, u115, u116, u117, u118, u119, u120, u121, u122, u123, u124, u125, u126, u127, u128, u129, u130, u131, u132, u133, u134, u135, u136, u137, u138, u139, u140, u141, u142, u143, u144, u145, u146, u147, u148, u149, u150, u151, u152, u153, u154, u155, u156, u157, u158, u159, u160, u161, u162, u163, u164, u165, u166, u167, u168, u169, u170, u171, u172, u173, u174, u175, u176, u177, u178, u179, u180, u181, u182, u183, u184, u185, u186, u187, u188, u189, u190, u191, u192, u193, u194, u195, u196, u197, u198, u199, u200, u201, u202, u203, u204, u205, u206, u207, u208, u209, u210, u211, u212, u213, u214, u215, u216, u217, u218, u219, u220, u221, u222, u223, u224, u225, u226, u227, u228, u229, u230, u231, u232, u233, u234, u235, u236, u237, u238, u239, u240, u241, u242, u243, u244, u245, u246, .int .i64 0, .int .i64 0, .int .i64 0, .int .i64 0, .int .i64 0, .int .i64 0, .int .i64 0, .int .i64 0, .int .i64 0, .int .i64 0, .int .i64 0, .int .i64 0, .int .i64 0, .int .i64 0, .int .i64 0, .int .i64 0, .int .i64 0, .int .i64 0, .int .i64 0, .int .i64 0, .int .i64 0, .bool true, .bool true, .bool true, .bool true, .bool true, .agg #[.int .i64 (-1), .int .i64 0, .int .i64 0, .int .i64 0, .int .i64 (-4), .int .i64 3], .agg #[.int .i64 (-1), .int .i64 0, .int .i64 0], .agg #[.int .i64 0, .int .i64 (-4), .int .i64 3], .agg #[.int .i64 (-1), .int .i64 0, .int .i64 0, .int .i64 0, .int .i64 (-4), .int .i64 3], .bool true, .bool true, .bool true, .agg #[.int .i64 6, .int .i64 1], .agg #[.int .i64 6, .int .i64 1], .bool true, .bool true, .bool true, .agg #[.int .i64 5, .int .i64 1, .int .i64 2], .agg #[.int .i64 5, .int .i64 1, .int .i64 2], .bool true, .bool true, .bool true, .bool false, .bool true, .bool true, .bool true, .slice (some ⟨g33, 0, none⟩) 1 c33, .agg #[.int .i64 1, .int .i64 21], ua, .bool true, .bool true, .bool true, .int .i64 1, .bool true, .bool true, .bool true, .agg #[.int .i64 8, .int .i64 0, .int .i64 3], .agg #[.int .i64 8, .int .i64 0, .int .i64 3], .bool true, .bool true, .bool true, .agg #[.int .i64 1, .int .i64 0, .int .i64 1], .agg #[.int .i64 1, .int .i64 0, .int .i64 1], .bool true, .bool true, .bool true, .slice (some ⟨g41, 0, none⟩) 1 c41, .agg #[.int .i64 4, .int .i64 0, .int .i64 1], va, .bool true, .bool true, .bool true, strV dayText, .bool true, .bool true], []⟩)) 76 49 69 50 70 [false, false, false, false, false, false, false, false, false, false, false, false, false, false, false, false, false, false, false, false, false, false, false, false, false, false, false, false, false, false, false, false, false, false, false, false, false, false, false, false, false, false, false, false, false, false, false, false, false, true, true, false, false, false, false, false, false, false, false, false, false, false, false, false, false, false, false, false, false, true, true, false, false, false, false, false] #[.int .i64 1, .int .i64 21] #[.int .i64 4, .int .i64 0, .int .i64 1] 86 23 [.int .i64 0, .int .i64 0, .int .i64 0, .int .i64 0, .int .i64 0, .int .i64 0, .int .i64 0, .int .i64 0, .int .i64 0, .int .i64 0, .int .i64 0, .int .i64 0, .int .i64 0, .int .i64 0, .int .i64 0, .int .i64 0, .int .i64 0, .int .i64 0, .int .i64 0, .int .i64 0, .int .i64 0, .bool true, .bool true, .bool true, .bool true, .bool true, .agg #[.int .i64 (-1), .int .i64 0, .int .i64 0, .int .i64 0, .int .i64 (-4), .int .i64 3], .agg #[.int .i64 (-1), .int .i64 0, .int .i64 0], .agg #[.int .i64 0, .int .i64 (-4), .int .i64 3], .agg #[.int .i64 (-1), .int .i64 0, .int .i64 0, .int .i64 0, .int .i64 (-4), .int .i64 3], .bool true, .bool true, .bool true, .agg #[.int .i64 6, .int .i64 1], .agg #[.int .i64 6, .int .i64 1], .bool true, .bool true, .bool true, .agg #[.int .i64 5, .int .i64 1, .int .i64 2], .agg #[.int .i64 5, .int .i64 1, .int .i64 2], .bool true, .bool true, .bool true, .bool false, .bool true, .bool true, .bool true, .slice (some ⟨g33, 0, none⟩) 1 c33, .agg #[.int .i64 1, .int .i64 21], undef, .bool true, .bool true, .bool true, .int .i64 1, .bool true, .bool true, .bool true, .agg #[.int .i64 8, .int .i64 0, .int .i64 3], .agg #[.int .i64 8, .int .i64 0, .int .i64 3], .bool true, .bool true, .bool true, .agg #[.int .i64 1, .int .i64 0, .int .i64 1], .agg #[.int .i64 1, .int .i64 0, .int .i64 1], .bool true, .bool true, .bool true, .slice (some ⟨g41, 0, none⟩) 1 c41, .agg #[.int .i64 4, .int .i64 0, .int .i64 1], undef, .bool true, .bool true, .bool true, strV dayText, .bool true, .bool true] _ _ _ _ (by kernel_rfl) (by kernel_rfl) (by decide) ⟨by kernel_rfl, by kernel_rfl⟩ rfl rfl rfl rfl
  case haF => intro u v; kernel_rfl
  case hz =>
    intro u v w1
    simp only [execOp]
    go_simp
  case hz2 =>
    intro u v w1
    simp only [execOp]
    go_simp
  case hw => exact fun u v => ⟨rfl, rfl⟩
  case h =>
    intro u v Tt hT
    simp only [List.take_succ_cons, List.take_zero, YieldsM]
    refine ⟨.no rfl ?_, .no rfl ?_, .no rfl ?_, .no rfl ?_, .no rfl ?_, .no rfl ?_, .no rfl ?_, .no rfl ?_, .no rfl ?_, .no rfl ?_, .no rfl ?_, .no rfl ?_, .no rfl ?_, .no rfl ?_, .no rfl ?_, .no rfl ?_, .no rfl ?_, .no rfl ?_, .no rfl ?_, .no rfl ?_, .no rfl ?_, .no rfl ?_, .no rfl ?_, .yes rfl rfl ?_, .no rfl ?_, .no rfl ?_, .yes rfl rfl ?_, .yes rfl rfl ?_, .yes rfl rfl ?_, .yes rfl rfl ?_, .yes rfl rfl ?_, .no rfl ?_, .no rfl ?_, .yes rfl rfl ?_, .yes rfl rfl ?_, .yes rfl rfl ?_, .no rfl ?_, .no rfl ?_, .yes rfl rfl ?_, .yes rfl rfl ?_, .yes rfl rfl ?_, .no rfl ?_, .no rfl ?_, .yes rfl rfl ?_, .yes rfl rfl ?_, .no rfl ?_, .no rfl ?_, .yes rfl rfl ?_, .yes rfl rfl ?_, .no rfl ?_, .no rfl ?_, .yes rfl rfl ?_, .yes rfl rfl ?_, .no rfl ?_, .no rfl ?_, .yes rfl rfl ?_, .yes rfl rfl ?_, .yes rfl rfl ?_, .no rfl ?_, .no rfl ?_, .yes rfl rfl ?_, .yes rfl rfl ?_, .yes rfl rfl ?_, .no rfl ?_, .no rfl ?_, .yes rfl rfl ?_, .yes rfl rfl ?_, .no rfl ?_, .no rfl ?_, .yes rfl rfl ?_, .yes rfl rfl ?_, .no rfl ?_, trivial⟩
    all_goals
      intro w1 hw
      obtain ⟨hw1, ht1⟩ := hw
      obtain ⟨c25_0, c25_1, c25_2, c25_3, c25_4, c25_5⟩ := cells6 (((show Below _ _ _ from hw1).block _ (lt_of_blk f25)).trans f25)
      obtain ⟨c27_0, c27_1⟩ := cells2 (((show Below _ _ _ from hw1).block _ (lt_of_blk f27)).trans f27)
      obtain ⟨c29_0, c29_1, c29_2⟩ := cells3 (((show Below _ _ _ from hw1).block _ (lt_of_blk f29)).trans f29)
      obtain ⟨c37_0, c37_1, c37_2⟩ := cells3 (((show Below _ _ _ from hw1).block _ (lt_of_blk f37)).trans f37)
      obtain ⟨c39_0, c39_1, c39_2⟩ := cells3 (((show Below _ _ _ from hw1).block _ (lt_of_blk f39)).trans f39)
      unfold Oper.wp
      simp only [execOp]
      go_simp <;> first
        | exact ⟨rfl, hw1, ht1⟩
        | exact ht1
        | exact ⟨hw1, ht1⟩
        | ((with_reducible refine (KV.out _ _ _ _).mono ?_); rintro e w2 ⟨rfl, hb⟩; exact ⟨rfl, below_call hb hw1, hT _ _ ht1 hb⟩)
  case hc =>
    intro u v Tt hT hR
    refine .yes rfl rfl ?_
    intro w1 hw
    obtain ⟨hw1, ht1⟩ := hw
    obtain ⟨B, hv, hB1, hm⟩ := hR w1 ht1
    subst hv
    unfold Oper.wp
    simp only [execOp]
    go_simp
    refine (sameSpans_one 1 21 g33 0 c33 B 0 1 _ (hS33.out _ hw1) (cells2 hm)).mono ?_
    rintro e w2 ⟨rfl, hb⟩
    exact ⟨rfl, below_call hb hw1, hT _ _ ht1 hb⟩
  case hc2 =>
    intro u v Tt hT hR
    refine .yes rfl rfl ?_
    intro w1 hw
    obtain ⟨hw1, ht1⟩ := hw
    obtain ⟨B, hv, hB1, hm⟩ := hR w1 ht1
    subst hv
    unfold Oper.wp
    simp only [execOp]
    go_simp
    refine (sameVectors_one 4 0 1 g41 0 c41 B 0 1 _ (hS41.out _ hw1) (cells3 hm)).mono ?_
    rintro e w2 ⟨rfl, hb⟩
    exact ⟨rfl, below_call hb hw1, hT _ _ ht1 hb⟩
  case ht =>
    intro u v w5 hw5
    simp only [List.drop_succ_cons, List.drop_zero]
    go_wp2_with fail
    go_ret
    exact ⟨rfl, hB.trans ((show Below _ _ _ from hw5).mono hB.size)⟩

end Go.Proofs.YtggffhmdgceljaaGreatDoor
