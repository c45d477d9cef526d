/-
  The walk of chapter 2's awake: regions 5 to 8.
-/
import Derived.Test.YtpflbkgmgfhhnaaGreatDoorRows
import Derived.WalkKit
import Derived.WalkSpells
import Derived.WalkLawsBesides
import Derived.Lib.Hide
import Derived.BigQuiet
import Derived.Deep.QuietTactic
import Derived.Laws.FloatArith
import Derived.Laws.BitsAllLaws
import Derived.Deep.CutBlock
import Derived.Deep.DeepCutAuto
import Derived.Deep.RegionHeld3
import Derived.StillTailTactics
import Derived.LoopTactic
import Derived.Handy
import Derived.Laws.StructEq
import Derived.RangeFuncNested
import Derived.RangeFuncBound
import Derived.RangeFuncCalls
import Derived.RangeFuncLeaves
import Derived.RangeFuncBox
import Derived.Shelf.Abstract
import Derived.Shelf.RegionOpen
import Derived.OwnWalkIn
import Derived.TacticsInMore
import Derived.LoopNIn
import Derived.LoopIn
import Derived.Maps.AppendAt
import Derived.Test.YtpflbkgmgfhhnaaGreatDoorProg
import Derived.Deep.RegionWith
import Derived.Stop.BytesEq
import Derived.Deep.MidRow
import Derived.Laws.CopyRow
import Derived.WalkMore
import Derived.Deep.DrawnRows
import Derived.Deep.RegionLaw
import Derived.Orders
import Derived.RegionTactic
import Derived.StillTail
import Derived.Laws.RangeString
import Derived.Laws.RangeAny
import Derived.Shelf.Strings.Builder1
import Derived.Shelf.Strings.OnBuilder
import Derived.Shelf.LaysM
import Derived.Shelf.Strconv.Itoa3
import Derived.Lib.AppendIntMem
import Derived.Lib.ItoaLen
import Derived.RowKit
import Derived.Test.YtpflbkgmgfhhnaaGreatDoorOtaXc
import Derived.Test.YtpflbkgmgfhhnaaGreatDoorOtaXe
import Derived.Test.YtpflbkgmgfhhnaaGreatDoorOtaIb
import Derived.Test.YtpflbkgmgfhhnaaGreatDoorOtaId
import Derived.Test.YtpflbkgmgfhhnaaGreatDoorOtaNi
import Derived.Test.YtpflbkgmgfhhnaaGreatDoorOtaNv
import Derived.Test.YtpflbkgmgfhhnaaGreatDoorOtaWe
import Derived.Test.YtpflbkgmgfhhnaaGreatDoorOtaNo
import Derived.Test.YtpflbkgmgfhhnaaGreatDoorOtaNr
import Derived.Test.YtpflbkgmgfhhnaaGreatDoorOtaNy
import Derived.Test.YtpflbkgmgfhhnaaGreatDoorOtaAb
import Derived.Test.YtpflbkgmgfhhnaaGreatDoorOtaAc
import Derived.Test.YtpflbkgmgfhhnaaGreatDoorOtaAf
import Derived.Test.YtpflbkgmgfhhnaaGreatDoorOtaAh
import Derived.Test.YtpflbkgmgfhhnaaGreatDoorOtaAu
import Derived.Test.YtpflbkgmgfhhnaaGreatDoorOtaIl
namespace Go.Proofs.YtpflbkgmgfhhnaaGreatDoor
open Go.RowKit
set_option linter.unusedVariables false
set_option linter.unusedSimpArgs false

set_option maxRecDepth 1000000 in
set_option maxHeartbeats 12800000 in
theorem sawk5 (w : World) (hX : AxesIn w) (ht : TabAt w) (hT : SAwk6 w) : SAwk5 w := by
  unfold SAwk5
  intro wx B1 B7 u9 u10 u11 u12 u13 u14 u15 u16 u17 u18 u19 u20 u21 u22 u23 u24 u25 u26 u27 u28 u29 u30 u31 u32 u33 u34 u35 u36 u37 u38 u39 u40 u41 u42 u43 u44 u45 u46 u47 u48 u49 u50 u51 u52 u53 u54 u55 u56 u57 u58 u59 u60 u61 u62 u63 u64 u65 u66 u67 u68 u69 u70 u71 u72 u73 u74 u75 u76 u77 u78 u79 u80 u81 u82 u83 u84 u85 u86 u87 u88 u89 u90 u91 u92 u93 u94 u95 u96 u97 u98 u99 u100 u101 u102 u103 u104 u105 u106 u107 u108 u109 u110 u111 u112 u113 u114 u115 u116 u117 u118 u119 u120 u121 u122 u123 u124 u125 u126 u127 u128 u129 u130 u131 u132 u133 u134 u135 u136 u137 u138 u139 u140 u141 u142 u143 u144 u145 u146 u147 u148 u149 u150 u151 u152 u153 u154 u155 u156 u157 u158 u159 u160 u161 u162 u163 u164 u165 u166 u167 u168 u169 u170 u171 u172 u173 u174 u175 u176 u177 u178 u179 u180 u181 u182 u183 u184 u185 u186 u187 u188 u189 u190 u191 u192 u193 u194 u195 u196 u197 u198 u199 u200 u201 u202 u203 u204 u205 u206 u207 u208 u209 u210 u211 u212 u213 u214 u215 u216 u217 u218 u219 u220 u221 u222 u223 u224 u225 u226 u227 u228 u229 u230 u231 u232 u233 u234 u235 u236 u237 u238 u239 u240 u241 u242 u243 u244 u245 u246 u247 u248 u249 u250 u251 u252 u253 u254 u255 u256 u257 u258 u259 u260 u261 u262 u263 u264 u265 u266 u267 u268 u269 u270 u271 u272 u273 u274 u275 u276 u277 u278 u279 u280 u281 u282 u283 u284 u285 u286 u287 u288 u289 u290 u291 u292 u293 u294 u295 u296 u297 u298 u299 u300 u301 u302 u303 u304 u305 u306 u307 u308 u309 u310 u311 u312 u313 u314 u315 u316 u317 u318 u319 u320 u321 u322 hB f1 f7
  conv => arg 2; whnf
  dsimp only
  go_upto_region 5 with fail
  go_cut [9, 10] (fun s9 s10 wr => (∃ B, s9 = .pointer (some ⟨B, 0, none⟩) ∧ wr.heap[B]? = some (.cells #[.int .i64 2, .int .i64 1, .int .i64 5] 23 (0, 0))) ∧ s10 = .int .i64 0 ∧ Below wx.heap.size wx wr)
  case first =>
    have KV : Hid (∀ (x y z : Int) (w1 : World), Calls Tryz.prog 47 #[.int .i64 x, .int .i64 y, .int .i64 z] w1 fun e w' => e = .returned (.agg #[.int .i64 x, .int .i64 y, .int .i64 z]) ∧ Below w1.heap.size w1 w') := Lib.hid vec_any
    go_wp2_with (first
      | (go_at_call 47; (with_reducible refine (KV.out (0) (0) (1) _).mono ?_); rintro e w1 ⟨rfl, hb1⟩)
      | (go_at_call 47; (with_reducible refine (KV.out (2) (1) (2) _).mono ?_); rintro e w2 ⟨rfl, hb2⟩)
      | (go_at_call 28; (with_reducible refine (ex_normal _).mono ?_); rintro e w3 ⟨rfl, hb3⟩))
    go_meet
    have hc := ((hb1.trans (hb2.mono hb1.size)).trans (hb3.mono (hb1.trans (hb2.mono hb1.size)).size))
    exact ⟨⟨_, rfl, World.alloc_heap_new _ _⟩, rfl, hc.alloc hc.size _⟩
  case rest =>
    rename_i hK
    obtain ⟨⟨Bn, rfl, hbx⟩, rfl, hb⟩ := hcut
    refine hK _ _ ?_
    clear hK
    unfold SAwk6 at hT
    exact hT _ B1 B7 _ _ _ _ _ _ _ _ _ _ _ _ _ _ _ _ _ _ _ _ _ _ _ _ _ _ _ _ _ _ _ _ _ _ _ _ _ _ _ _ _ _ _ _ _ _ _ _ _ _ _ _ _ _ _ _ _ _ _ _ _ _ _ _ _ _ _ _ _ _ _ _ _ _ _ _ _ _ _ _ _ _ _ _ _ _ _ _ _ _ _ _ _ _ _ _ _ _ _ _ _ _ _ _ _ _ _ _ _ _ _ _ _ _ _ _ _ _ _ _ _ _ _ _ _ _ _ _ _ _ _ _ _ _ _ _ _ _ _ _ _ _ _ _ _ _ _ _ _ _ _ _ _ _ _ _ _ _ _ _ _ _ _ _ _ _ _ _ _ _ _ _ _ _ _ _ _ _ _ _ _ _ _ _ _ _ _ _ _ _ _ _ _ _ _ _ _ _ _ _ _ _ _ _ _ _ _ _ _ _ _ _ _ _ _ _ _ _ _ _ _ _ _ _ _ _ _ _ _ _ _ _ _ _ _ _ _ _ _ _ _ _ _ _ _ _ _ _ _ _ _ _ _ _ _ _ _ _ _ _ _ _ _ _ _ _ _ _ _ _ _ _ _ _ _ _ _ _ _ _ _ _ _ _ _ _ _ _ _ _ _ _ _ _ _ _ _ _ _ _ _ _ _ _ _ _ _ _ _ _ _ _ _ (hB.trans (hb.mono hB.size)) ((hb.block _ (lt_of_blk f1)).trans f1) ((hb.block _ (lt_of_blk f7)).trans f7) hbx

set_option maxRecDepth 1000000 in
set_option maxHeartbeats 12800000 in
theorem sawk6 (w : World) (hX : AxesIn w) (ht : TabAt w) (hT : SAwk7 w) : SAwk6 w := by
  unfold SAwk6
  intro wx B1 B7 B9 u11 u12 u13 u14 u15 u16 u17 u18 u19 u20 u21 u22 u23 u24 u25 u26 u27 u28 u29 u30 u31 u32 u33 u34 u35 u36 u37 u38 u39 u40 u41 u42 u43 u44 u45 u46 u47 u48 u49 u50 u51 u52 u53 u54 u55 u56 u57 u58 u59 u60 u61 u62 u63 u64 u65 u66 u67 u68 u69 u70 u71 u72 u73 u74 u75 u76 u77 u78 u79 u80 u81 u82 u83 u84 u85 u86 u87 u88 u89 u90 u91 u92 u93 u94 u95 u96 u97 u98 u99 u100 u101 u102 u103 u104 u105 u106 u107 u108 u109 u110 u111 u112 u113 u114 u115 u116 u117 u118 u119 u120 u121 u122 u123 u124 u125 u126 u127 u128 u129 u130 u131 u132 u133 u134 u135 u136 u137 u138 u139 u140 u141 u142 u143 u144 u145 u146 u147 u148 u149 u150 u151 u152 u153 u154 u155 u156 u157 u158 u159 u160 u161 u162 u163 u164 u165 u166 u167 u168 u169 u170 u171 u172 u173 u174 u175 u176 u177 u178 u179 u180 u181 u182 u183 u184 u185 u186 u187 u188 u189 u190 u191 u192 u193 u194 u195 u196 u197 u198 u199 u200 u201 u202 u203 u204 u205 u206 u207 u208 u209 u210 u211 u212 u213 u214 u215 u216 u217 u218 u219 u220 u221 u222 u223 u224 u225 u226 u227 u228 u229 u230 u231 u232 u233 u234 u235 u236 u237 u238 u239 u240 u241 u242 u243 u244 u245 u246 u247 u248 u249 u250 u251 u252 u253 u254 u255 u256 u257 u258 u259 u260 u261 u262 u263 u264 u265 u266 u267 u268 u269 u270 u271 u272 u273 u274 u275 u276 u277 u278 u279 u280 u281 u282 u283 u284 u285 u286 u287 u288 u289 u290 u291 u292 u293 u294 u295 u296 u297 u298 u299 u300 u301 u302 u303 u304 u305 u306 u307 u308 u309 u310 u311 u312 u313 u314 u315 u316 u317 u318 u319 u320 u321 u322 hB f1 f7 f9
  conv => arg 2; whnf
  dsimp only
  go_upto_region 6 with fail
  go_cut [11, 12] (fun s11 s12 wr => (∃ B, s11 = .pointer (some ⟨B, 0, none⟩) ∧ wr.heap[B]? = some (.cells #[.int .i64 2, .int .i64 1, .int .i64 2] 23 (0, 0))) ∧ s12 = .int .i64 0 ∧ Below wx.heap.size wx wr)
  case first =>
    have KV : Hid (∀ (x y z : Int) (w1 : World), Calls Tryz.prog 47 #[.int .i64 x, .int .i64 y, .int .i64 z] w1 fun e w' => e = .returned (.agg #[.int .i64 x, .int .i64 y, .int .i64 z]) ∧ Below w1.heap.size w1 w') := Lib.hid vec_any
    go_wp2_with (first
      | (go_at_call 47; (with_reducible refine (KV.out (0) (0) (1) _).mono ?_); rintro e w1 ⟨rfl, hb1⟩)
      | (go_at_call 47; (with_reducible refine (KV.out (2) (1) (5) _).mono ?_); rintro e w2 ⟨rfl, hb2⟩)
      | (go_at_call 21; (with_reducible refine (ex_reflected _).mono ?_); rintro e w3 ⟨rfl, hb3⟩))
    go_meet
    have hc := ((hb1.trans (hb2.mono hb1.size)).trans (hb3.mono (hb1.trans (hb2.mono hb1.size)).size))
    exact ⟨⟨_, rfl, World.alloc_heap_new _ _⟩, rfl, hc.alloc hc.size _⟩
  case rest =>
    rename_i hK
    obtain ⟨⟨Bn, rfl, hbx⟩, rfl, hb⟩ := hcut
    refine hK _ _ ?_
    clear hK
    unfold SAwk7 at hT
    exact hT _ B1 B7 B9 _ _ _ _ _ _ _ _ _ _ _ _ _ _ _ _ _ _ _ _ _ _ _ _ _ _ _ _ _ _ _ _ _ _ _ _ _ _ _ _ _ _ _ _ _ _ _ _ _ _ _ _ _ _ _ _ _ _ _ _ _ _ _ _ _ _ _ _ _ _ _ _ _ _ _ _ _ _ _ _ _ _ _ _ _ _ _ _ _ _ _ _ _ _ _ _ _ _ _ _ _ _ _ _ _ _ _ _ _ _ _ _ _ _ _ _ _ _ _ _ _ _ _ _ _ _ _ _ _ _ _ _ _ _ _ _ _ _ _ _ _ _ _ _ _ _ _ _ _ _ _ _ _ _ _ _ _ _ _ _ _ _ _ _ _ _ _ _ _ _ _ _ _ _ _ _ _ _ _ _ _ _ _ _ _ _ _ _ _ _ _ _ _ _ _ _ _ _ _ _ _ _ _ _ _ _ _ _ _ _ _ _ _ _ _ _ _ _ _ _ _ _ _ _ _ _ _ _ _ _ _ _ _ _ _ _ _ _ _ _ _ _ _ _ _ _ _ _ _ _ _ _ _ _ _ _ _ _ _ _ _ _ _ _ _ _ _ _ _ _ _ _ _ _ _ _ _ _ _ _ _ _ _ _ _ _ _ _ _ _ _ _ _ _ _ _ _ _ _ _ _ _ _ _ _ _ _ _ _ _ _ (hB.trans (hb.mono hB.size)) ((hb.block _ (lt_of_blk f1)).trans f1) ((hb.block _ (lt_of_blk f7)).trans f7) ((hb.block _ (lt_of_blk f9)).trans f9) hbx

set_option maxRecDepth 1000000 in
set_option maxHeartbeats 12800000 in
theorem sawk7 (w : World) (hX : AxesIn w) (ht : TabAt w) (hT : SAwk8 w) : SAwk7 w := by
  unfold SAwk7
  intro wx B1 B7 B9 B11 u13 u14 u15 u16 u17 u18 u19 u20 u21 u22 u23 u24 u25 u26 u27 u28 u29 u30 u31 u32 u33 u34 u35 u36 u37 u38 u39 u40 u41 u42 u43 u44 u45 u46 u47 u48 u49 u50 u51 u52 u53 u54 u55 u56 u57 u58 u59 u60 u61 u62 u63 u64 u65 u66 u67 u68 u69 u70 u71 u72 u73 u74 u75 u76 u77 u78 u79 u80 u81 u82 u83 u84 u85 u86 u87 u88 u89 u90 u91 u92 u93 u94 u95 u96 u97 u98 u99 u100 u101 u102 u103 u104 u105 u106 u107 u108 u109 u110 u111 u112 u113 u114 u115 u116 u117 u118 u119 u120 u121 u122 u123 u124 u125 u126 u127 u128 u129 u130 u131 u132 u133 u134 u135 u136 u137 u138 u139 u140 u141 u142 u143 u144 u145 u146 u147 u148 u149 u150 u151 u152 u153 u154 u155 u156 u157 u158 u159 u160 u161 u162 u163 u164 u165 u166 u167 u168 u169 u170 u171 u172 u173 u174 u175 u176 u177 u178 u179 u180 u181 u182 u183 u184 u185 u186 u187 u188 u189 u190 u191 u192 u193 u194 u195 u196 u197 u198 u199 u200 u201 u202 u203 u204 u205 u206 u207 u208 u209 u210 u211 u212 u213 u214 u215 u216 u217 u218 u219 u220 u221 u222 u223 u224 u225 u226 u227 u228 u229 u230 u231 u232 u233 u234 u235 u236 u237 u238 u239 u240 u241 u242 u243 u244 u245 u246 u247 u248 u249 u250 u251 u252 u253 u254 u255 u256 u257 u258 u259 u260 u261 u262 u263 u264 u265 u266 u267 u268 u269 u270 u271 u272 u273 u274 u275 u276 u277 u278 u279 u280 u281 u282 u283 u284 u285 u286 u287 u288 u289 u290 u291 u292 u293 u294 u295 u296 u297 u298 u299 u300 u301 u302 u303 u304 u305 u306 u307 u308 u309 u310 u311 u312 u313 u314 u315 u316 u317 u318 u319 u320 u321 u322 hB f1 f7 f9 f11
  conv => arg 2; whnf
  dsimp only
  go_upto_region 7 with fail
  go_cut [13, 14, 15] (fun s13 s14 s15 wr => s13 = .int .i64 1 ∧ (∃ B, s14 = .pointer (some ⟨B, 0, none⟩) ∧ wr.heap[B]? = some (.cells #[.int .i64 64, .int .i64 81] 50 (0, 0))) ∧ s15 = .int .i64 0 ∧ Below wx.heap.size wx wr)
  case first =>
    have KV : Hid (∀ (x y z : Int) (w1 : World), Calls Tryz.prog 47 #[.int .i64 x, .int .i64 y, .int .i64 z] w1 fun e w' => e = .returned (.agg #[.int .i64 x, .int .i64 y, .int .i64 z]) ∧ Below w1.heap.size w1 w') := Lib.hid vec_any
    go_wp2_with (first
      | (go_at_call 47; (with_reducible refine (KV.out (1) (2) (2) _).mono ?_); rintro e w1 ⟨rfl, hb1⟩)
      | (go_at_call 47; (with_reducible refine (KV.out (2) (1) (2) _).mono ?_); rintro e w2 ⟨rfl, hb2⟩)
      | (go_at_call 25; (with_reducible refine (ex_cosine _).mono ?_); rintro e w3 ⟨rfl, hb3⟩))
    go_meet
    have hc := ((hb1.trans (hb2.mono hb1.size)).trans (hb3.mono (hb1.trans (hb2.mono hb1.size)).size))
    exact ⟨rfl, ⟨_, rfl, World.alloc_heap_new _ _⟩, rfl, hc.alloc hc.size _⟩
  case rest =>
    rename_i hK
    obtain ⟨rfl, ⟨Bn, rfl, hbx⟩, rfl, hb⟩ := hcut
    refine hK _ _ ?_
    clear hK
    unfold SAwk8 at hT
    exact hT _ B1 B7 B9 B11 _ _ _ _ _ _ _ _ _ _ _ _ _ _ _ _ _ _ _ _ _ _ _ _ _ _ _ _ _ _ _ _ _ _ _ _ _ _ _ _ _ _ _ _ _ _ _ _ _ _ _ _ _ _ _ _ _ _ _ _ _ _ _ _ _ _ _ _ _ _ _ _ _ _ _ _ _ _ _ _ _ _ _ _ _ _ _ _ _ _ _ _ _ _ _ _ _ _ _ _ _ _ _ _ _ _ _ _ _ _ _ _ _ _ _ _ _ _ _ _ _ _ _ _ _ _ _ _ _ _ _ _ _ _ _ _ _ _ _ _ _ _ _ _ _ _ _ _ _ _ _ _ _ _ _ _ _ _ _ _ _ _ _ _ _ _ _ _ _ _ _ _ _ _ _ _ _ _ _ _ _ _ _ _ _ _ _ _ _ _ _ _ _ _ _ _ _ _ _ _ _ _ _ _ _ _ _ _ _ _ _ _ _ _ _ _ _ _ _ _ _ _ _ _ _ _ _ _ _ _ _ _ _ _ _ _ _ _ _ _ _ _ _ _ _ _ _ _ _ _ _ _ _ _ _ _ _ _ _ _ _ _ _ _ _ _ _ _ _ _ _ _ _ _ _ _ _ _ _ _ _ _ _ _ _ _ _ _ _ _ _ _ _ _ _ _ _ _ _ _ _ _ _ _ _ _ _ _ (hB.trans (hb.mono hB.size)) ((hb.block _ (lt_of_blk f1)).trans f1) ((hb.block _ (lt_of_blk f7)).trans f7) ((hb.block _ (lt_of_blk f9)).trans f9) ((hb.block _ (lt_of_blk f11)).trans f11) hbx

set_option maxRecDepth 1000000 in
set_option maxHeartbeats 12800000 in
theorem sawk8 (w : World) (hX : AxesIn w) (ht : TabAt w) (hT : SAwk9 w) : SAwk8 w := by
  unfold SAwk8
  intro wx B1 B7 B9 B11 B14 u16 u17 u18 u19 u20 u21 u22 u23 u24 u25 u26 u27 u28 u29 u30 u31 u32 u33 u34 u35 u36 u37 u38 u39 u40 u41 u42 u43 u44 u45 u46 u47 u48 u49 u50 u51 u52 u53 u54 u55 u56 u57 u58 u59 u60 u61 u62 u63 u64 u65 u66 u67 u68 u69 u70 u71 u72 u73 u74 u75 u76 u77 u78 u79 u80 u81 u82 u83 u84 u85 u86 u87 u88 u89 u90 u91 u92 u93 u94 u95 u96 u97 u98 u99 u100 u101 u102 u103 u104 u105 u106 u107 u108 u109 u110 u111 u112 u113 u114 u115 u116 u117 u118 u119 u120 u121 u122 u123 u124 u125 u126 u127 u128 u129 u130 u131 u132 u133 u134 u135 u136 u137 u138 u139 u140 u141 u142 u143 u144 u145 u146 u147 u148 u149 u150 u151 u152 u153 u154 u155 u156 u157 u158 u159 u160 u161 u162 u163 u164 u165 u166 u167 u168 u169 u170 u171 u172 u173 u174 u175 u176 u177 u178 u179 u180 u181 u182 u183 u184 u185 u186 u187 u188 u189 u190 u191 u192 u193 u194 u195 u196 u197 u198 u199 u200 u201 u202 u203 u204 u205 u206 u207 u208 u209 u210 u211 u212 u213 u214 u215 u216 u217 u218 u219 u220 u221 u222 u223 u224 u225 u226 u227 u228 u229 u230 u231 u232 u233 u234 u235 u236 u237 u238 u239 u240 u241 u242 u243 u244 u245 u246 u247 u248 u249 u250 u251 u252 u253 u254 u255 u256 u257 u258 u259 u260 u261 u262 u263 u264 u265 u266 u267 u268 u269 u270 u271 u272 u273 u274 u275 u276 u277 u278 u279 u280 u281 u282 u283 u284 u285 u286 u287 u288 u289 u290 u291 u292 u293 u294 u295 u296 u297 u298 u299 u300 u301 u302 u303 u304 u305 u306 u307 u308 u309 u310 u311 u312 u313 u314 u315 u316 u317 u318 u319 u320 u321 u322 hB f1 f7 f9 f11 f14
  conv => arg 2; whnf
  dsimp only
  go_upto_region 8 with fail
  go_cut [16] (fun s16 wr => (∃ B, s16 = .pointer (some ⟨B, 0, none⟩) ∧ wr.heap[B]? = some (.cells #[.int .i64 0, .int .i64 0, .int .i64 1, .int .i64 1, .int .i64 2] 29 (0, 0))) ∧ Below wx.heap.size wx wr)
  case first =>
    have KV : Hid (∀ (x y z : Int) (w1 : World), Calls Tryz.prog 47 #[.int .i64 x, .int .i64 y, .int .i64 z] w1 fun e w' => e = .returned (.agg #[.int .i64 x, .int .i64 y, .int .i64 z]) ∧ Below w1.heap.size w1 w') := Lib.hid vec_any
    go_wp2_with (first
      | (go_at_call 47; (with_reducible refine (KV.out (0) (0) (1) _).mono ?_); rintro e w1 ⟨rfl, hb1⟩))
    go_meet
    exact ⟨⟨_, rfl, World.alloc_heap_new _ _⟩, hb1.alloc hb1.size _⟩
  case rest =>
    rename_i hK
    obtain ⟨⟨Bn, rfl, hbx⟩, hb⟩ := hcut
    refine hK _ _ ?_
    clear hK
    unfold SAwk9 at hT
    exact hT _ B1 B7 B9 B11 B14 _ _ _ _ _ _ _ _ _ _ _ _ _ _ _ _ _ _ _ _ _ _ _ _ _ _ _ _ _ _ _ _ _ _ _ _ _ _ _ _ _ _ _ _ _ _ _ _ _ _ _ _ _ _ _ _ _ _ _ _ _ _ _ _ _ _ _ _ _ _ _ _ _ _ _ _ _ _ _ _ _ _ _ _ _ _ _ _ _ _ _ _ _ _ _ _ _ _ _ _ _ _ _ _ _ _ _ _ _ _ _ _ _ _ _ _ _ _ _ _ _ _ _ _ _ _ _ _ _ _ _ _ _ _ _ _ _ _ _ _ _ _ _ _ _ _ _ _ _ _ _ _ _ _ _ _ _ _ _ _ _ _ _ _ _ _ _ _ _ _ _ _ _ _ _ _ _ _ _ _ _ _ _ _ _ _ _ _ _ _ _ _ _ _ _ _ _ _ _ _ _ _ _ _ _ _ _ _ _ _ _ _ _ _ _ _ _ _ _ _ _ _ _ _ _ _ _ _ _ _ _ _ _ _ _ _ _ _ _ _ _ _ _ _ _ _ _ _ _ _ _ _ _ _ _ _ _ _ _ _ _ _ _ _ _ _ _ _ _ _ _ _ _ _ _ _ _ _ _ _ _ _ _ _ _ _ _ _ _ _ _ _ _ _ _ _ _ _ _ _ _ _ _ _ _ _ _ (hB.trans (hb.mono hB.size)) ((hb.block _ (lt_of_blk f1)).trans f1) ((hb.block _ (lt_of_blk f7)).trans f7) ((hb.block _ (lt_of_blk f9)).trans f9) ((hb.block _ (lt_of_blk f11)).trans f11) ((hb.block _ (lt_of_blk f14)).trans f14) hbx

end Go.Proofs.YtpflbkgmgfhhnaaGreatDoor

/-
  The walk of SunTwice: the first regions.
-/
namespace Go.Proofs.YtpflbkgmgfhhnaaGreatDoor
open Go.RowKit
set_option linter.unusedVariables false
set_option linter.unusedSimpArgs false
set_option maxRecDepth 1000000 in
set_option maxHeartbeats 12800000 in
theorem tw_first (w : World) (x y z a b c a1 a2 a3 : Int)
    (KT1 : Hid (∀ w1 : World, Calls Tryz.prog 18 #[.agg #[.int .i64 x, .int .i64 y, .int .i64 z]] w1 fun e w' => e = .returned (.bool true) ∧ Below w1.heap.size w1 w'))
    (KT2 : Hid (∀ w1 : World, Calls Tryz.prog 18 #[.agg #[.int .i64 a, .int .i64 b, .int .i64 c]] w1 fun e w' => e = .returned (.bool true) ∧ Below w1.heap.size w1 w'))
    (KA : Hid (∀ w1 : World, Calls Tryz.prog 19 #[.agg #[.int .i64 x, .int .i64 y, .int .i64 z]] w1 fun e w' => e = .returned (.tuple #[.agg #[.int .i64 a1, .int .i64 a2, .int .i64 a3], .int .i64 0]) ∧ Below w1.heap.size w1 w'))
    (KS : Hid (∀ w1 : World, Calls Tryz.prog 20 #[.agg #[.int .i64 a1, .int .i64 a2, .int .i64 a3], .agg #[.int .i64 x, .int .i64 y, .int .i64 z]] w1 fun e w' => e = .returned (.tuple #[.bool true, .int .i64 0]) ∧ Below w1.heap.size w1 w'))
    (KB : Hid (∀ w1 : World, Calls Tryz.prog 19 #[.agg #[.int .i64 a1, .int .i64 a2, .int .i64 a3]] w1 fun e w' => e = .returned (.tuple #[.agg #[.int .i64 a1, .int .i64 a2, .int .i64 a3], .int .i64 0]) ∧ Below w1.heap.size w1 w'))
    (KD : Hid (∀ w1 : World, Calls Tryz.prog 21 #[.agg #[.int .i64 x, .int .i64 y, .int .i64 z], .agg #[.int .i64 x, .int .i64 y, .int .i64 z]] w1 fun e w' => e = .returned (.tuple #[.agg #[.int .i64 a1, .int .i64 a2, .int .i64 a3], .int .i64 0]) ∧ Below w1.heap.size w1 w'))
    (hT : STw7 w x y z a b c a1 a2 a3) : Calls Tryz.prog 4 #[.agg #[.int .i64 x, .int .i64 y, .int .i64 z], .agg #[.int .i64 a, .int .i64 b, .int .i64 c]] w (SunPost w) := by
  obtain ⟨W0, hW0⟩ : ∃ W0, ((w.alloc (.cells #[.int .i64 x, .int .i64 y, .int .i64 z] 23)).alloc (.cells #[.int .i64 a, .int .i64 b, .int .i64 c] 23)) = W0 := ⟨_, rfl⟩
  have K0 : Hid (Kp w W0 [(w.heap.size + 1, (.cells #[.int .i64 a, .int .i64 b, .int .i64 c] 23 (0, 0))), (w.heap.size, (.cells #[.int .i64 x, .int .i64 y, .int .i64 z] 23 (0, 0)))]) := Lib.hid (by
    rw [← hW0]
    have k := (((Kp.none w).alloc (.cells #[.int .i64 x, .int .i64 y, .int .i64 z] 23)).alloc (.cells #[.int .i64 a, .int .i64 b, .int .i64 c] 23))
    simpa using k)
  go_enter Tryz.func4, Tryz.ntmps4
  go_upto_region 1 with fail
  try rw [hW0]
  clear hW0
  obtain ⟨n0, n1, n2⟩ := cells3 (K0.out.2 _ (.head _))
  obtain ⟨d0, d1, d2⟩ := cells3 (K0.out.2 _ (.tail _ (.head _)))
  go_upto_region 3 with (first
    | (go_at_call 18; (with_reducible refine (KT1.out _).mono ?_); rintro e w1 ⟨rfl, hb1⟩; have K1 := Lib.hid (K0.out.call hb1); obtain ⟨n0, n1, n2⟩ := cells3 (K1.out.2 _ (.head _)); obtain ⟨d0, d1, d2⟩ := cells3 (K1.out.2 _ (.tail _ (.head _))))
    | (go_at_call 18; (with_reducible refine (KT2.out _).mono ?_); rintro e w2 ⟨rfl, hb2⟩; have K2 := Lib.hid (K1.out.call hb2)))
  have K3 := Lib.hid K2.out
  clear K2 K1 K0 hb1 hb2 n0 n1 n2 d0 d1 d2
  go_upto_region 3 with fail
  go_cut [5, 6] (fun s5 s6 wr => ∃ B5 : Nat, s5 = .pointer (some ⟨B5, 0, none⟩) ∧ s6 = .int .i64 0 ∧ Kp w wr [(B5, (.cells #[.int .i64 a1, .int .i64 a2, .int .i64 a3] 23 (0, 0))), (w.heap.size + 1, (.cells #[.int .i64 a, .int .i64 b, .int .i64 c] 23 (0, 0))), (w.heap.size, (.cells #[.int .i64 x, .int .i64 y, .int .i64 z] 23 (0, 0)))])
  case first =>
    obtain ⟨d0, d1, d2⟩ := cells3 (K3.out.2 _ (.tail _ (.head _)))
    go_wp2_with (first
      | (go_at_call 19; (with_reducible refine (KA.out _).mono ?_); rintro e w91 ⟨rfl, hb91⟩; have K91 := Lib.hid (K3.out.call hb91)))
    go_meet
    exact ⟨_, rfl, rfl, K91.out.alloc _⟩
  case rest =>
    rename_i hK
    obtain ⟨B5, rfl, rfl, hk⟩ := hcut
    refine hK _ _ ?_
    clear hK
    have K4 := Lib.hid hk
    clear hk K3
    go_upto_region 4 with fail
    go_cut [7, 8] (fun s7 s8 wr => s7 = .bool true ∧ s8 = .int .i64 0 ∧ Kp w wr [(B5, (.cells #[.int .i64 a1, .int .i64 a2, .int .i64 a3] 23 (0, 0))), (w.heap.size + 1, (.cells #[.int .i64 a, .int .i64 b, .int .i64 c] 23 (0, 0))), (w.heap.size, (.cells #[.int .i64 x, .int .i64 y, .int .i64 z] 23 (0, 0)))])
    case first =>
      obtain ⟨g0, g1, g2⟩ := cells3 (K4.out.2 _ (.head _))
      obtain ⟨d0, d1, d2⟩ := cells3 (K4.out.2 _ (.tail _ (.tail _ (.head _))))
      go_wp2_with (first
        | (go_at_call 20; (with_reducible refine (KS.out _).mono ?_); rintro e w91 ⟨rfl, hb91⟩; have K91 := Lib.hid (K4.out.call hb91)))
      go_meet
      exact ⟨rfl, rfl, K91.out⟩
    case rest =>
      rename_i hK
      obtain ⟨rfl, rfl, hk⟩ := hcut
      refine hK _ _ ?_
      clear hK
      have K5 := Lib.hid hk
      clear hk K4
      go_upto_region 5 with fail
      go_cut [9, 10] (fun s9 s10 wr => ∃ B9 : Nat, s9 = .pointer (some ⟨B9, 0, none⟩) ∧ s10 = .int .i64 0 ∧ Kp w wr [(B9, (.cells #[.int .i64 a1, .int .i64 a2, .int .i64 a3] 23 (0, 0))), (B5, (.cells #[.int .i64 a1, .int .i64 a2, .int .i64 a3] 23 (0, 0))), (w.heap.size + 1, (.cells #[.int .i64 a, .int .i64 b, .int .i64 c] 23 (0, 0))), (w.heap.size, (.cells #[.int .i64 x, .int .i64 y, .int .i64 z] 23 (0, 0)))])
      case first =>
        obtain ⟨g0, g1, g2⟩ := cells3 (K5.out.2 _ (.head _))
        go_wp2_with (first
          | (go_at_call 19; (with_reducible refine (KB.out _).mono ?_); rintro e w91 ⟨rfl, hb91⟩; have K91 := Lib.hid (K5.out.call hb91)))
        go_meet
        exact ⟨_, rfl, rfl, K91.out.alloc _⟩
      case rest =>
        rename_i hK
        obtain ⟨B9, rfl, rfl, hk⟩ := hcut
        refine hK _ _ ?_
        clear hK
        have K6 := Lib.hid hk
        clear hk K5
        go_upto_region 6 with fail
        go_cut [11, 12] (fun s11 s12 wr => ∃ B11 : Nat, s11 = .pointer (some ⟨B11, 0, none⟩) ∧ s12 = .int .i64 0 ∧ Kp w wr [(B11, (.cells #[.int .i64 a1, .int .i64 a2, .int .i64 a3] 23 (0, 0))), (B9, (.cells #[.int .i64 a1, .int .i64 a2, .int .i64 a3] 23 (0, 0))), (B5, (.cells #[.int .i64 a1, .int .i64 a2, .int .i64 a3] 23 (0, 0))), (w.heap.size + 1, (.cells #[.int .i64 a, .int .i64 b, .int .i64 c] 23 (0, 0))), (w.heap.size, (.cells #[.int .i64 x, .int .i64 y, .int .i64 z] 23 (0, 0)))])
        case first =>
          obtain ⟨d0, d1, d2⟩ := cells3 (K6.out.2 _ (.tail _ (.tail _ (.tail _ (.head _)))))
          go_wp2_with (first
            | (go_at_call 21; (with_reducible refine (KD.out _).mono ?_); rintro e w91 ⟨rfl, hb91⟩; have K91 := Lib.hid (K6.out.call hb91)))
          go_meet
          exact ⟨_, rfl, rfl, K91.out.alloc _⟩
        case rest =>
          rename_i hK
          obtain ⟨B11, rfl, rfl, hk⟩ := hcut
          refine hK _ _ ?_
          clear hK
          have K7 := Lib.hid hk
          clear hk K6
          unfold STw7 at hT
          exact hT _ _ _ _ _ _ _ _ _ _ _ _ _ _ _ _ _ _ _ _ _ _ _ _ _ _ _ _ _ _ _ _ _ _ _ _ _ _ _ _ _ _ _ _ _ _ _ _ _ _ _ _ _ _ _ _ _ _ _ _ _ _ _ _ _ _ _ _ _ _ _ _ _ _ _ _ _ _ _ _ _ _ _ _ _ _ _ _ _ _ _ _ _ _ _ _ _ _ _ _ _ _ _ _ _ _ _ _ _ _ _ _ _ _ _ _ _ _ _ _ _ _ _ _ _ _ _ _ _ _ _ _ _ _ _ _ _ _ _ _ _ _ _ _ _ _ _ _ _ _ _ _ _ _ _ _ _ _ _ _ _ _ _ _ _ _ _ _ _ _ _ _ _ _ _ _ _ _ _ (K7.out)
end Go.Proofs.YtpflbkgmgfhhnaaGreatDoor

/-
  The walk of SunTwice: region 7.
-/
namespace Go.Proofs.YtpflbkgmgfhhnaaGreatDoor
open Go.RowKit
set_option linter.unusedVariables false
set_option linter.unusedSimpArgs false
set_option maxRecDepth 1000000 in
set_option maxHeartbeats 12800000 in
theorem tw7 (w : World) (x y z a b c a1 a2 a3 g : Int)
    (KC : Hid (∀ w1 : World, Calls Tryz.prog 11 #[.agg #[.int .i64 a1, .int .i64 a2, .int .i64 a3]] w1 fun e w' => e = .returned (.int .i64 0) ∧ Below w1.heap.size w1 w'))
    (KV1 : Hid (∀ w1 : World, Calls Tryz.prog 22 #[.int .i64 a1, .int .i64 a2] w1 fun e w' => e = .returned (.int .i64 g) ∧ w1 = w'))
    (KV2 : Hid (∀ w1 : World, Calls Tryz.prog 22 #[.int .i64 g, .int .i64 a3] w1 fun e w' => e = .returned (.int .i64 1) ∧ w1 = w'))
    (hT : STw9 w x y z a b c a1 a2 a3) : STw7 w x y z a b c a1 a2 a3 := by
  unfold STw7
  intro wx Bd Bn B5 B9 B11 u0 u1 u13 u14 u15 u16 u17 u18 u19 u20 u21 u22 u23 u24 u25 u26 u27 u28 u29 u30 u31 u32 u33 u34 u35 u36 u37 u38 u39 u40 u41 u42 u43 u44 u45 u46 u47 u48 u49 u50 u51 u52 u53 u54 u55 u56 u57 u58 u59 u60 u61 u62 u63 u64 u65 u66 u67 u68 u69 u70 u71 u72 u73 u74 u75 u76 u77 u78 u79 u80 u81 u82 u83 u84 u85 u86 u87 u88 u89 u90 u91 u92 u93 u94 u95 u96 u97 u98 u99 u100 u101 u102 u103 u104 u105 u106 u107 u108 u109 u110 u111 u112 u113 u114 u115 u116 u117 u118 u119 u120 u121 u122 u123 u124 u125 u126 u127 u128 u129 u130 u131 u132 u133 u134 u135 u136 u137 u138 u139 u140 u141 u142 u143 u144 u145 u146 u147 u148 u149 u150 u151 u152 u153 u154 u155 u156 u157 u158 u159 u160 u161 u162 u163 u164 u165 u166 u167 u168 u169 u170 u171 u172 u173 u174 u175 u176 u177 u178 u179 u180 u181 u182 u183 hk
  have K0 := Lib.hid hk
  clear hk
  conv => arg 2; whnf
  dsimp only
  go_upto_region 7 with fail
  go_cut [97] (fun s97 wr => s97 = .bool false ∧ Kp w wr [(B5, (.cells #[.int .i64 a1, .int .i64 a2, .int .i64 a3] 23 (0, 0))), (Bn, (.cells #[.int .i64 a, .int .i64 b, .int .i64 c] 23 (0, 0))), (Bd, (.cells #[.int .i64 x, .int .i64 y, .int .i64 z] 23 (0, 0)))])
  case first =>
    apply wp_region_yields (aF := ⟨#[u0, u1, .pointer (some ⟨Bd, 0, none⟩), .pointer (some ⟨Bn, 0, none⟩), .bool false, .pointer (some ⟨B5, 0, none⟩), .int .i64 0, .bool true, .int .i64 0, .pointer (some ⟨B9, 0, none⟩), .int .i64 0, .pointer (some ⟨B11, 0, none⟩), .int .i64 0, u13, u14, u15, u16, u17, u18, u19, u20, u21, u22, u23, u24, u25, u26, u27, u28, u29, u30, u31, u32, u33, u34, u35, u36, u37, u38, u39, u40, u41, u42, u43, u44, u45, u46, u47, u48, u49, u50, u51, u52, u53, .int .i64 0, .bool false, .bool false, .int .i64 0, .bool false, .bool false, .bool false, .int .i64 0, .bool false, .bool false, .bool false, .int .i64 0, .bool false, .bool false, .bool false, .bool true, .bool false, .bool false, .bool false, .agg #[.int .i64 a1, .int .i64 a2, .int .i64 a3], .agg #[.int .i64 a1, .int .i64 a2, .int .i64 a3], .bool false, .bool false, .bool false, .agg #[.int .i64 a1, .int .i64 a2, .int .i64 a3], .agg #[.int .i64 a1, .int .i64 a2, .int .i64 a3], .bool false, .bool false, .bool false, .agg #[.int .i64 a1, .int .i64 a2, .int .i64 a3], .int .i64 0, .bool false, .bool false, .bool false, .pointer (some ⟨B5, 0, none⟩), .int .i64 a1, .pointer (some ⟨B5, 1, none⟩), .int .i64 a2, .int .i64 g, .pointer (some ⟨B5, 2, none⟩), .int .i64 a3, .int .i64 1, .bool false, u97, u98, u99, u100, u101, u102, u103, u104, u105, u106, u107, u108, u109, u110, u111, u112, u113, u114, u115, u116, u117, u118, u119, u120, u121, u122, u123, u124, u125, u126, u127, u128, u129, u130, u131, u132, u133, u134, u135, u136, u137, u138, u139, u140, u141, u142, u143, u144, u145, u146, u147, u148, u149, u150, u151, u152, u153, u154, u155, u156, u157, u158, u159, u160, u161, u162, u163, u164, u165, u166, u167, u168, u169, u170, u171, u172, u173, u174, u175, u176, u177, u178, u179, u180, u181, u182, u183], []⟩) 43 (fun w' => Blw wx.heap.size wx w') [.int .i64 0, .bool false, .bool false, .int .i64 0, .bool false, .bool false, .bool false, .int .i64 0, .bool false, .bool false, .bool false, .int .i64 0, .bool false, .bool false, .bool false, .bool true, .bool false, .bool false, .bool false, .agg #[.int .i64 a1, .int .i64 a2, .int .i64 a3], .agg #[.int .i64 a1, .int .i64 a2, .int .i64 a3], .bool false, .bool false, .bool false, .agg #[.int .i64 a1, .int .i64 a2, .int .i64 a3], .agg #[.int .i64 a1, .int .i64 a2, .int .i64 a3], .bool false, .bool false, .bool false, .agg #[.int .i64 a1, .int .i64 a2, .int .i64 a3], .int .i64 0, .bool false, .bool false, .bool false, .pointer (some ⟨B5, 0, none⟩), .int .i64 a1, .pointer (some ⟨B5, 1, none⟩), .int .i64 a2, .int .i64 g, .pointer (some ⟨B5, 2, none⟩), .int .i64 a3, .int .i64 1, .bool false] (by kernel_rfl) (by kernel_rfl) (show Below _ _ _ from (Below.refl _ _).drew)
    case haF => kernel_rfl
    case h =>
      have hBe := K0.out.2 _ (.head _)
      have hBh := K0.out.2 _ (.tail _ (.head _))
      have hBk := K0.out.2 _ (.tail _ (.tail _ (.head _)))
      simp only [List.take_succ_cons, List.take_zero, YieldsL]
      refine ⟨.no rfl ?_, .no rfl ?_, .no rfl ?_, .yes rfl rfl ?_, .yes rfl rfl ?_, .no rfl ?_, .no rfl ?_, .yes rfl rfl ?_, .yes rfl rfl ?_, .no rfl ?_, .no rfl ?_, .yes rfl rfl ?_, .yes rfl rfl ?_, .no rfl ?_, .no rfl ?_, .yes rfl rfl ?_, .yes rfl rfl ?_, .no rfl ?_, .no rfl ?_, .yes rfl rfl ?_, .yes rfl rfl ?_, .yes rfl rfl ?_, .no rfl ?_, .no rfl ?_, .yes rfl rfl ?_, .yes rfl rfl ?_, .yes rfl rfl ?_, .no rfl ?_, .no rfl ?_, .yes rfl rfl ?_, .yes rfl rfl ?_, .yes rfl rfl ?_, .no rfl ?_, .no rfl ?_, .yes rfl rfl ?_, .yes rfl rfl ?_, .yes rfl rfl ?_, .yes rfl rfl ?_, .yes rfl rfl ?_, .yes rfl rfl ?_, .yes rfl rfl ?_, .yes rfl rfl ?_, .yes rfl rfl ?_, trivial⟩
      all_goals
        intro w1 hw1
        obtain ⟨e_0, e_1, e_2⟩ := cells3 (((show Below _ _ _ from hw1).block _ (lt_of_blk hBe)).trans hBe)
        obtain ⟨h_0, h_1, h_2⟩ := cells3 (((show Below _ _ _ from hw1).block _ (lt_of_blk hBh)).trans hBh)
        obtain ⟨k_0, k_1, k_2⟩ := cells3 (((show Below _ _ _ from hw1).block _ (lt_of_blk hBk)).trans hBk)
        unfold Oper.wp
        simp only [execOp]
        go_simp <;> first
          | exact ⟨rfl, hw1⟩
          | ((with_reducible refine (KC.out _).mono ?_); rintro e w2 ⟨rfl, hb⟩; exact ⟨rfl, below_call hb hw1⟩)
          | ((with_reducible refine (KV1.out _).mono ?_); rintro e w2 ⟨rfl, rfl⟩; exact ⟨rfl, hw1⟩)
          | ((with_reducible refine (KV2.out _).mono ?_); rintro e w2 ⟨rfl, rfl⟩; exact ⟨rfl, hw1⟩)
    case ht =>
      intro w5 hw5
      have K5 := K0.out.call (show Below _ _ _ from hw5)
      simp only [List.drop_succ_cons, List.drop_zero]
      go_wp2_with fail
      go_meet
      exact ⟨rfl, K5.subs fun p hp => .tail _ (.tail _ hp)⟩
  case rest =>
    rename_i q1 hq1 q0 hq
    obtain ⟨rfl, hb⟩ := hcut
    refine hq _ _ ?_
    clear hq
    have HK1 := Lib.hid hq1
    clear hq1
    go_wp2_with fail
    refine HK1.out _ _ ?_
    unfold STw9 at hT
    exact hT _ _ _ _ _ _ _ _ _ _ _ _ _ _ _ _ _ _ _ _ _ _ _ _ _ _ _ _ _ _ _ _ _ _ _ _ _ _ _ _ _ _ _ _ _ _ _ _ _ _ _ _ _ _ _ _ _ _ _ _ _ _ _ _ _ _ _ _ _ _ _ _ _ _ _ _ _ _ _ _ _ _ _ _ _ _ _ _ _ _ _ _ _ _ _ _ _ _ _ _ _ _ _ _ _ _ _ _ _ _ _ _ _ _ _ _ _ _ _ _ _ _ _ _ _ _ _ _ _ _ _ _ _ _ _ _ _ _ _ _ _ _ _ _ _ _ _ _ _ _ _ _ _ _ _ _ _ _ _ _ _ _ _ _ _ _ _ _ _ _ _ _ _ _ _ _ _ _ _ _ _ _ _ _ (hb)
end Go.Proofs.YtpflbkgmgfhhnaaGreatDoor
