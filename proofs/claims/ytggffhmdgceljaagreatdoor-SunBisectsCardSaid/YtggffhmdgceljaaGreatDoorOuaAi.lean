/-
  The walk of chapter 2's awake: regions 5 to 8.
-/
import Derived.Test.YtggffhmdgceljaaGreatDoorRows
import Derived.WalkKit
import Derived.WalkSpells
import Derived.WalkLawsBesides
import Derived.Lib.Hide
import Derived.BigQuiet
import Derived.Deep.QuietTactic
import Derived.Handy
import Derived.Deep.RegionHeld3
import Derived.Deep.RegionWith
import Derived.StillTailTactics
import Derived.RangeFuncNested
import Derived.RangeFuncBound
import Derived.RangeFuncCalls
import Derived.RangeFuncLeaves
import Derived.RangeFuncBox
import Derived.Shelf.Abstract
import Derived.Shelf.RegionOpen
import Derived.OwnWalkIn
import Derived.TacticsInMore
import Derived.LoopNIn
import Derived.LoopIn
import Derived.Maps.AppendAt
import Derived.Test.YtggffhmdgceljaaGreatDoorProg
import Derived.Laws.FloatArith
import Derived.Laws.BitsAllLaws
import Derived.Deep.DeepCutAuto
import Derived.Stop.BytesEq
import Derived.Deep.MidRow
import Derived.Laws.CopyRow
import Derived.WalkMore
import Derived.Deep.DrawnRows
import Derived.Deep.CutBlock
import Derived.Orders
import Derived.LoopTactic
import Derived.Laws.StructEq
import Derived.Deep.RegionLaw
import Derived.RegionTactic
import Derived.StillTail
import Derived.Laws.RangeString
import Derived.Laws.RangeAny
import Derived.Shelf.Strings.Builder1
import Derived.Shelf.Strings.OnBuilder
import Derived.Shelf.LaysM
import Derived.Shelf.Strconv.Itoa3
import Derived.Lib.AppendIntMem
import Derived.Lib.ItoaLen
import Derived.RowKit
import Derived.Test.YtggffhmdgceljaaGreatDoorOuaWn
import Derived.Test.YtggffhmdgceljaaGreatDoorOuaXe
import Derived.Test.YtggffhmdgceljaaGreatDoorOuaIb
import Derived.Test.YtggffhmdgceljaaGreatDoorOuaId
import Derived.Test.YtggffhmdgceljaaGreatDoorOuaNi
import Derived.Test.YtggffhmdgceljaaGreatDoorOuaNv
import Derived.Test.YtggffhmdgceljaaGreatDoorOuaWo
import Derived.Test.YtggffhmdgceljaaGreatDoorOuaNo
import Derived.Test.YtggffhmdgceljaaGreatDoorOuaNy
import Derived.Test.YtggffhmdgceljaaGreatDoorOuaAb
import Derived.Test.YtggffhmdgceljaaGreatDoorOuaAc
import Derived.Test.YtggffhmdgceljaaGreatDoorOuaAf
import Derived.Test.YtggffhmdgceljaaGreatDoorOuaAh
import Derived.Test.YtggffhmdgceljaaGreatDoorCards
import Derived.Test.YtggffhmdgceljaaGreatDoorTie
import Derived.ProofKit
import Derived.OpenShut
import Derived.Lib.SmallJoins
import Derived.Laws.Cover2
import Derived.Carry
import Derived.SizedLaws
import Derived.Deep.Slices
import Derived.Deep.DeepHandedRow
import Derived.Lib.LaidTab
import Derived.Lay
import Derived.Test.YtggffhmdgceljaaGreatDoorOuaAj
import Derived.Test.YtggffhmdgceljaaGreatDoorOuaAr
import Derived.Test.YtggffhmdgceljaaGreatDoorOuaIx
import Derived.Test.YtggffhmdgceljaaGreatDoorOuaWi
namespace Go.Proofs.YtggffhmdgceljaaGreatDoor
open Go.RowKit
set_option linter.unusedVariables false
set_option linter.unusedSimpArgs false

set_option maxRecDepth 1000000 in
set_option maxHeartbeats 12800000 in
theorem sawk5 (w : World) (hX : AxesIn w) (ht : TabAt w) (hT : SAwk6 w) : SAwk5 w := by
  unfold SAwk5
  intro wx B1 B7 u9 u10 u11 u12 u13 u14 u15 u16 u17 u18 u19 u20 u21 u22 u23 u24 u25 u26 u27 u28 u29 u30 u31 u32 u33 u34 u35 u36 u37 u38 u39 u40 u41 u42 u43 u44 u45 u46 u47 u48 u49 u50 u51 u52 u53 u54 u55 u56 u57 u58 u59 u60 u61 u62 u63 u64 u65 u66 u67 u68 u69 u70 u71 u72 u73 u74 u75 u76 u77 u78 u79 u80 u81 u82 u83 u84 u85 u86 u87 u88 u89 u90 u91 u92 u93 u94 u95 u96 u97 u98 u99 u100 u101 u102 u103 u104 u105 u106 u107 u108 u109 u110 u111 u112 u113 u114 u115 u116 u117 u118 u119 u120 u121 u122 u123 u124 u125 u126 u127 u128 u129 u130 u131 u132 u133 u134 u135 u136 u137 u138 u139 u140 u141 u142 u143 u144 u145 u146 u147 u148 u149 u150 u151 u152 u153 u154 u155 u156 u157 u158 u159 u160 u161 u162 u163 u164 u165 u166 u167 u168 u169 u170 u171 u172 u173 u174 u175 u176 u177 u178 u179 u180 u181 u182 u183 u184 u185 u186 u187 u188 u189 u190 u191 u192 u193 u194 u195 u196 u197 u198 u199 u200 u201 u202 u203 u204 u205 u206 u207 u208 u209 u210 u211 u212 u213 u214 u215 u216 u217 u218 u219 u220 u221 u222 u223 u224 u225 u226 u227 u228 u229 u230 u231 u232 u233 u234 u235 u236 u237 u238 u239 u240 u241 u242 u243 u244 u245 u246 u247 u248 u249 u250 u251 u252 u253 u254 u255 u256 u257 u258 u259 u260 u261 u262 u263 u264 u265 u266 u267 u268 u269 u270 u271 u272 u273 u274 u275 u276 u277 u278 u279 u280 u281 u282 u283 u284 u285 u286 u287 u288 u289 u290 u291 u292 u293 u294 u295 u296 u297 u298 u299 u300 u301 u302 u303 u304 u305 u306 u307 u308 u309 u310 u311 u312 u313 u314 u315 u316 u317 u318 u319 u320 u321 u322 hB f1 f7
  conv => arg 2; whnf
  dsimp only
  go_upto_region 5 with fail
  go_cut [9, 10] (fun s9 s10 wr => (∃ B, s9 = .pointer (some ⟨B, 0, none⟩) ∧ wr.heap[B]? = some (.cells #[.int .i64 2, .int .i64 1, .int .i64 5] 23 (0, 0))) ∧ s10 = .int .i64 0 ∧ Below wx.heap.size wx wr)
  case first =>
    have KV : Hid (∀ (x y z : Int) (w1 : World), Calls Tryz.prog 55 #[.int .i64 x, .int .i64 y, .int .i64 z] w1 fun e w' => e = .returned (.agg #[.int .i64 x, .int .i64 y, .int .i64 z]) ∧ Below w1.heap.size w1 w') := Lib.hid vec_any
    go_wp2_with (first
      | (go_at_call 55; (with_reducible refine (KV.out (0) (0) (1) _).mono ?_); rintro e w1 ⟨rfl, hb1⟩)
      | (go_at_call 55; (with_reducible refine (KV.out (2) (1) (2) _).mono ?_); rintro e w2 ⟨rfl, hb2⟩)
      | (go_at_call 21; (with_reducible refine (ex_normal _).mono ?_); rintro e w3 ⟨rfl, hb3⟩))
    go_meet
    have hc := ((hb1.trans (hb2.mono hb1.size)).trans (hb3.mono (hb1.trans (hb2.mono hb1.size)).size))
    exact ⟨⟨_, rfl, World.alloc_heap_new _ _⟩, rfl, hc.alloc hc.size _⟩
  case rest =>
    rename_i hK
    obtain ⟨⟨Bn, rfl, hbx⟩, rfl, hb⟩ := hcut
    refine hK _ _ ?_
    clear hK
    unfold SAwk6 at hT
    exact hT _ B1 B7 _ _ _ _ _ _ _ _ _ _ _ _ _ _ _ _ _ _ _ _ _ _ _ _ _ _ _ _ _ _ _ _ _ _ _ _ _ _ _ _ _ _ _ _ _ _ _ _ _ _ _ _ _ _ _ _ _ _ _ _ _ _ _ _ _ _ _ _ _ _ _ _ _ _ _ _ _ _ _ _ _ _ _ _ _ _ _ _ _ _ _ _ _ _ _ _ _ _ _ _ _ _ _ _ _ _ _ _ _ _ _ _ _ _ _ _ _ _ _ _ _ _ _ _ _ _ _ _ _ _ _ _ _ _ _ _ _ _ _ _ _ _ _ _ _ _ _ _ _ _ _ _ _ _ _ _ _ _ _ _ _ _ _ _ _ _ _ _ _ _ _ _ _ _ _ _ _ _ _ _ _ _ _ _ _ _ _ _ _ _ _ _ _ _ _ _ _ _ _ _ _ _ _ _ _ _ _ _ _ _ _ _ _ _ _ _ _ _ _ _ _ _ _ _ _ _ _ _ _ _ _ _ _ _ _ _ _ _ _ _ _ _ _ _ _ _ _ _ _ _ _ _ _ _ _ _ _ _ _ _ _ _ _ _ _ _ _ _ _ _ _ _ _ _ _ _ _ _ _ _ _ _ _ _ _ _ _ _ _ _ _ _ _ _ _ _ _ _ _ _ _ _ _ _ _ _ _ _ _ _ _ _ _ (hB.trans (hb.mono hB.size)) ((hb.block _ (lt_of_blk f1)).trans f1) ((hb.block _ (lt_of_blk f7)).trans f7) hbx

set_option maxRecDepth 1000000 in
set_option maxHeartbeats 12800000 in
theorem sawk6 (w : World) (hX : AxesIn w) (ht : TabAt w) (hT : SAwk7 w) : SAwk6 w := by
  unfold SAwk6
  intro wx B1 B7 B9 u11 u12 u13 u14 u15 u16 u17 u18 u19 u20 u21 u22 u23 u24 u25 u26 u27 u28 u29 u30 u31 u32 u33 u34 u35 u36 u37 u38 u39 u40 u41 u42 u43 u44 u45 u46 u47 u48 u49 u50 u51 u52 u53 u54 u55 u56 u57 u58 u59 u60 u61 u62 u63 u64 u65 u66 u67 u68 u69 u70 u71 u72 u73 u74 u75 u76 u77 u78 u79 u80 u81 u82 u83 u84 u85 u86 u87 u88 u89 u90 u91 u92 u93 u94 u95 u96 u97 u98 u99 u100 u101 u102 u103 u104 u105 u106 u107 u108 u109 u110 u111 u112 u113 u114 u115 u116 u117 u118 u119 u120 u121 u122 u123 u124 u125 u126 u127 u128 u129 u130 u131 u132 u133 u134 u135 u136 u137 u138 u139 u140 u141 u142 u143 u144 u145 u146 u147 u148 u149 u150 u151 u152 u153 u154 u155 u156 u157 u158 u159 u160 u161 u162 u163 u164 u165 u166 u167 u168 u169 u170 u171 u172 u173 u174 u175 u176 u177 u178 u179 u180 u181 u182 u183 u184 u185 u186 u187 u188 u189 u190 u191 u192 u193 u194 u195 u196 u197 u198 u199 u200 u201 u202 u203 u204 u205 u206 u207 u208 u209 u210 u211 u212 u213 u214 u215 u216 u217 u218 u219 u220 u221 u222 u223 u224 u225 u226 u227 u228 u229 u230 u231 u232 u233 u234 u235 u236 u237 u238 u239 u240 u241 u242 u243 u244 u245 u246 u247 u248 u249 u250 u251 u252 u253 u254 u255 u256 u257 u258 u259 u260 u261 u262 u263 u264 u265 u266 u267 u268 u269 u270 u271 u272 u273 u274 u275 u276 u277 u278 u279 u280 u281 u282 u283 u284 u285 u286 u287 u288 u289 u290 u291 u292 u293 u294 u295 u296 u297 u298 u299 u300 u301 u302 u303 u304 u305 u306 u307 u308 u309 u310 u311 u312 u313 u314 u315 u316 u317 u318 u319 u320 u321 u322 hB f1 f7 f9
  conv => arg 2; whnf
  dsimp only
  go_upto_region 6 with fail
  go_cut [11, 12] (fun s11 s12 wr => (∃ B, s11 = .pointer (some ⟨B, 0, none⟩) ∧ wr.heap[B]? = some (.cells #[.int .i64 2, .int .i64 1, .int .i64 2] 23 (0, 0))) ∧ s12 = .int .i64 0 ∧ Below wx.heap.size wx wr)
  case first =>
    have KV : Hid (∀ (x y z : Int) (w1 : World), Calls Tryz.prog 55 #[.int .i64 x, .int .i64 y, .int .i64 z] w1 fun e w' => e = .returned (.agg #[.int .i64 x, .int .i64 y, .int .i64 z]) ∧ Below w1.heap.size w1 w') := Lib.hid vec_any
    go_wp2_with (first
      | (go_at_call 55; (with_reducible refine (KV.out (0) (0) (1) _).mono ?_); rintro e w1 ⟨rfl, hb1⟩)
      | (go_at_call 55; (with_reducible refine (KV.out (2) (1) (5) _).mono ?_); rintro e w2 ⟨rfl, hb2⟩)
      | (go_at_call 24; (with_reducible refine (ex_reflected _).mono ?_); rintro e w3 ⟨rfl, hb3⟩))
    go_meet
    have hc := ((hb1.trans (hb2.mono hb1.size)).trans (hb3.mono (hb1.trans (hb2.mono hb1.size)).size))
    exact ⟨⟨_, rfl, World.alloc_heap_new _ _⟩, rfl, hc.alloc hc.size _⟩
  case rest =>
    rename_i hK
    obtain ⟨⟨Bn, rfl, hbx⟩, rfl, hb⟩ := hcut
    refine hK _ _ ?_
    clear hK
    unfold SAwk7 at hT
    exact hT _ B1 B7 B9 _ _ _ _ _ _ _ _ _ _ _ _ _ _ _ _ _ _ _ _ _ _ _ _ _ _ _ _ _ _ _ _ _ _ _ _ _ _ _ _ _ _ _ _ _ _ _ _ _ _ _ _ _ _ _ _ _ _ _ _ _ _ _ _ _ _ _ _ _ _ _ _ _ _ _ _ _ _ _ _ _ _ _ _ _ _ _ _ _ _ _ _ _ _ _ _ _ _ _ _ _ _ _ _ _ _ _ _ _ _ _ _ _ _ _ _ _ _ _ _ _ _ _ _ _ _ _ _ _ _ _ _ _ _ _ _ _ _ _ _ _ _ _ _ _ _ _ _ _ _ _ _ _ _ _ _ _ _ _ _ _ _ _ _ _ _ _ _ _ _ _ _ _ _ _ _ _ _ _ _ _ _ _ _ _ _ _ _ _ _ _ _ _ _ _ _ _ _ _ _ _ _ _ _ _ _ _ _ _ _ _ _ _ _ _ _ _ _ _ _ _ _ _ _ _ _ _ _ _ _ _ _ _ _ _ _ _ _ _ _ _ _ _ _ _ _ _ _ _ _ _ _ _ _ _ _ _ _ _ _ _ _ _ _ _ _ _ _ _ _ _ _ _ _ _ _ _ _ _ _ _ _ _ _ _ _ _ _ _ _ _ _ _ _ _ _ _ _ _ _ _ _ _ _ _ _ _ _ _ _ _ (hB.trans (hb.mono hB.size)) ((hb.block _ (lt_of_blk f1)).trans f1) ((hb.block _ (lt_of_blk f7)).trans f7) ((hb.block _ (lt_of_blk f9)).trans f9) hbx

set_option maxRecDepth 1000000 in
set_option maxHeartbeats 12800000 in
theorem sawk7 (w : World) (hX : AxesIn w) (ht : TabAt w) (hT : SAwk8 w) : SAwk7 w := by
  unfold SAwk7
  intro wx B1 B7 B9 B11 u13 u14 u15 u16 u17 u18 u19 u20 u21 u22 u23 u24 u25 u26 u27 u28 u29 u30 u31 u32 u33 u34 u35 u36 u37 u38 u39 u40 u41 u42 u43 u44 u45 u46 u47 u48 u49 u50 u51 u52 u53 u54 u55 u56 u57 u58 u59 u60 u61 u62 u63 u64 u65 u66 u67 u68 u69 u70 u71 u72 u73 u74 u75 u76 u77 u78 u79 u80 u81 u82 u83 u84 u85 u86 u87 u88 u89 u90 u91 u92 u93 u94 u95 u96 u97 u98 u99 u100 u101 u102 u103 u104 u105 u106 u107 u108 u109 u110 u111 u112 u113 u114 u115 u116 u117 u118 u119 u120 u121 u122 u123 u124 u125 u126 u127 u128 u129 u130 u131 u132 u133 u134 u135 u136 u137 u138 u139 u140 u141 u142 u143 u144 u145 u146 u147 u148 u149 u150 u151 u152 u153 u154 u155 u156 u157 u158 u159 u160 u161 u162 u163 u164 u165 u166 u167 u168 u169 u170 u171 u172 u173 u174 u175 u176 u177 u178 u179 u180 u181 u182 u183 u184 u185 u186 u187 u188 u189 u190 u191 u192 u193 u194 u195 u196 u197 u198 u199 u200 u201 u202 u203 u204 u205 u206 u207 u208 u209 u210 u211 u212 u213 u214 u215 u216 u217 u218 u219 u220 u221 u222 u223 u224 u225 u226 u227 u228 u229 u230 u231 u232 u233 u234 u235 u236 u237 u238 u239 u240 u241 u242 u243 u244 u245 u246 u247 u248 u249 u250 u251 u252 u253 u254 u255 u256 u257 u258 u259 u260 u261 u262 u263 u264 u265 u266 u267 u268 u269 u270 u271 u272 u273 u274 u275 u276 u277 u278 u279 u280 u281 u282 u283 u284 u285 u286 u287 u288 u289 u290 u291 u292 u293 u294 u295 u296 u297 u298 u299 u300 u301 u302 u303 u304 u305 u306 u307 u308 u309 u310 u311 u312 u313 u314 u315 u316 u317 u318 u319 u320 u321 u322 hB f1 f7 f9 f11
  conv => arg 2; whnf
  dsimp only
  go_upto_region 7 with fail
  go_cut [13, 14, 15] (fun s13 s14 s15 wr => s13 = .int .i64 1 ∧ (∃ B, s14 = .pointer (some ⟨B, 0, none⟩) ∧ wr.heap[B]? = some (.cells #[.int .i64 64, .int .i64 81] 56 (0, 0))) ∧ s15 = .int .i64 0 ∧ Below wx.heap.size wx wr)
  case first =>
    have KV : Hid (∀ (x y z : Int) (w1 : World), Calls Tryz.prog 55 #[.int .i64 x, .int .i64 y, .int .i64 z] w1 fun e w' => e = .returned (.agg #[.int .i64 x, .int .i64 y, .int .i64 z]) ∧ Below w1.heap.size w1 w') := Lib.hid vec_any
    go_wp2_with (first
      | (go_at_call 55; (with_reducible refine (KV.out (1) (2) (2) _).mono ?_); rintro e w1 ⟨rfl, hb1⟩)
      | (go_at_call 55; (with_reducible refine (KV.out (2) (1) (2) _).mono ?_); rintro e w2 ⟨rfl, hb2⟩)
      | (go_at_call 25; (with_reducible refine (ex_cosine _).mono ?_); rintro e w3 ⟨rfl, hb3⟩))
    go_meet
    have hc := ((hb1.trans (hb2.mono hb1.size)).trans (hb3.mono (hb1.trans (hb2.mono hb1.size)).size))
    exact ⟨rfl, ⟨_, rfl, World.alloc_heap_new _ _⟩, rfl, hc.alloc hc.size _⟩
  case rest =>
    rename_i hK
    obtain ⟨rfl, ⟨Bn, rfl, hbx⟩, rfl, hb⟩ := hcut
    refine hK _ _ ?_
    clear hK
    unfold SAwk8 at hT
    exact hT _ B1 B7 B9 B11 _ _ _ _ _ _ _ _ _ _ _ _ _ _ _ _ _ _ _ _ _ _ _ _ _ _ _ _ _ _ _ _ _ _ _ _ _ _ _ _ _ _ _ _ _ _ _ _ _ _ _ _ _ _ _ _ _ _ _ _ _ _ _ _ _ _ _ _ _ _ _ _ _ _ _ _ _ _ _ _ _ _ _ _ _ _ _ _ _ _ _ _ _ _ _ _ _ _ _ _ _ _ _ _ _ _ _ _ _ _ _ _ _ _ _ _ _ _ _ _ _ _ _ _ _ _ _ _ _ _ _ _ _ _ _ _ _ _ _ _ _ _ _ _ _ _ _ _ _ _ _ _ _ _ _ _ _ _ _ _ _ _ _ _ _ _ _ _ _ _ _ _ _ _ _ _ _ _ _ _ _ _ _ _ _ _ _ _ _ _ _ _ _ _ _ _ _ _ _ _ _ _ _ _ _ _ _ _ _ _ _ _ _ _ _ _ _ _ _ _ _ _ _ _ _ _ _ _ _ _ _ _ _ _ _ _ _ _ _ _ _ _ _ _ _ _ _ _ _ _ _ _ _ _ _ _ _ _ _ _ _ _ _ _ _ _ _ _ _ _ _ _ _ _ _ _ _ _ _ _ _ _ _ _ _ _ _ _ _ _ _ _ _ _ _ _ _ _ _ _ _ _ _ _ _ _ _ _ (hB.trans (hb.mono hB.size)) ((hb.block _ (lt_of_blk f1)).trans f1) ((hb.block _ (lt_of_blk f7)).trans f7) ((hb.block _ (lt_of_blk f9)).trans f9) ((hb.block _ (lt_of_blk f11)).trans f11) hbx

set_option maxRecDepth 1000000 in
set_option maxHeartbeats 12800000 in
theorem sawk8 (w : World) (hX : AxesIn w) (ht : TabAt w) (hT : SAwk9 w) : SAwk8 w := by
  unfold SAwk8
  intro wx B1 B7 B9 B11 B14 u16 u17 u18 u19 u20 u21 u22 u23 u24 u25 u26 u27 u28 u29 u30 u31 u32 u33 u34 u35 u36 u37 u38 u39 u40 u41 u42 u43 u44 u45 u46 u47 u48 u49 u50 u51 u52 u53 u54 u55 u56 u57 u58 u59 u60 u61 u62 u63 u64 u65 u66 u67 u68 u69 u70 u71 u72 u73 u74 u75 u76 u77 u78 u79 u80 u81 u82 u83 u84 u85 u86 u87 u88 u89 u90 u91 u92 u93 u94 u95 u96 u97 u98 u99 u100 u101 u102 u103 u104 u105 u106 u107 u108 u109 u110 u111 u112 u113 u114 u115 u116 u117 u118 u119 u120 u121 u122 u123 u124 u125 u126 u127 u128 u129 u130 u131 u132 u133 u134 u135 u136 u137 u138 u139 u140 u141 u142 u143 u144 u145 u146 u147 u148 u149 u150 u151 u152 u153 u154 u155 u156 u157 u158 u159 u160 u161 u162 u163 u164 u165 u166 u167 u168 u169 u170 u171 u172 u173 u174 u175 u176 u177 u178 u179 u180 u181 u182 u183 u184 u185 u186 u187 u188 u189 u190 u191 u192 u193 u194 u195 u196 u197 u198 u199 u200 u201 u202 u203 u204 u205 u206 u207 u208 u209 u210 u211 u212 u213 u214 u215 u216 u217 u218 u219 u220 u221 u222 u223 u224 u225 u226 u227 u228 u229 u230 u231 u232 u233 u234 u235 u236 u237 u238 u239 u240 u241 u242 u243 u244 u245 u246 u247 u248 u249 u250 u251 u252 u253 u254 u255 u256 u257 u258 u259 u260 u261 u262 u263 u264 u265 u266 u267 u268 u269 u270 u271 u272 u273 u274 u275 u276 u277 u278 u279 u280 u281 u282 u283 u284 u285 u286 u287 u288 u289 u290 u291 u292 u293 u294 u295 u296 u297 u298 u299 u300 u301 u302 u303 u304 u305 u306 u307 u308 u309 u310 u311 u312 u313 u314 u315 u316 u317 u318 u319 u320 u321 u322 hB f1 f7 f9 f11 f14
  conv => arg 2; whnf
  dsimp only
  go_upto_region 8 with fail
  go_cut [16] (fun s16 wr => (∃ B, s16 = .pointer (some ⟨B, 0, none⟩) ∧ wr.heap[B]? = some (.cells #[.int .i64 0, .int .i64 0, .int .i64 1, .int .i64 1, .int .i64 2] 29 (0, 0))) ∧ Below wx.heap.size wx wr)
  case first =>
    have KV : Hid (∀ (x y z : Int) (w1 : World), Calls Tryz.prog 55 #[.int .i64 x, .int .i64 y, .int .i64 z] w1 fun e w' => e = .returned (.agg #[.int .i64 x, .int .i64 y, .int .i64 z]) ∧ Below w1.heap.size w1 w') := Lib.hid vec_any
    go_wp2_with (first
      | (go_at_call 55; (with_reducible refine (KV.out (0) (0) (1) _).mono ?_); rintro e w1 ⟨rfl, hb1⟩))
    go_meet
    exact ⟨⟨_, rfl, World.alloc_heap_new _ _⟩, hb1.alloc hb1.size _⟩
  case rest =>
    rename_i hK
    obtain ⟨⟨Bn, rfl, hbx⟩, hb⟩ := hcut
    refine hK _ _ ?_
    clear hK
    unfold SAwk9 at hT
    exact hT _ B1 B7 B9 B11 B14 _ _ _ _ _ _ _ _ _ _ _ _ _ _ _ _ _ _ _ _ _ _ _ _ _ _ _ _ _ _ _ _ _ _ _ _ _ _ _ _ _ _ _ _ _ _ _ _ _ _ _ _ _ _ _ _ _ _ _ _ _ _ _ _ _ _ _ _ _ _ _ _ _ _ _ _ _ _ _ _ _ _ _ _ _ _ _ _ _ _ _ _ _ _ _ _ _ _ _ _ _ _ _ _ _ _ _ _ _ _ _ _ _ _ _ _ _ _ _ _ _ _ _ _ _ _ _ _ _ _ _ _ _ _ _ _ _ _ _ _ _ _ _ _ _ _ _ _ _ _ _ _ _ _ _ _ _ _ _ _ _ _ _ _ _ _ _ _ _ _ _ _ _ _ _ _ _ _ _ _ _ _ _ _ _ _ _ _ _ _ _ _ _ _ _ _ _ _ _ _ _ _ _ _ _ _ _ _ _ _ _ _ _ _ _ _ _ _ _ _ _ _ _ _ _ _ _ _ _ _ _ _ _ _ _ _ _ _ _ _ _ _ _ _ _ _ _ _ _ _ _ _ _ _ _ _ _ _ _ _ _ _ _ _ _ _ _ _ _ _ _ _ _ _ _ _ _ _ _ _ _ _ _ _ _ _ _ _ _ _ _ _ _ _ _ _ _ _ _ _ _ _ _ _ _ _ _ (hB.trans (hb.mono hB.size)) ((hb.block _ (lt_of_blk f1)).trans f1) ((hb.block _ (lt_of_blk f7)).trans f7) ((hb.block _ (lt_of_blk f9)).trans f9) ((hb.block _ (lt_of_blk f11)).trans f11) ((hb.block _ (lt_of_blk f14)).trans f14) hbx

end Go.Proofs.YtggffhmdgceljaaGreatDoor

/-
  What the rows of chapter 2 share: arguments that come in, opened; the tables that the program reads; a world for the witness.
-/
namespace Go.Proofs.YtggffhmdgceljaaGreatDoor
open Go.ChangeShapes Go.WideShapes Go.ChangeAt Go.RowKit Go.Joins Go.Deep
set_option linter.unusedVariables false
set_option linter.unusedSimpArgs false
set_option maxRecDepth 100000

theorem ownKnobOff : ownKnob Tryz.prog.godebug = none := by kernel_rfl
theorem laidOut : laidOutB Tryz.prog = true := by kernel_rfl
theorem gTab : Tryz.prog.globalNamed "internal/strconv.uint64pow10" = some 2 := by kernel_rfl
theorem gTabType : (Tryz.prog.globals[2]?).map (·.type) = some 197 := by kernel_rfl
theorem cellsTab : Tryz.prog.cellsOf 197 = 20 := by kernel_rfl
theorem cellsU : Tryz.prog.cellsOf 191 = 1 := by kernel_rfl
theorem gAxes : Tryz.prog.globalNamed "spillage/sun.axes" = some 0 := by kernel_rfl
theorem gAxesType : (Tryz.prog.globals[0]?).map (·.type) = some 132 := by kernel_rfl
theorem cellsAxes : Tryz.prog.cellsOf 132 = 9 := by kernel_rfl
theorem cellsParts : Tryz.prog.cellsOf 94 = 3 := by kernel_rfl
theorem cellsInt1 : Tryz.prog.cellsOf 3 = 1 := by kernel_rfl
def laidSun : List (String × DataW Unit) := Rows.sunConesRow.laid
theorem tabAt_of {W : World} (h : laidMetH Tryz.prog laidSun W) : TabAt W := by
  have h2 := h.filter (fun x => x.1 == "internal/strconv.uint64pow10")
  have e : laidSun.filter (fun x => x.1 == "internal/strconv.uint64pow10") = [("internal/strconv.uint64pow10", Lib.tabData .u64 Lib.pow10Tab)] := by kernel_rfl
  rw [e] at h2
  exact Lib.tabIs_of_head (rest := []) gTab gTabType Tryz.underlying197 Tryz.underlying191 cellsU cellsTab h2

def litI {H : Type} (z : Int) : DataW H := .lit (.int .i64 z)
theorem axesIn_of {W : World} (h0 : laidMetH Tryz.prog laidSun W) : AxesIn W := by
  have h2 := h0.filter (fun x => x.1 == "spillage/sun.axes")
  have e : laidSun.filter (fun x => x.1 == "spillage/sun.axes") = [("spillage/sun.axes", .agg [.agg [litI 1, litI 0, litI 0], .agg [litI 0, litI 1, litI 0], .agg [litI 0, litI 0, litI 1]])] := by kernel_rfl
  rw [e] at h2
  obtain ⟨ps, ⟨g', t', cs, fuel, p, q, hg', ht', hvar, hd, _, _⟩, _⟩ := h2
  obtain rfl := Option.some.inj (gAxes.symm.trans hg')
  obtain rfl := Option.some.inj (gAxesType.symm.trans ht')
  obtain ⟨xs, m, _, hx, hlen, hl, hi⟩ := DataW.trod_array Tryz.underlying132 hd
  rw [cellsAxes] at hlen
  rw [cellsParts] at hi
  have hx1 := congrArg Prod.fst hx
  have key : ∀ (i : Nat) (a b c : Int), i < 3 → (xs.map (·.1))[i]? = some (.agg [litI a, litI b, litI c]) → cs[i * 3]? = some (.int .i64 a) ∧ cs[i * 3 + 1]? = some (.int .i64 b) ∧ cs[i * 3 + 2]? = some (.int .i64 c) := by
    intro i a b c hlt hc
    have h := hi i hlt
    obtain ⟨y, hy⟩ : ∃ y, xs[i]? = some y := ⟨_, List.getElem?_eq_getElem (by omega)⟩
    rw [hy] at h
    rw [List.getElem?_map, hy] at hc
    have hy1 : y.1 = .agg [litI a, litI b, litI c] := by simpa using hc
    obtain ⟨ys, k, _, ey, _, hl2, hj⟩ := DataW.trod_array Tryz.underlying94 h
    rw [cellsInt1] at hj
    obtain ⟨y0, y1, y2, rfl⟩ : ∃ y0 y1 y2, ys = [y0, y1, y2] := by
      match ys, hl2 with
      | [y0, y1, y2], _ => exact ⟨y0, y1, y2, rfl⟩
    have k0 := hj 0 (by omega)
    have k1 := hj 1 (by omega)
    have k2 := hj 2 (by omega)
    simp only [List.getElem?_cons_zero, List.getElem?_cons_succ] at k0 k1 k2
    obtain ⟨A, e0, f0, _⟩ := DataW.trod_int Tryz.underlying3 k0
    obtain ⟨B, e2, f1, _⟩ := DataW.trod_int Tryz.underlying3 k1
    obtain ⟨C, e3, f2, _⟩ := DataW.trod_int Tryz.underlying3 k2
    subst ey f0 f1 f2
    simp only [litI, DataW.agg.injEq, List.cons.injEq, DataW.lit.injEq, Lit.int.injEq, true_and, and_true] at hy1
    obtain ⟨rfl, rfl, rfl⟩ := hy1
    have g0 := congrArg (·[0]?) e0
    have g1 := congrArg (·[0]?) e2
    have g2 := congrArg (·[0]?) e3
    simp [List.getElem?_take, List.getElem?_drop] at g0 g1 g2
    refine ⟨?_, ?_, ?_⟩
    · simpa using g0
    · simpa using g1
    · simpa using g2
  have hx2 : xs.map (·.1) = [.agg [litI 1, litI 0, litI 0], .agg [litI 0, litI 1, litI 0], .agg [litI 0, litI 0, litI 1]] := by
    simpa using hx1.symm
  obtain ⟨a0, a1, a2⟩ := key 0 1 0 0 (by omega) (by rw [hx2]; rfl)
  obtain ⟨b0, b1, b2⟩ := key 1 0 1 0 (by omega) (by rw [hx2]; rfl)
  obtain ⟨c0, c1, c2⟩ := key 2 0 0 1 (by omega) (by rw [hx2]; rfl)
  have hc : ∀ k, k < 9 → W.cell? ⟨0, k, none⟩ = some (.int .i64 (([1, 0, 0, 0, 1, 0, 0, 0, 1] : List Int)[k]?.getD 0)) := by
    intro k hk
    rw [World.var?_cell gAxes hvar k]
    match k, hk with
    | 0, _ => simpa using a0
    | 1, _ => simpa using a1
    | 2, _ => simpa using a2
    | 3, _ => simpa using b0
    | 4, _ => simpa using b1
    | 5, _ => simpa using b2
    | 6, _ => simpa using c0
    | 7, _ => simpa using c1
    | 8, _ => simpa using c2
  exact ⟨hc, World.block_lt_of_cell? _ _ (hc 0 (by omega))⟩

/-- A world for the witness: the settled one, the listed variables holding what the list says. -/
noncomputable def laidWorld (os : Os) : World := World.laidAll Tryz.prog os laidSun
theorem laid_met (os : Os) (args : Array Value) : laidMet Tryz.prog laidSun ((laidWorld os).forCall (fun _ _ => 0) ⟨#[], args, []⟩).memory :=
  laidMet_laidAll args (by kernel_rfl) (by kernel_rfl)
end Go.Proofs.YtggffhmdgceljaaGreatDoor

/-
  The walk of SunBisects: what is left at region 10; its numbers.
-/
namespace Go.Proofs.YtggffhmdgceljaaGreatDoor
open Go.RowKit
set_option linter.unusedVariables false
set_option linter.unusedSimpArgs false
set_option maxRecDepth 1000000 in
/-- What is still to be shown where the walk stands ahead of region 10. -/
def SBs10 (w : World) (r0 r1 r2 r3 s0 s1 s2 s3 z y : Int) : Prop :=
  ∀ (wx : World) (B5 B6 : Nat) (u0 u1 u2 u3 u7 u8 u9 u10 u11 u12 u13 u14 u15 u16 u17 u18 u19 u20 u21 u22 u23 u24 u25 u26 u27 u28 u29 u30 u31 u32 u33 u34 u35 u36 u37 u38 u39 u40 u41 u42 u43 u44 u45 u46 u47 u48 u49 u50 u51 u52 u53 u54 u55 u56 u57 u58 u59 u60 u61 u62 u63 u64 u65 u66 u67 u68 u69 u70 u71 u72 u73 u74 u75 u76 u77 u78 u79 u80 u81 u82 u83 u84 u85 u86 u87 u88 u89 u90 u91 u92 u93 u94 u95 u96 u97 u98 u99 u100 u101 u102 u103 u104 u105 u106 u107 u108 u109 u110 u111 u112 u113 u114 u115 u116 u117 u118 u119 u120 u121 u122 u123 u124 u125 u126 u127 u128 u129 u130 u131 u132 u133 u134 u135 u136 u137 u138 u139 u140 u141 u142 u143 u144 u145 u146 u147 u148 u149 u150 u151 u152 u153 u154 u155 u156 u157 u158 u159 u160 u161 u162 u163 u164 u165 u166 u167 u168 u169 u170 u171 u172 u173 u174 u175 u176 u177 u178 u179 u180 u181 u182 u183 u184 u185 u186 u187 u188 u189 u190 u191 u192 u193 u194 u195 u196 u197 u198 u199 u200 u201 u202 u203 u204 u205 u206 u207 u208 u209 u210 u211 u212 u213 u214 u215 u216 u217 u218 u219 u220 u221 u222 u223 u224 u225 u226 u227 u228 u229 u230 u231 u232 u233 u234 u235 u236 u237 u238 u239 u240 u241 u242 u243 u244 u245 u246 u247 u248 u249 u250 u251 u252 u253 u254 u255 u256 u257 u258 u259 u260 u261 u262 u263 u264 u265 u266 u267 u268 u269 u270 u271 u272 u273 u274 u275 u276 u277 u278 u279 u280 u281 u282 u283 u284 u285 u286 u287 u288 u289 u290 u291 u292 u293 u294 u295 : Value), Kp w wx [(B5, (.cells #[.int .i64 r0, .int .i64 r1, .int .i64 r2, .int .i64 r3, .int .i64 s0, .int .i64 s1, .int .i64 s2, .int .i64 s3] 44 (0, 0))), (B6, (.cells #[.int .i64 z, .int .i64 y] 45 (0, 0)))] → Code.wp Tryz.prog (bisOf 10) (bodyPost Tryz.prog Tryz.f4 (SunPost w)) ⟨#[u0, u1, u2, u3, .bool false, .pointer (some ⟨B5, 0, none⟩), .pointer (some ⟨B6, 0, none⟩), u7, u8, u9, u10, u11, u12, u13, u14, u15, u16, u17, u18, u19, u20, u21, u22, u23, u24, u25, u26, u27, u28, u29, u30, u31, u32, u33, u34, u35, u36, u37, u38, u39, u40, u41, u42, u43, u44, u45, u46, u47, u48, u49, u50, u51, u52, u53, u54, u55, u56, u57, u58, u59, u60, u61, u62, u63, u64, u65, u66, u67, u68, u69, u70, u71, u72, u73, u74, u75, u76, u77, u78, u79, u80, u81, u82, u83, u84, u85, u86, u87, u88, u89, u90, u91, u92, u93, u94, u95, u96, u97, u98, u99, u100, u101, u102, u103, u104, u105, u106, u107, u108, u109, u110, u111, u112, u113, u114, u115, u116, u117, u118, u119, u120, u121, u122, u123, u124, u125, u126, u127, u128, u129, u130, u131, u132, u133, u134, u135, u136, u137, u138, u139, u140, u141, u142, u143, u144, u145, u146, u147, u148, u149, u150, u151, u152, u153, u154, u155, u156, u157, u158, u159, u160, u161, u162, u163, u164, u165, u166, u167, u168, u169, u170, u171, u172, u173, u174, u175, u176, u177, u178, u179, u180, u181, u182, u183, u184, u185, u186, u187, u188, u189, u190, u191, u192, u193, u194, u195, u196, u197, u198, u199, u200, u201, u202, u203, u204, u205, u206, u207, u208, u209, u210, u211, u212, u213, u214, u215, u216, u217, u218, u219, u220, u221, u222, u223, u224, u225, u226, u227, u228, u229, u230, u231, u232, u233, u234, u235, u236, u237, u238, u239, u240, u241, u242, u243, u244, u245, u246, u247, u248, u249, u250, u251, u252, u253, u254, u255, u256, u257, u258, u259, u260, u261, u262, u263, u264, u265, u266, u267, u268, u269, u270, u271, u272, u273, u274, u275, u276, u277, u278, u279, u280, u281, u282, u283, u284, u285, u286, u287, u288, u289, u290, u291, u292, u293, u294, u295], []⟩ wx

/-- The remainders of four integers, their squares and the sums of these. -/
structure BisP (m0 m1 m2 m3 r0 r1 r2 r3 t0 t1 t2 t3 z1 z2 z3 z4 : Int) : Prop where
  fm0 : IntKind.i64.wrap m0 = m0
  fe0 : m0.tmod 4 = r0
  fr0 : IntKind.i64.wrap r0 = r0
  ft0 : IntKind.i64.wrap (r0 * r0) = t0
  fz1 : IntKind.i64.wrap (0 + t0) = z1
  fm1 : IntKind.i64.wrap m1 = m1
  fe1 : m1.tmod 4 = r1
  fr1 : IntKind.i64.wrap r1 = r1
  ft1 : IntKind.i64.wrap (r1 * r1) = t1
  fz2 : IntKind.i64.wrap (z1 + t1) = z2
  fm2 : IntKind.i64.wrap m2 = m2
  fe2 : m2.tmod 4 = r2
  fr2 : IntKind.i64.wrap r2 = r2
  ft2 : IntKind.i64.wrap (r2 * r2) = t2
  fz3 : IntKind.i64.wrap (z2 + t2) = z3
  fm3 : IntKind.i64.wrap m3 = m3
  fe3 : m3.tmod 4 = r3
  fr3 : IntKind.i64.wrap r3 = r3
  ft3 : IntKind.i64.wrap (r3 * r3) = t3
  fz4 : IntKind.i64.wrap (z3 + t3) = z4
theorem rounds_world {P : Program} {c : Code} {Q : Exit → Act → World → Prop} {n : Nat} {fr : Act} {w1 : World} (R : World → Prop) (h : R w1) (k : ∀ w', R w' → Code.rounds P c Q n fr w') : Code.rounds P c Q n fr w1 := k w1 h
end Go.Proofs.YtggffhmdgceljaaGreatDoor

/-
  The walk of SunBisects: its first loop.
-/
namespace Go.Proofs.YtggffhmdgceljaaGreatDoor
open Go.RowKit
set_option linter.unusedVariables false
set_option linter.unusedSimpArgs false
set_option maxRecDepth 1000000 in
set_option maxHeartbeats 12800000 in
theorem bs_first (w : World) (m0 m1 m2 m3 n0 n1 n2 n3 r0 r1 r2 r3 s0 s1 s2 s3 t0 t1 t2 t3 v0 v1 v2 v3 z1 z2 z3 z y1 y2 y3 y : Int) (hm : BisP m0 m1 m2 m3 r0 r1 r2 r3 t0 t1 t2 t3 z1 z2 z3 z) (hn : BisP n0 n1 n2 n3 s0 s1 s2 s3 v0 v1 v2 v3 y1 y2 y3 y)
    (hT : SBs10 w r0 r1 r2 r3 s0 s1 s2 s3 z y) : Calls Tryz.prog 4 #[.agg #[.int .i8 m0, .int .i8 m1, .int .i8 m2, .int .i8 m3], .agg #[.int .i8 n0, .int .i8 n1, .int .i8 n2, .int .i8 n3]] w (SunPost w) := by
  obtain ⟨W0, hW0⟩ : ∃ W0, ((w.alloc (.cells #[.int .i8 m0, .int .i8 m1, .int .i8 m2, .int .i8 m3] 42)).alloc (.cells #[.int .i8 n0, .int .i8 n1, .int .i8 n2, .int .i8 n3] 42)) = W0 := ⟨_, rfl⟩
  have K0 : Hid (Kp w W0 [(w.heap.size + 1, (.cells #[.int .i8 n0, .int .i8 n1, .int .i8 n2, .int .i8 n3] 42 (0, 0))), (w.heap.size, (.cells #[.int .i8 m0, .int .i8 m1, .int .i8 m2, .int .i8 m3] 42 (0, 0)))]) := Lib.hid (by
    rw [← hW0]
    have k := (((Kp.none w).alloc (.cells #[.int .i8 m0, .int .i8 m1, .int .i8 m2, .int .i8 m3] 42)).alloc (.cells #[.int .i8 n0, .int .i8 n1, .int .i8 n2, .int .i8 n3] 42))
    simpa using k)
  go_enter Tryz.func4, Tryz.ntmps4
  go_upto_region 1 with fail
  try rw [hW0]
  clear hW0
  go_upto_block 0 with fail
  obtain ⟨B2, hB2⟩ : ∃ B2, w.heap.size = B2 := ⟨_, rfl⟩
  have i2 := lt_of_blk (K0.out.2 _ (.tail _ (.head _)))
  have i3 := lt_of_blk (K0.out.2 _ (.head _))
  obtain ⟨B5, hB5⟩ : ∃ B5, W0.heap.size = B5 := ⟨_, rfl⟩
  have hA : BisAt w (w.heap.size) (w.heap.size + 1) B5 (B5 + 1) := ⟨by omega, by omega, by omega, ⟨by omega, by omega⟩, by omega, by omega⟩
  refine wp_world (fun w' => Kp w w' [(B5, (.cells #[.int .i64 0, .int .i64 0, .int .i64 0, .int .i64 0, .int .i64 0, .int .i64 0, .int .i64 0, .int .i64 0] 44 (0, 0))), ((B5 + 1), (.cells #[.int .i64 0, .int .i64 0] 45 (0, 0))), ((w.heap.size + 1), (.cells #[.int .i8 n0, .int .i8 n1, .int .i8 n2, .int .i8 n3] 42 (0, 0))), ((w.heap.size), (.cells #[.int .i8 m0, .int .i8 m1, .int .i8 m2, .int .i8 m3] 42 (0, 0)))]) ?_ fun w6 k6 => ?_
  · have k := (K0.out.alloc (.cells #[.int .i64 0, .int .i64 0, .int .i64 0, .int .i64 0, .int .i64 0, .int .i64 0, .int .i64 0, .int .i64 0] 44)).alloc (.cells #[.int .i64 0, .int .i64 0] 45)
    rw [show (W0.alloc (.cells #[.int .i64 0, .int .i64 0, .int .i64 0, .int .i64 0, .int .i64 0, .int .i64 0, .int .i64 0, .int .i64 0] 44)).heap.size = B5 + 1 by rw [← hB5]; simp, hB5] at k
    exact k.swap
  have K6 := Lib.hid k6
  try rw [hB5]
  try simp only [World.size_alloc, hB5]
  clear k6 K0 i2 i3 hB2 B2
  clear hB5
  go_cut [] (fun wr => Kp w wr [(B5, (.cells #[.int .i64 r0, .int .i64 r1, .int .i64 r2, .int .i64 r3, .int .i64 s0, .int .i64 s1, .int .i64 s2, .int .i64 s3] 44 (0, 0))), ((B5 + 1), (.cells #[.int .i64 z, .int .i64 y] 45 (0, 0)))])
  case first =>
    go_wp2_with fail
    refine wp_loop_rounds 5 ?_
    rw [rounds_succ]
    go_wp2_with fail
    refine bis6_0 _ w _ _ _ _ _ m0 m1 m2 m3 n0 n1 n2 n3 0 0 0 0 0 0 0 0 0 0 r0 s0 _ _ _ _ _ _ _ _ _ _ _ _ _ _ _ _ _ _ _ _ _ _ _ _ _ _ _ _ _ _ _ _ _ _ _ _ _ _ _ _ _ _ _ _ _ _ _ _ _ _ _ _ _ _ _ _ _ _ _ _ _ _ _ _ _ _ _ _ _ _ _ _ _ _ _ _ _ _ _ _ _ _ _ _ _ _ _ _ _ _ _ _ _ _ _ _ _ _ _ _ _ _ _ _ _ _ _ _ _ _ _ _ _ _ _ _ _ _ _ _ _ _ _ _ _ _ _ _ _ _ _ _ _ _ _ _ _ _ _ _ _ _ _ _ _ _ _ _ _ _ _ _ _ _ _ _ _ _ _ _ _ _ _ _ _ _ _ _ _ _ _ _ _ _ _ _ _ _ _ _ _ _ _ _ _ _ _ _ _ _ _ _ _ _ _ _ _ _ _ _ _ _ _ _ _ _ _ _ _ _ _ _ _ _ _ _ _ _ _ _ _ _ _ _ _ _ _ _ _ _ _ _ _ _ _ _ _ _ _ _ _ _ _ _ _ _ _ _ _ _ _ _ _ _ _ _ _ _ _ _ _ _ _ _ _ _ _ _ _ _ _ _ _ _ _ _ _ _ _ _ _ _ _ _ _ _ _ _ _ _ _ hm.fm0 hn.fm0 hm.fe0 hn.fe0 hm.fr0 hn.fr0 hA K6.out (fun wy hy => ?_)
    have K7 := Lib.hid hy
    clear hy K6
    go_wp2_with fail
    refine bis7_0 _ w _ _ _ _ _ m0 m1 m2 m3 n0 n1 n2 n3 r0 0 0 0 s0 0 0 0 0 0 t0 z1 _ _ _ _ _ _ _ _ _ _ _ _ _ _ _ _ _ _ _ _ _ _ _ _ _ _ _ _ _ _ _ _ _ _ _ _ _ _ _ _ _ _ _ _ _ _ _ _ _ _ _ _ _ _ _ _ _ _ _ _ _ _ _ _ _ _ _ _ _ _ _ _ _ _ _ _ _ _ _ _ _ _ _ _ _ _ _ _ _ _ _ _ _ _ _ _ _ _ _ _ _ _ _ _ _ _ _ _ _ _ _ _ _ _ _ _ _ _ _ _ _ _ _ _ _ _ _ _ _ _ _ _ _ _ _ _ _ _ _ _ _ _ _ _ _ _ _ _ _ _ _ _ _ _ _ _ _ _ _ _ _ _ _ _ _ _ _ _ _ _ _ _ _ _ _ _ _ _ _ _ _ _ _ _ _ _ _ _ _ _ _ _ _ _ _ _ _ _ _ _ _ _ _ _ _ _ _ _ _ _ _ _ _ _ _ _ _ _ _ _ _ _ _ _ _ _ _ _ _ _ _ _ _ _ _ _ _ _ _ _ _ _ _ _ _ _ _ _ _ _ _ _ _ _ _ _ _ _ _ _ _ _ _ _ _ _ _ _ _ _ _ _ _ _ _ _ _ _ _ _ _ _ _ _ _ _ _ _ _ _ _ hm.ft0 hm.fz1 hA K7.out (fun wy hy => ?_)
    have K8 := Lib.hid hy
    clear hy K7
    go_wp2_with fail
    refine bis8_0 _ w _ _ _ _ _ m0 m1 m2 m3 n0 n1 n2 n3 r0 0 0 0 s0 0 0 0 z1 0 v0 y1 _ _ _ _ _ _ _ _ _ _ _ _ _ _ _ _ _ _ _ _ _ _ _ _ _ _ _ _ _ _ _ _ _ _ _ _ _ _ _ _ _ _ _ _ _ _ _ _ _ _ _ _ _ _ _ _ _ _ _ _ _ _ _ _ _ _ _ _ _ _ _ _ _ _ _ _ _ _ _ _ _ _ _ _ _ _ _ _ _ _ _ _ _ _ _ _ _ _ _ _ _ _ _ _ _ _ _ _ _ _ _ _ _ _ _ _ _ _ _ _ _ _ _ _ _ _ _ _ _ _ _ _ _ _ _ _ _ _ _ _ _ _ _ _ _ _ _ _ _ _ _ _ _ _ _ _ _ _ _ _ _ _ _ _ _ _ _ _ _ _ _ _ _ _ _ _ _ _ _ _ _ _ _ _ _ _ _ _ _ _ _ _ _ _ _ _ _ _ _ _ _ _ _ _ _ _ _ _ _ _ _ _ _ _ _ _ _ _ _ _ _ _ _ _ _ _ _ _ _ _ _ _ _ _ _ _ _ _ _ _ _ _ _ _ _ _ _ _ _ _ _ _ _ _ _ _ _ _ _ _ _ _ _ _ _ _ _ _ _ _ _ _ _ _ _ _ _ _ _ _ _ _ _ _ _ _ _ _ _ _ _ hn.ft0 hn.fz1 hA K8.out (fun wy hy => ?_)
    have K6 := Lib.hid hy
    clear hy K8
    go_wp2_with fail
    rw [rounds_succ]
    go_wp2_with fail
    refine bis6_1 _ w _ _ _ _ _ m0 m1 m2 m3 n0 n1 n2 n3 r0 0 0 0 s0 0 0 0 z1 y1 r1 s1 _ _ _ _ _ _ _ _ _ _ _ _ _ _ _ _ _ _ _ _ _ _ _ _ _ _ _ _ _ _ _ _ _ _ _ _ _ _ _ _ _ _ _ _ _ _ _ _ _ _ _ _ _ _ _ _ _ _ _ _ _ _ _ _ _ _ _ _ _ _ _ _ _ _ _ _ _ _ _ _ _ _ _ _ _ _ _ _ _ _ _ _ _ _ _ _ _ _ _ _ _ _ _ _ _ _ _ _ _ _ _ _ _ _ _ _ _ _ _ _ _ _ _ _ _ _ _ _ _ _ _ _ _ _ _ _ _ _ _ _ _ _ _ _ _ _ _ _ _ _ _ _ _ _ _ _ _ _ _ _ _ _ _ _ _ _ _ _ _ _ _ _ _ _ _ _ _ _ _ _ _ _ _ _ _ _ _ _ _ _ _ _ _ _ _ _ _ _ _ _ _ _ _ _ _ _ _ _ _ _ _ _ _ _ _ _ _ _ _ _ _ _ _ _ _ _ _ _ _ _ _ _ _ _ _ _ _ _ _ _ _ _ _ _ _ _ _ _ _ _ _ _ _ _ _ _ _ _ _ _ _ _ _ _ _ _ _ _ _ _ _ _ _ _ _ _ _ _ _ _ _ _ _ _ _ _ _ _ _ _ _ hm.fm1 hn.fm1 hm.fe1 hn.fe1 hm.fr1 hn.fr1 hA K6.out (fun wy hy => ?_)
    have K7 := Lib.hid hy
    clear hy K6
    go_wp2_with fail
    refine bis7_1 _ w _ _ _ _ _ m0 m1 m2 m3 n0 n1 n2 n3 r0 r1 0 0 s0 s1 0 0 z1 y1 t1 z2 _ _ _ _ _ _ _ _ _ _ _ _ _ _ _ _ _ _ _ _ _ _ _ _ _ _ _ _ _ _ _ _ _ _ _ _ _ _ _ _ _ _ _ _ _ _ _ _ _ _ _ _ _ _ _ _ _ _ _ _ _ _ _ _ _ _ _ _ _ _ _ _ _ _ _ _ _ _ _ _ _ _ _ _ _ _ _ _ _ _ _ _ _ _ _ _ _ _ _ _ _ _ _ _ _ _ _ _ _ _ _ _ _ _ _ _ _ _ _ _ _ _ _ _ _ _ _ _ _ _ _ _ _ _ _ _ _ _ _ _ _ _ _ _ _ _ _ _ _ _ _ _ _ _ _ _ _ _ _ _ _ _ _ _ _ _ _ _ _ _ _ _ _ _ _ _ _ _ _ _ _ _ _ _ _ _ _ _ _ _ _ _ _ _ _ _ _ _ _ _ _ _ _ _ _ _ _ _ _ _ _ _ _ _ _ _ _ _ _ _ _ _ _ _ _ _ _ _ _ _ _ _ _ _ _ _ _ _ _ _ _ _ _ _ _ _ _ _ _ _ _ _ _ _ _ _ _ _ _ _ _ _ _ _ _ _ _ _ _ _ _ _ _ _ _ _ _ _ _ _ _ _ _ _ _ _ _ _ _ _ _ hm.ft1 hm.fz2 hA K7.out (fun wy hy => ?_)
    have K8 := Lib.hid hy
    clear hy K7
    go_wp2_with fail
    refine bis8_1 _ w _ _ _ _ _ m0 m1 m2 m3 n0 n1 n2 n3 r0 r1 0 0 s0 s1 0 0 z2 y1 v1 y2 _ _ _ _ _ _ _ _ _ _ _ _ _ _ _ _ _ _ _ _ _ _ _ _ _ _ _ _ _ _ _ _ _ _ _ _ _ _ _ _ _ _ _ _ _ _ _ _ _ _ _ _ _ _ _ _ _ _ _ _ _ _ _ _ _ _ _ _ _ _ _ _ _ _ _ _ _ _ _ _ _ _ _ _ _ _ _ _ _ _ _ _ _ _ _ _ _ _ _ _ _ _ _ _ _ _ _ _ _ _ _ _ _ _ _ _ _ _ _ _ _ _ _ _ _ _ _ _ _ _ _ _ _ _ _ _ _ _ _ _ _ _ _ _ _ _ _ _ _ _ _ _ _ _ _ _ _ _ _ _ _ _ _ _ _ _ _ _ _ _ _ _ _ _ _ _ _ _ _ _ _ _ _ _ _ _ _ _ _ _ _ _ _ _ _ _ _ _ _ _ _ _ _ _ _ _ _ _ _ _ _ _ _ _ _ _ _ _ _ _ _ _ _ _ _ _ _ _ _ _ _ _ _ _ _ _ _ _ _ _ _ _ _ _ _ _ _ _ _ _ _ _ _ _ _ _ _ _ _ _ _ _ _ _ _ _ _ _ _ _ _ _ _ _ _ _ _ _ _ _ _ _ _ _ _ _ _ _ _ _ _ hn.ft1 hn.fz2 hA K8.out (fun wy hy => ?_)
    have K6 := Lib.hid hy
    clear hy K8
    go_wp2_with fail
    rw [rounds_succ]
    go_wp2_with fail
    refine bis6_2 _ w _ _ _ _ _ m0 m1 m2 m3 n0 n1 n2 n3 r0 r1 0 0 s0 s1 0 0 z2 y2 r2 s2 _ _ _ _ _ _ _ _ _ _ _ _ _ _ _ _ _ _ _ _ _ _ _ _ _ _ _ _ _ _ _ _ _ _ _ _ _ _ _ _ _ _ _ _ _ _ _ _ _ _ _ _ _ _ _ _ _ _ _ _ _ _ _ _ _ _ _ _ _ _ _ _ _ _ _ _ _ _ _ _ _ _ _ _ _ _ _ _ _ _ _ _ _ _ _ _ _ _ _ _ _ _ _ _ _ _ _ _ _ _ _ _ _ _ _ _ _ _ _ _ _ _ _ _ _ _ _ _ _ _ _ _ _ _ _ _ _ _ _ _ _ _ _ _ _ _ _ _ _ _ _ _ _ _ _ _ _ _ _ _ _ _ _ _ _ _ _ _ _ _ _ _ _ _ _ _ _ _ _ _ _ _ _ _ _ _ _ _ _ _ _ _ _ _ _ _ _ _ _ _ _ _ _ _ _ _ _ _ _ _ _ _ _ _ _ _ _ _ _ _ _ _ _ _ _ _ _ _ _ _ _ _ _ _ _ _ _ _ _ _ _ _ _ _ _ _ _ _ _ _ _ _ _ _ _ _ _ _ _ _ _ _ _ _ _ _ _ _ _ _ _ _ _ _ _ _ _ _ _ _ _ _ _ _ _ _ _ _ _ _ _ hm.fm2 hn.fm2 hm.fe2 hn.fe2 hm.fr2 hn.fr2 hA K6.out (fun wy hy => ?_)
    have K7 := Lib.hid hy
    clear hy K6
    go_wp2_with fail
    refine bis7_2 _ w _ _ _ _ _ m0 m1 m2 m3 n0 n1 n2 n3 r0 r1 r2 0 s0 s1 s2 0 z2 y2 t2 z3 _ _ _ _ _ _ _ _ _ _ _ _ _ _ _ _ _ _ _ _ _ _ _ _ _ _ _ _ _ _ _ _ _ _ _ _ _ _ _ _ _ _ _ _ _ _ _ _ _ _ _ _ _ _ _ _ _ _ _ _ _ _ _ _ _ _ _ _ _ _ _ _ _ _ _ _ _ _ _ _ _ _ _ _ _ _ _ _ _ _ _ _ _ _ _ _ _ _ _ _ _ _ _ _ _ _ _ _ _ _ _ _ _ _ _ _ _ _ _ _ _ _ _ _ _ _ _ _ _ _ _ _ _ _ _ _ _ _ _ _ _ _ _ _ _ _ _ _ _ _ _ _ _ _ _ _ _ _ _ _ _ _ _ _ _ _ _ _ _ _ _ _ _ _ _ _ _ _ _ _ _ _ _ _ _ _ _ _ _ _ _ _ _ _ _ _ _ _ _ _ _ _ _ _ _ _ _ _ _ _ _ _ _ _ _ _ _ _ _ _ _ _ _ _ _ _ _ _ _ _ _ _ _ _ _ _ _ _ _ _ _ _ _ _ _ _ _ _ _ _ _ _ _ _ _ _ _ _ _ _ _ _ _ _ _ _ _ _ _ _ _ _ _ _ _ _ _ _ _ _ _ _ _ _ _ _ _ _ _ _ _ hm.ft2 hm.fz3 hA K7.out (fun wy hy => ?_)
    have K8 := Lib.hid hy
    clear hy K7
    go_wp2_with fail
    refine bis8_2 _ w _ _ _ _ _ m0 m1 m2 m3 n0 n1 n2 n3 r0 r1 r2 0 s0 s1 s2 0 z3 y2 v2 y3 _ _ _ _ _ _ _ _ _ _ _ _ _ _ _ _ _ _ _ _ _ _ _ _ _ _ _ _ _ _ _ _ _ _ _ _ _ _ _ _ _ _ _ _ _ _ _ _ _ _ _ _ _ _ _ _ _ _ _ _ _ _ _ _ _ _ _ _ _ _ _ _ _ _ _ _ _ _ _ _ _ _ _ _ _ _ _ _ _ _ _ _ _ _ _ _ _ _ _ _ _ _ _ _ _ _ _ _ _ _ _ _ _ _ _ _ _ _ _ _ _ _ _ _ _ _ _ _ _ _ _ _ _ _ _ _ _ _ _ _ _ _ _ _ _ _ _ _ _ _ _ _ _ _ _ _ _ _ _ _ _ _ _ _ _ _ _ _ _ _ _ _ _ _ _ _ _ _ _ _ _ _ _ _ _ _ _ _ _ _ _ _ _ _ _ _ _ _ _ _ _ _ _ _ _ _ _ _ _ _ _ _ _ _ _ _ _ _ _ _ _ _ _ _ _ _ _ _ _ _ _ _ _ _ _ _ _ _ _ _ _ _ _ _ _ _ _ _ _ _ _ _ _ _ _ _ _ _ _ _ _ _ _ _ _ _ _ _ _ _ _ _ _ _ _ _ _ _ _ _ _ _ _ _ _ _ _ _ _ _ _ hn.ft2 hn.fz3 hA K8.out (fun wy hy => ?_)
    have K6 := Lib.hid hy
    clear hy K8
    go_wp2_with fail
    rw [rounds_succ]
    go_wp2_with fail
    refine bis6_3 _ w _ _ _ _ _ m0 m1 m2 m3 n0 n1 n2 n3 r0 r1 r2 0 s0 s1 s2 0 z3 y3 r3 s3 _ _ _ _ _ _ _ _ _ _ _ _ _ _ _ _ _ _ _ _ _ _ _ _ _ _ _ _ _ _ _ _ _ _ _ _ _ _ _ _ _ _ _ _ _ _ _ _ _ _ _ _ _ _ _ _ _ _ _ _ _ _ _ _ _ _ _ _ _ _ _ _ _ _ _ _ _ _ _ _ _ _ _ _ _ _ _ _ _ _ _ _ _ _ _ _ _ _ _ _ _ _ _ _ _ _ _ _ _ _ _ _ _ _ _ _ _ _ _ _ _ _ _ _ _ _ _ _ _ _ _ _ _ _ _ _ _ _ _ _ _ _ _ _ _ _ _ _ _ _ _ _ _ _ _ _ _ _ _ _ _ _ _ _ _ _ _ _ _ _ _ _ _ _ _ _ _ _ _ _ _ _ _ _ _ _ _ _ _ _ _ _ _ _ _ _ _ _ _ _ _ _ _ _ _ _ _ _ _ _ _ _ _ _ _ _ _ _ _ _ _ _ _ _ _ _ _ _ _ _ _ _ _ _ _ _ _ _ _ _ _ _ _ _ _ _ _ _ _ _ _ _ _ _ _ _ _ _ _ _ _ _ _ _ _ _ _ _ _ _ _ _ _ _ _ _ _ _ _ _ _ _ _ _ _ _ _ _ _ _ _ hm.fm3 hn.fm3 hm.fe3 hn.fe3 hm.fr3 hn.fr3 hA K6.out (fun wy hy => ?_)
    have K7 := Lib.hid hy
    clear hy K6
    go_wp2_with fail
    refine bis7_3 _ w _ _ _ _ _ m0 m1 m2 m3 n0 n1 n2 n3 r0 r1 r2 r3 s0 s1 s2 s3 z3 y3 t3 z _ _ _ _ _ _ _ _ _ _ _ _ _ _ _ _ _ _ _ _ _ _ _ _ _ _ _ _ _ _ _ _ _ _ _ _ _ _ _ _ _ _ _ _ _ _ _ _ _ _ _ _ _ _ _ _ _ _ _ _ _ _ _ _ _ _ _ _ _ _ _ _ _ _ _ _ _ _ _ _ _ _ _ _ _ _ _ _ _ _ _ _ _ _ _ _ _ _ _ _ _ _ _ _ _ _ _ _ _ _ _ _ _ _ _ _ _ _ _ _ _ _ _ _ _ _ _ _ _ _ _ _ _ _ _ _ _ _ _ _ _ _ _ _ _ _ _ _ _ _ _ _ _ _ _ _ _ _ _ _ _ _ _ _ _ _ _ _ _ _ _ _ _ _ _ _ _ _ _ _ _ _ _ _ _ _ _ _ _ _ _ _ _ _ _ _ _ _ _ _ _ _ _ _ _ _ _ _ _ _ _ _ _ _ _ _ _ _ _ _ _ _ _ _ _ _ _ _ _ _ _ _ _ _ _ _ _ _ _ _ _ _ _ _ _ _ _ _ _ _ _ _ _ _ _ _ _ _ _ _ _ _ _ _ _ _ _ _ _ _ _ _ _ _ _ _ _ _ _ _ _ _ _ _ _ _ _ _ _ _ _ hm.ft3 hm.fz4 hA K7.out (fun wy hy => ?_)
    have K8 := Lib.hid hy
    clear hy K7
    go_wp2_with fail
    refine bis8_3 _ w _ _ _ _ _ m0 m1 m2 m3 n0 n1 n2 n3 r0 r1 r2 r3 s0 s1 s2 s3 z y3 v3 y _ _ _ _ _ _ _ _ _ _ _ _ _ _ _ _ _ _ _ _ _ _ _ _ _ _ _ _ _ _ _ _ _ _ _ _ _ _ _ _ _ _ _ _ _ _ _ _ _ _ _ _ _ _ _ _ _ _ _ _ _ _ _ _ _ _ _ _ _ _ _ _ _ _ _ _ _ _ _ _ _ _ _ _ _ _ _ _ _ _ _ _ _ _ _ _ _ _ _ _ _ _ _ _ _ _ _ _ _ _ _ _ _ _ _ _ _ _ _ _ _ _ _ _ _ _ _ _ _ _ _ _ _ _ _ _ _ _ _ _ _ _ _ _ _ _ _ _ _ _ _ _ _ _ _ _ _ _ _ _ _ _ _ _ _ _ _ _ _ _ _ _ _ _ _ _ _ _ _ _ _ _ _ _ _ _ _ _ _ _ _ _ _ _ _ _ _ _ _ _ _ _ _ _ _ _ _ _ _ _ _ _ _ _ _ _ _ _ _ _ _ _ _ _ _ _ _ _ _ _ _ _ _ _ _ _ _ _ _ _ _ _ _ _ _ _ _ _ _ _ _ _ _ _ _ _ _ _ _ _ _ _ _ _ _ _ _ _ _ _ _ _ _ _ _ _ _ _ _ _ _ _ _ _ _ _ _ _ _ _ _ hn.ft3 hn.fz4 hA K8.out (fun wy hy => ?_)
    have K6 := Lib.hid hy
    clear hy K8
    go_wp2_with fail
    rw [rounds_succ]
    go_wp2_with fail
    go_meet
    exact K6.out.subs fun p hp => by
      simp only [List.mem_cons, List.not_mem_nil, or_false] at hp ⊢
      rcases hp with h | h <;> simp [h]
  case rest =>
    rename_i hK
    refine hK _ _ ?_
    clear hK
    unfold SBs10 at hT
    exact hT _ _ _ _ _ _ _ _ _ _ _ _ _ _ _ _ _ _ _ _ _ _ _ _ _ _ _ _ _ _ _ _ _ _ _ _ _ _ _ _ _ _ _ _ _ _ _ _ _ _ _ _ _ _ _ _ _ _ _ _ _ _ _ _ _ _ _ _ _ _ _ _ _ _ _ _ _ _ _ _ _ _ _ _ _ _ _ _ _ _ _ _ _ _ _ _ _ _ _ _ _ _ _ _ _ _ _ _ _ _ _ _ _ _ _ _ _ _ _ _ _ _ _ _ _ _ _ _ _ _ _ _ _ _ _ _ _ _ _ _ _ _ _ _ _ _ _ _ _ _ _ _ _ _ _ _ _ _ _ _ _ _ _ _ _ _ _ _ _ _ _ _ _ _ _ _ _ _ _ _ _ _ _ _ _ _ _ _ _ _ _ _ _ _ _ _ _ _ _ _ _ _ _ _ _ _ _ _ _ _ _ _ _ _ _ _ _ _ _ _ _ _ _ _ _ _ _ _ _ _ _ _ _ _ _ _ _ _ _ _ _ _ _ _ _ _ _ _ _ _ _ _ _ _ _ _ _ _ _ _ _ _ _ _ _ _ _ _ _ _ _ _ _ _ _ _ _ _ _ _ _ _ _ _ _ _ _ _ _ _ _ _ _ _ _ _ hcut
end Go.Proofs.YtggffhmdgceljaaGreatDoor

/-
  The walk of SunBisects: sums that are 0, and its second loop.
-/
namespace Go.Proofs.YtggffhmdgceljaaGreatDoor
open Go.RowKit
set_option linter.unusedVariables false
set_option linter.unusedSimpArgs false
set_option maxRecDepth 1000000 in
set_option maxHeartbeats 12800000 in
theorem bs10_zero1 (w : World) (r0 r1 r2 r3 s0 s1 s2 s3 z y : Int) (e1 : (z == 0) = true)
    (KW : Hid (∀ w1 : World, Below w.heap.size w w1 → Calls Tryz.prog 17 #[] w1 fun e w' => e = .returned (.bool true) ∧ Below w1.heap.size w1 w'))
    : SBs10 w r0 r1 r2 r3 s0 s1 s2 s3 z y := by
  unfold SBs10
  intro wx B5 B6 u0 u1 u2 u3 u7 u8 u9 u10 u11 u12 u13 u14 u15 u16 u17 u18 u19 u20 u21 u22 u23 u24 u25 u26 u27 u28 u29 u30 u31 u32 u33 u34 u35 u36 u37 u38 u39 u40 u41 u42 u43 u44 u45 u46 u47 u48 u49 u50 u51 u52 u53 u54 u55 u56 u57 u58 u59 u60 u61 u62 u63 u64 u65 u66 u67 u68 u69 u70 u71 u72 u73 u74 u75 u76 u77 u78 u79 u80 u81 u82 u83 u84 u85 u86 u87 u88 u89 u90 u91 u92 u93 u94 u95 u96 u97 u98 u99 u100 u101 u102 u103 u104 u105 u106 u107 u108 u109 u110 u111 u112 u113 u114 u115 u116 u117 u118 u119 u120 u121 u122 u123 u124 u125 u126 u127 u128 u129 u130 u131 u132 u133 u134 u135 u136 u137 u138 u139 u140 u141 u142 u143 u144 u145 u146 u147 u148 u149 u150 u151 u152 u153 u154 u155 u156 u157 u158 u159 u160 u161 u162 u163 u164 u165 u166 u167 u168 u169 u170 u171 u172 u173 u174 u175 u176 u177 u178 u179 u180 u181 u182 u183 u184 u185 u186 u187 u188 u189 u190 u191 u192 u193 u194 u195 u196 u197 u198 u199 u200 u201 u202 u203 u204 u205 u206 u207 u208 u209 u210 u211 u212 u213 u214 u215 u216 u217 u218 u219 u220 u221 u222 u223 u224 u225 u226 u227 u228 u229 u230 u231 u232 u233 u234 u235 u236 u237 u238 u239 u240 u241 u242 u243 u244 u245 u246 u247 u248 u249 u250 u251 u252 u253 u254 u255 u256 u257 u258 u259 u260 u261 u262 u263 u264 u265 u266 u267 u268 u269 u270 u271 u272 u273 u274 u275 u276 u277 u278 u279 u280 u281 u282 u283 u284 u285 u286 u287 u288 u289 u290 u291 u292 u293 u294 u295 hk
  have K0 := Lib.hid hk
  clear hk
  conv => arg 2; whnf
  dsimp only
  obtain ⟨q0, q1⟩ := cells2 (K0.out.2 _ (.tail _ (.head _)))
  go_wp2_with (first
    | (go_at_call 17; (with_reducible refine (KW.out _ K0.out.below).mono ?_); rintro e w99 ⟨rfl, hb99⟩; have K99 := Lib.hid (K0.out.call hb99)))
  go_ret
  exact ⟨rfl, K99.out.below⟩

set_option maxRecDepth 1000000 in
set_option maxHeartbeats 12800000 in
theorem bs10_zero2 (w : World) (r0 r1 r2 r3 s0 s1 s2 s3 z y : Int) (e1 : (z == 0) = false) (e2 : (y == 0) = true)
    (KW : Hid (∀ w1 : World, Below w.heap.size w w1 → Calls Tryz.prog 17 #[] w1 fun e w' => e = .returned (.bool true) ∧ Below w1.heap.size w1 w'))
    : SBs10 w r0 r1 r2 r3 s0 s1 s2 s3 z y := by
  unfold SBs10
  intro wx B5 B6 u0 u1 u2 u3 u7 u8 u9 u10 u11 u12 u13 u14 u15 u16 u17 u18 u19 u20 u21 u22 u23 u24 u25 u26 u27 u28 u29 u30 u31 u32 u33 u34 u35 u36 u37 u38 u39 u40 u41 u42 u43 u44 u45 u46 u47 u48 u49 u50 u51 u52 u53 u54 u55 u56 u57 u58 u59 u60 u61 u62 u63 u64 u65 u66 u67 u68 u69 u70 u71 u72 u73 u74 u75 u76 u77 u78 u79 u80 u81 u82 u83 u84 u85 u86 u87 u88 u89 u90 u91 u92 u93 u94 u95 u96 u97 u98 u99 u100 u101 u102 u103 u104 u105 u106 u107 u108 u109 u110 u111 u112 u113 u114 u115 u116 u117 u118 u119 u120 u121 u122 u123 u124 u125 u126 u127 u128 u129 u130 u131 u132 u133 u134 u135 u136 u137 u138 u139 u140 u141 u142 u143 u144 u145 u146 u147 u148 u149 u150 u151 u152 u153 u154 u155 u156 u157 u158 u159 u160 u161 u162 u163 u164 u165 u166 u167 u168 u169 u170 u171 u172 u173 u174 u175 u176 u177 u178 u179 u180 u181 u182 u183 u184 u185 u186 u187 u188 u189 u190 u191 u192 u193 u194 u195 u196 u197 u198 u199 u200 u201 u202 u203 u204 u205 u206 u207 u208 u209 u210 u211 u212 u213 u214 u215 u216 u217 u218 u219 u220 u221 u222 u223 u224 u225 u226 u227 u228 u229 u230 u231 u232 u233 u234 u235 u236 u237 u238 u239 u240 u241 u242 u243 u244 u245 u246 u247 u248 u249 u250 u251 u252 u253 u254 u255 u256 u257 u258 u259 u260 u261 u262 u263 u264 u265 u266 u267 u268 u269 u270 u271 u272 u273 u274 u275 u276 u277 u278 u279 u280 u281 u282 u283 u284 u285 u286 u287 u288 u289 u290 u291 u292 u293 u294 u295 hk
  have K0 := Lib.hid hk
  clear hk
  conv => arg 2; whnf
  dsimp only
  obtain ⟨q0, q1⟩ := cells2 (K0.out.2 _ (.tail _ (.head _)))
  go_wp2_with (first
    | (go_at_call 17; (with_reducible refine (KW.out _ K0.out.below).mono ?_); rintro e w99 ⟨rfl, hb99⟩; have K99 := Lib.hid (K0.out.call hb99)))
  go_ret
  exact ⟨rfl, K99.out.below⟩

set_option maxRecDepth 1000000 in
set_option maxHeartbeats 12800000 in
theorem bs10_else (w : World) (r0 r1 r2 r3 s0 s1 s2 s3 z y x1 x2 x3 a b c a1 a2 a3 b1 b2 b3 : Int) (e1 : (z == 0) = false) (e2 : (y == 0) = false)
    (W1 : Hid (∀ w1 : World, Calls Tryz.prog 18 #[.agg #[.int .i64 r0, .int .i64 r1, .int .i64 r2, .int .i64 r3]] w1 fun e w' => e = .returned (.tuple #[.agg #[.int .i64 x1, .int .i64 x2, .int .i64 x3], .int .i64 0]) ∧ Below w1.heap.size w1 w'))
    (W2 : Hid (∀ w1 : World, Calls Tryz.prog 18 #[.agg #[.int .i64 s0, .int .i64 s1, .int .i64 s2, .int .i64 s3]] w1 fun e w' => e = .returned (.tuple #[.agg #[.int .i64 a, .int .i64 b, .int .i64 c], .int .i64 0]) ∧ Below w1.heap.size w1 w'))
    (T1 : Hid (∀ w1 : World, Calls Tryz.prog 19 #[.agg #[.int .i64 x1, .int .i64 x2, .int .i64 x3]] w1 fun e w' => e = .returned (.bool true) ∧ Below w1.heap.size w1 w'))
    (T2 : Hid (∀ w1 : World, Calls Tryz.prog 19 #[.agg #[.int .i64 a, .int .i64 b, .int .i64 c]] w1 fun e w' => e = .returned (.bool true) ∧ Below w1.heap.size w1 w'))
    (N1 : Hid (∀ w1 : World, Calls Tryz.prog 20 #[.agg #[.int .i64 x1, .int .i64 x2, .int .i64 x3]] w1 fun e w' => e = .returned (.tuple #[.int .i64 z, .int .i64 0]) ∧ Below w1.heap.size w1 w'))
    (N2 : Hid (∀ w1 : World, Calls Tryz.prog 20 #[.agg #[.int .i64 a, .int .i64 b, .int .i64 c]] w1 fun e w' => e = .returned (.tuple #[.int .i64 y, .int .i64 0]) ∧ Below w1.heap.size w1 w'))
    (hT : SBs24 w x1 x2 x3 a b c a1 a2 a3 b1 b2 b3) : SBs10 w r0 r1 r2 r3 s0 s1 s2 s3 z y := by
  unfold SBs10
  intro wx B5 B6 u0 u1 u2 u3 u7 u8 u9 u10 u11 u12 u13 u14 u15 u16 u17 u18 u19 u20 u21 u22 u23 u24 u25 u26 u27 u28 u29 u30 u31 u32 u33 u34 u35 u36 u37 u38 u39 u40 u41 u42 u43 u44 u45 u46 u47 u48 u49 u50 u51 u52 u53 u54 u55 u56 u57 u58 u59 u60 u61 u62 u63 u64 u65 u66 u67 u68 u69 u70 u71 u72 u73 u74 u75 u76 u77 u78 u79 u80 u81 u82 u83 u84 u85 u86 u87 u88 u89 u90 u91 u92 u93 u94 u95 u96 u97 u98 u99 u100 u101 u102 u103 u104 u105 u106 u107 u108 u109 u110 u111 u112 u113 u114 u115 u116 u117 u118 u119 u120 u121 u122 u123 u124 u125 u126 u127 u128 u129 u130 u131 u132 u133 u134 u135 u136 u137 u138 u139 u140 u141 u142 u143 u144 u145 u146 u147 u148 u149 u150 u151 u152 u153 u154 u155 u156 u157 u158 u159 u160 u161 u162 u163 u164 u165 u166 u167 u168 u169 u170 u171 u172 u173 u174 u175 u176 u177 u178 u179 u180 u181 u182 u183 u184 u185 u186 u187 u188 u189 u190 u191 u192 u193 u194 u195 u196 u197 u198 u199 u200 u201 u202 u203 u204 u205 u206 u207 u208 u209 u210 u211 u212 u213 u214 u215 u216 u217 u218 u219 u220 u221 u222 u223 u224 u225 u226 u227 u228 u229 u230 u231 u232 u233 u234 u235 u236 u237 u238 u239 u240 u241 u242 u243 u244 u245 u246 u247 u248 u249 u250 u251 u252 u253 u254 u255 u256 u257 u258 u259 u260 u261 u262 u263 u264 u265 u266 u267 u268 u269 u270 u271 u272 u273 u274 u275 u276 u277 u278 u279 u280 u281 u282 u283 u284 u285 u286 u287 u288 u289 u290 u291 u292 u293 u294 u295 hk
  have K0 := Lib.hid hk
  clear hk
  conv => arg 2; whnf
  dsimp only
  obtain ⟨q0, q1⟩ := cells2 (K0.out.2 _ (.tail _ (.head _)))
  go_upto_block 2 with fail
  clear q0 q1
  have i5 := lt_of_blk (K0.out.2 _ (.head _))
  have i6 := lt_of_blk (K0.out.2 _ (.tail _ (.head _)))
  have iw := (Kp.below K0.out).size
  refine wp_world (fun w' => Kp w w' [(wx.heap.size, (.cells #[.int .i64 0, .int .i64 0, .int .i64 0, .int .i64 0, .int .i64 0, .int .i64 0] 46 (0, 0))), (B5, (.cells #[.int .i64 r0, .int .i64 r1, .int .i64 r2, .int .i64 r3, .int .i64 s0, .int .i64 s1, .int .i64 s2, .int .i64 s3] 44 (0, 0))), (B6, (.cells #[.int .i64 z, .int .i64 y] 45 (0, 0)))]) (by have k := K0.out.alloc (.cells #[.int .i64 0, .int .i64 0, .int .i64 0, .int .i64 0, .int .i64 0, .int .i64 0] 46); first | exact k | simpa using k) fun w6 k6 => ?_
  obtain ⟨B8, hB8⟩ : ∃ B8, wx.heap.size = B8 := ⟨_, rfl⟩
  rw [hB8] at k6 i5 i6 iw ⊢
  have K1 := Lib.hid k6
  clear k6 K0 hB8
  go_cut [4] (fun s4 wr => s4 = .bool false ∧ Kp w wr [(B8, (.cells #[.int .i64 x1, .int .i64 x2, .int .i64 x3, .int .i64 a, .int .i64 b, .int .i64 c] 46 (0, 0)))])
  case first =>
    go_wp2_with fail
    refine wp_loop_rounds 3 ?_
    obtain ⟨l0, l1, l2, l3, l4, l5, l6, l7⟩ := cells8 (K1.out.2 _ (.tail _ (.head _)))
    rw [rounds_succ]
    go_wp2_with (first
      | (go_at_call 18; (with_reducible refine (W1.out _).mono ?_); rintro e w2 ⟨rfl, hb2⟩; have K2 := Lib.hid ((K1.out.call hb2).alloc (.cells #[.int .i64 x1, .int .i64 x2, .int .i64 x3] 23)); clear hb2 l0 l1 l2 l3 l4 l5 l6 l7)
      | (go_at_call 19; (with_reducible refine (T1.out _).mono ?_); rintro e w3 ⟨rfl, hb3⟩; have K3 := Lib.hid (K2.out.call hb3); clear hb3; obtain ⟨g0, g1, g2⟩ := cells3 (K3.out.2 _ (.head _)))
      | (go_at_call 20; (with_reducible refine (N1.out _).mono ?_); rintro e w4 ⟨rfl, hb4⟩; have K4 := Lib.hid (K3.out.call hb4); clear hb4 g0 g1 g2; obtain ⟨g0, g1, g2⟩ := cells3 (K4.out.2 _ (.head _)); obtain ⟨p0, p1⟩ := cells2 (K4.out.2 _ (.tail _ (.tail _ (.tail _ (.head _))))); obtain ⟨d0, d1, d2, d3, d4, d5⟩ := cells6 (K4.out.2 _ (.tail _ (.head _))); have dz : ∀ j, w4.frozen? ⟨B8, j, none⟩ = false := fun j => frozen_of_row w4 B8 j _ _ (K4.out.2 _ (.tail _ (.head _)))))
    refine rounds_world (fun w' => Kp w w' [(B8, (.cells #[.int .i64 x1, .int .i64 x2, .int .i64 x3, .int .i64 0, .int .i64 0, .int .i64 0] 46 (0, 0))), (B5, (.cells #[.int .i64 r0, .int .i64 r1, .int .i64 r2, .int .i64 r3, .int .i64 s0, .int .i64 s1, .int .i64 s2, .int .i64 s3] 44 (0, 0))), (B6, (.cells #[.int .i64 z, .int .i64 y] 45 (0, 0)))]) ?_ fun wz kz => ?_
    · have k := K4.out.subs (m := [(B8, (.cells #[.int .i64 0, .int .i64 0, .int .i64 0, .int .i64 0, .int .i64 0, .int .i64 0] 46 (0, 0))), (B5, (.cells #[.int .i64 r0, .int .i64 r1, .int .i64 r2, .int .i64 r3, .int .i64 s0, .int .i64 s1, .int .i64 s2, .int .i64 s3] 44 (0, 0))), (B6, (.cells #[.int .i64 z, .int .i64 y] 45 (0, 0)))]) fun p hp => .tail _ hp
      have hl : ∀ p ∈ ([(B5, (.cells #[.int .i64 r0, .int .i64 r1, .int .i64 r2, .int .i64 r3, .int .i64 s0, .int .i64 s1, .int .i64 s2, .int .i64 s3] 44 (0, 0))), (B6, (.cells #[.int .i64 z, .int .i64 y] 45 (0, 0)))] : List (Nat × Obj)), p.1 ≠ B8 := fun p hp => by
        simp only [List.mem_cons, List.not_mem_nil, or_false] at hp
        rcases hp with rfl | rfl <;> simp <;> omega
      exact kp_cell (kp_cell (kp_cell k iw hl 0 _ rfl) iw hl 1 _ rfl) iw hl 2 _ rfl
    clear K1 K2 K3 K4 g0 g1 g2 p0 p1 d0 d1 d2 d3 d4 d5 dz
    have K1 := Lib.hid kz
    clear kz
    obtain ⟨l0, l1, l2, l3, l4, l5, l6, l7⟩ := cells8 (K1.out.2 _ (.tail _ (.head _)))
    rw [rounds_succ]
    go_wp2_with (first
      | (go_at_call 18; (with_reducible refine (W2.out _).mono ?_); rintro e w2 ⟨rfl, hb2⟩; have K2 := Lib.hid ((K1.out.call hb2).alloc (.cells #[.int .i64 a, .int .i64 b, .int .i64 c] 23)); clear hb2 l0 l1 l2 l3 l4 l5 l6 l7)
      | (go_at_call 19; (with_reducible refine (T2.out _).mono ?_); rintro e w3 ⟨rfl, hb3⟩; have K3 := Lib.hid (K2.out.call hb3); clear hb3; obtain ⟨g0, g1, g2⟩ := cells3 (K3.out.2 _ (.head _)))
      | (go_at_call 20; (with_reducible refine (N2.out _).mono ?_); rintro e w4 ⟨rfl, hb4⟩; have K4 := Lib.hid (K3.out.call hb4); clear hb4 g0 g1 g2; obtain ⟨g0, g1, g2⟩ := cells3 (K4.out.2 _ (.head _)); obtain ⟨p0, p1⟩ := cells2 (K4.out.2 _ (.tail _ (.tail _ (.tail _ (.head _))))); obtain ⟨d0, d1, d2, d3, d4, d5⟩ := cells6 (K4.out.2 _ (.tail _ (.head _))); have dz : ∀ j, w4.frozen? ⟨B8, j, none⟩ = false := fun j => frozen_of_row w4 B8 j _ _ (K4.out.2 _ (.tail _ (.head _)))))
    refine rounds_world (fun w' => Kp w w' [(B8, (.cells #[.int .i64 x1, .int .i64 x2, .int .i64 x3, .int .i64 a, .int .i64 b, .int .i64 c] 46 (0, 0))), (B5, (.cells #[.int .i64 r0, .int .i64 r1, .int .i64 r2, .int .i64 r3, .int .i64 s0, .int .i64 s1, .int .i64 s2, .int .i64 s3] 44 (0, 0))), (B6, (.cells #[.int .i64 z, .int .i64 y] 45 (0, 0)))]) ?_ fun wz kz => ?_
    · have k := K4.out.subs (m := [(B8, (.cells #[.int .i64 x1, .int .i64 x2, .int .i64 x3, .int .i64 0, .int .i64 0, .int .i64 0] 46 (0, 0))), (B5, (.cells #[.int .i64 r0, .int .i64 r1, .int .i64 r2, .int .i64 r3, .int .i64 s0, .int .i64 s1, .int .i64 s2, .int .i64 s3] 44 (0, 0))), (B6, (.cells #[.int .i64 z, .int .i64 y] 45 (0, 0)))]) fun p hp => .tail _ hp
      have hl : ∀ p ∈ ([(B5, (.cells #[.int .i64 r0, .int .i64 r1, .int .i64 r2, .int .i64 r3, .int .i64 s0, .int .i64 s1, .int .i64 s2, .int .i64 s3] 44 (0, 0))), (B6, (.cells #[.int .i64 z, .int .i64 y] 45 (0, 0)))] : List (Nat × Obj)), p.1 ≠ B8 := fun p hp => by
        simp only [List.mem_cons, List.not_mem_nil, or_false] at hp
        rcases hp with rfl | rfl <;> simp <;> omega
      exact kp_cell (kp_cell (kp_cell k iw hl 3 _ rfl) iw hl 4 _ rfl) iw hl 5 _ rfl
    clear K1 K2 K3 K4 g0 g1 g2 p0 p1 d0 d1 d2 d3 d4 d5 dz
    have K1 := Lib.hid kz
    clear kz
    rw [rounds_succ]
    go_wp2_with fail
    go_meet
    refine ⟨rfl, ?_⟩
    exact K1.out.subs fun p hp => by
      simp only [List.mem_cons, List.not_mem_nil, or_false] at hp ⊢
      simp [hp]
  case rest =>
    rename_i hK
    obtain ⟨rfl, hcut⟩ := hcut
    refine hK _ _ ?_
    clear hK
    unfold SBs24 at hT
    exact hT _ _ _ _ _ _ _ _ _ _ _ _ _ _ _ _ _ _ _ _ _ _ _ _ _ _ _ _ _ _ _ _ _ _ _ _ _ _ _ _ _ _ _ _ _ _ _ _ _ _ _ _ _ _ _ _ _ _ _ _ _ _ _ _ _ _ _ _ _ _ _ _ _ _ _ _ _ _ _ _ _ _ _ _ _ _ _ _ _ _ _ _ _ _ _ _ _ _ _ _ _ _ _ _ _ _ _ _ _ _ _ _ _ _ _ _ _ _ _ _ _ _ _ _ _ _ _ _ _ _ _ _ _ _ _ _ _ _ _ _ _ _ _ _ _ _ _ _ _ _ _ _ _ _ _ _ _ _ _ _ _ _ _ _ _ _ _ _ _ _ _ _ _ _ _ _ _ _ _ _ _ _ _ _ _ _ _ _ _ _ _ _ _ _ _ _ _ _ _ _ _ _ _ _ _ _ _ _ _ _ _ _ _ _ _ _ _ _ _ _ _ _ _ _ _ _ _ _ _ _ _ _ _ _ _ _ _ _ _ _ _ _ _ _ _ _ _ _ _ _ _ _ _ _ _ _ _ _ _ _ _ _ _ _ _ _ _ _ _ _ _ _ _ _ _ _ _ _ _ _ _ _ _ _ _ _ _ _ _ _ _ _ _ _ _ _ hcut
end Go.Proofs.YtggffhmdgceljaaGreatDoor

/-
  SunTwice holds.
-/
namespace Go.Proofs.YtggffhmdgceljaaGreatDoor
open Go.RowKit
set_option linter.unusedVariables false
set_option linter.unusedSimpArgs false

theorem red_eq {p1 p2 p3 x y z a1 a2 a3 k l : Int} (h0 : ¬ (p1 = 0 ∧ p2 = 0 ∧ p3 = 0)) (hA : Red x y z a1 a2 a3) (hk : 0 < k) (hl : 0 < l) (e1 : k * p1 = l * x) (e2 : k * p2 = l * y) (e3 : k * p3 = l * z) :
    p1.tdiv (g3 p1 p2 p3) = a1 ∧ p2.tdiv (g3 p1 p2 p3) = a2 ∧ p3.tdiv (g3 p1 p2 p3) = a3 := (red_of h0).unique hA hk hl e1 e2 e3

end Go.Proofs.YtggffhmdgceljaaGreatDoor

/-
  Closed facts of the program alone, which every card asks: each one by itself, as the kernel's memory wants.
-/
namespace Go.Proofs.YtggffhmdgceljaaGreatDoor
open Go.ChangeShapes Go.WideShapes Go.ChangeAt Go.RowKit Go.Joins Go.Deep
set_option linter.unusedVariables false

theorem band {a b : Bool} (ha : a = true) (hb : b = true) : (a && b) = true := by rw [ha, hb]; rfl
theorem pLaid : laidOutB Tryz.pinned.checked.prog = true := by kernel_rfl
theorem pMaps : mapsRowed Tryz.pinned.checked.prog = true := by kernel_rfl
theorem pStops : (Tryz.pinned.checked.prog.stops == []) = true := by kernel_rfl
theorem pKnobs : (Tryz.pinned.checked.prog.stopKnobs == []) = true := by kernel_rfl
theorem pMake : (Tryz.pinned.checked.prog.make == some Rows.sunConesRow.make) = true := by kernel_rfl
end Go.Proofs.YtggffhmdgceljaaGreatDoor

/-
  More closed facts of the program alone.
-/
namespace Go.Proofs.YtggffhmdgceljaaGreatDoor
open Go.ChangeShapes Go.WideShapes Go.ChangeAt Go.RowKit Go.Joins Go.Deep
set_option linter.unusedVariables false

theorem pKeys : (Rows.sunConesRow.plainKeys == Tryz.pinned.checked.prog.plainKeys) = true := by kernel_rfl
theorem pHeard : Tryz.pinned.checked.prog.stopsHeard = true := by kernel_rfl
theorem pEnter : Tryz.pinned.checked.prog.mayEnter = true := by kernel_rfl
theorem pLifted : (Rows.sunConesRow.lifted == Tryz.pinned.checked.prog.liftsFinal) = true := by kernel_rfl
end Go.Proofs.YtggffhmdgceljaaGreatDoor
