/-
  The walk of chapter 2's awake: regions 20 to 24.
-/
import Derived.Test.YtggffhmdgceljaaGreatDoorRows
import Derived.WalkKit
import Derived.WalkSpells
import Derived.WalkLawsBesides
import Derived.Lib.Hide
import Derived.BigQuiet
import Derived.Deep.QuietTactic
import Derived.Handy
import Derived.Deep.RegionHeld3
import Derived.Deep.RegionWith
import Derived.StillTailTactics
import Derived.RangeFuncNested
import Derived.RangeFuncBound
import Derived.RangeFuncCalls
import Derived.RangeFuncLeaves
import Derived.RangeFuncBox
import Derived.Shelf.Abstract
import Derived.Shelf.RegionOpen
import Derived.OwnWalkIn
import Derived.TacticsInMore
import Derived.LoopNIn
import Derived.LoopIn
import Derived.Maps.AppendAt
import Derived.Test.YtggffhmdgceljaaGreatDoorProg
import Derived.Laws.FloatArith
import Derived.Laws.BitsAllLaws
import Derived.Deep.DeepCutAuto
import Derived.Stop.BytesEq
import Derived.Deep.MidRow
import Derived.Laws.CopyRow
import Derived.WalkMore
import Derived.Deep.DrawnRows
import Derived.Deep.CutBlock
import Derived.Orders
import Derived.LoopTactic
import Derived.Laws.StructEq
import Derived.Deep.RegionLaw
import Derived.RegionTactic
import Derived.StillTail
import Derived.Laws.RangeString
import Derived.Laws.RangeAny
import Derived.Shelf.Strings.Builder1
import Derived.Shelf.Strings.OnBuilder
import Derived.Shelf.LaysM
import Derived.Shelf.Strconv.Itoa3
import Derived.Lib.AppendIntMem
import Derived.Lib.ItoaLen
import Derived.RowKit
import Derived.Test.YtggffhmdgceljaaGreatDoorOwaWn
import Derived.Test.YtggffhmdgceljaaGreatDoorOwaXe
import Derived.Test.YtggffhmdgceljaaGreatDoorOwaIb
import Derived.Test.YtggffhmdgceljaaGreatDoorOwaNd
import Derived.Test.YtggffhmdgceljaaGreatDoorOwaId
import Derived.Test.YtggffhmdgceljaaGreatDoorOwaNc
import Derived.Test.YtggffhmdgceljaaGreatDoorOwaNi
import Derived.Test.YtggffhmdgceljaaGreatDoorOwaIx
import Derived.Test.YtggffhmdgceljaaGreatDoorOwaNt
import Derived.Test.YtggffhmdgceljaaGreatDoorOwaWo
import Derived.Test.YtggffhmdgceljaaGreatDoorOwaNv
import Derived.Test.YtggffhmdgceljaaGreatDoorOwaNx
import Derived.Test.YtggffhmdgceljaaGreatDoorOwaNo
import Derived.Test.YtggffhmdgceljaaGreatDoorOwaNy
import Derived.Test.YtggffhmdgceljaaGreatDoorOwaAb
import Derived.Test.YtggffhmdgceljaaGreatDoorOwaAe
import Derived.Test.YtggffhmdgceljaaGreatDoorOwaAf
import Derived.Test.YtggffhmdgceljaaGreatDoorOwaAp
import Derived.Test.YtggffhmdgceljaaGreatDoorOwaIp
import Derived.Test.YtggffhmdgceljaaGreatDoorOwaAh
import Derived.Test.YtggffhmdgceljaaGreatDoorOwaAd
import Derived.Test.YtggffhmdgceljaaGreatDoorOwaIl
import Derived.Test.YtggffhmdgceljaaGreatDoorOwaNe
namespace Go.Proofs.YtggffhmdgceljaaGreatDoor
open Go.RowKit
set_option linter.unusedVariables false
set_option linter.unusedSimpArgs false

set_option maxRecDepth 1000000 in
set_option maxHeartbeats 12800000 in
theorem sawk20 (w : World) (hX : AxesIn w) (ht : TabAt w) (hT : SAwk21 w) : SAwk20 w := by
  unfold SAwk20
  intro wx B25 B27 B29 g33 c33 u1 u2 u3 u4 u5 u6 u7 u8 u9 u10 u11 u12 u13 u14 u15 u16 u17 u18 u19 u20 u21 u22 u23 u24 u35 u36 u37 u38 u39 u40 u41 u42 u43 u44 u45 u46 u47 u48 u49 u50 u51 u52 u53 u54 u55 u56 u57 u58 u59 u60 u61 u62 u63 u64 u65 u66 u67 u68 u69 u70 u71 u72 u73 u74 u75 u76 u77 u78 u79 u80 u81 u82 u83 u84 u85 u86 u87 u88 u89 u90 u91 u92 u93 u94 u95 u96 u97 u98 u99 u100 u101 u102 u103 u104 u105 u106 u107 u108 u109 u110 u111 u112 u113 u114 u115 u116 u117 u118 u119 u120 u121 u122 u123 u124 u125 u126 u127 u128 u129 u130 u131 u132 u133 u134 u135 u136 u137 u138 u139 u140 u141 u142 u143 u144 u145 u146 u147 u148 u149 u150 u151 u152 u153 u154 u155 u156 u157 u158 u159 u160 u161 u162 u163 u164 u165 u166 u167 u168 u169 u170 u171 u172 u173 u174 u175 u176 u177 u178 u179 u180 u181 u182 u183 u184 u185 u186 u187 u188 u189 u190 u191 u192 u193 u194 u195 u196 u197 u198 u199 u200 u201 u202 u203 u204 u205 u206 u207 u208 u209 u210 u211 u212 u213 u214 u215 u216 u217 u218 u219 u220 u221 u222 u223 u224 u225 u226 u227 u228 u229 u230 u231 u232 u233 u234 u235 u236 u237 u238 u239 u240 u241 u242 u243 u244 u245 u246 u247 u248 u249 u250 u251 u252 u253 u254 u255 u256 u257 u258 u259 u260 u261 u262 u263 u264 u265 u266 u267 u268 u269 u270 u271 u272 u273 u274 u275 u276 u277 u278 u279 u280 u281 u282 u283 u284 u285 u286 u287 u288 u289 u290 u291 u292 u293 u294 u295 u296 u297 u298 u299 u300 u301 u302 u303 u304 u305 u306 u307 u308 u309 u310 u311 u312 u313 u314 u315 u316 u317 u318 u319 u320 u321 u322 hB f25 f27 f29 h33
  conv => arg 2; whnf
  dsimp only
  go_upto_region 20 with fail
  go_cut [35, 36] (fun s35 s36 wr => s35 = .int .i64 1 ∧ s36 = .int .i64 0 ∧ Below wx.heap.size wx wr)
  case first =>
    have KV : Hid (∀ (x y z : Int) (w1 : World), Calls Tryz.prog 55 #[.int .i64 x, .int .i64 y, .int .i64 z] w1 fun e w' => e = .returned (.agg #[.int .i64 x, .int .i64 y, .int .i64 z]) ∧ Below w1.heap.size w1 w') := Lib.hid vec_any
    go_wp2_with (first
      | (go_at_call 57; (with_reducible refine (day_any _).mono ?_); rintro e w1 ⟨g, rfl, hg, hb1⟩; have hD : DayIn w1 g := hg)
      | (go_at_call 36; (with_reducible refine (ex_highest hD).mono ?_); rintro e w2 ⟨rfl, hb2⟩))
    go_meet
    have hc := (hb1.trans (hb2.mono hb1.size))
    exact ⟨rfl, rfl, hc⟩
  case rest =>
    rename_i hK
    obtain ⟨rfl, rfl, hb⟩ := hcut
    refine hK _ _ ?_
    clear hK
    unfold SAwk21 at hT
    exact hT _ B25 B27 B29 g33 c33 _ _ _ _ _ _ _ _ _ _ _ _ _ _ _ _ _ _ _ _ _ _ _ _ _ _ _ _ _ _ _ _ _ _ _ _ _ _ _ _ _ _ _ _ _ _ _ _ _ _ _ _ _ _ _ _ _ _ _ _ _ _ _ _ _ _ _ _ _ _ _ _ _ _ _ _ _ _ _ _ _ _ _ _ _ _ _ _ _ _ _ _ _ _ _ _ _ _ _ _ _ _ _ _ _ _ _ _ _ _ _ _ _ _ _ _ _ _ _ _ _ _ _ _ _ _ _ _ _ _ _ _ _ _ _ _ _ _ _ _ _ _ _ _ _ _ _ _ _ _ _ _ _ _ _ _ _ _ _ _ _ _ _ _ _ _ _ _ _ _ _ _ _ _ _ _ _ _ _ _ _ _ _ _ _ _ _ _ _ _ _ _ _ _ _ _ _ _ _ _ _ _ _ _ _ _ _ _ _ _ _ _ _ _ _ _ _ _ _ _ _ _ _ _ _ _ _ _ _ _ _ _ _ _ _ _ _ _ _ _ _ _ _ _ _ _ _ _ _ _ _ _ _ _ _ _ _ _ _ _ _ _ _ _ _ _ _ _ _ _ _ _ _ _ _ _ _ _ _ _ _ _ _ _ _ _ _ _ _ _ _ _ _ _ _ _ _ _ _ _ _ _ _ _ _ _ _ _ _ _ (hB.trans (hb.mono hB.size)) ((hb.block _ (lt_of_blk f25)).trans f25) ((hb.block _ (lt_of_blk f27)).trans f27) ((hb.block _ (lt_of_blk f29)).trans f29) (⟨(hb.cell h33.2.2).trans h33.1, (hb.cell h33.2.2).trans h33.2.1, Nat.lt_of_lt_of_le h33.2.2 hb.size⟩)

set_option maxRecDepth 1000000 in
set_option maxHeartbeats 12800000 in
theorem sawk21 (w : World) (hX : AxesIn w) (ht : TabAt w) (hT : SAwk22 w) : SAwk21 w := by
  unfold SAwk21
  intro wx B25 B27 B29 g33 c33 u1 u2 u3 u4 u5 u6 u7 u8 u9 u10 u11 u12 u13 u14 u15 u16 u17 u18 u19 u20 u21 u22 u23 u24 u37 u38 u39 u40 u41 u42 u43 u44 u45 u46 u47 u48 u49 u50 u51 u52 u53 u54 u55 u56 u57 u58 u59 u60 u61 u62 u63 u64 u65 u66 u67 u68 u69 u70 u71 u72 u73 u74 u75 u76 u77 u78 u79 u80 u81 u82 u83 u84 u85 u86 u87 u88 u89 u90 u91 u92 u93 u94 u95 u96 u97 u98 u99 u100 u101 u102 u103 u104 u105 u106 u107 u108 u109 u110 u111 u112 u113 u114 u115 u116 u117 u118 u119 u120 u121 u122 u123 u124 u125 u126 u127 u128 u129 u130 u131 u132 u133 u134 u135 u136 u137 u138 u139 u140 u141 u142 u143 u144 u145 u146 u147 u148 u149 u150 u151 u152 u153 u154 u155 u156 u157 u158 u159 u160 u161 u162 u163 u164 u165 u166 u167 u168 u169 u170 u171 u172 u173 u174 u175 u176 u177 u178 u179 u180 u181 u182 u183 u184 u185 u186 u187 u188 u189 u190 u191 u192 u193 u194 u195 u196 u197 u198 u199 u200 u201 u202 u203 u204 u205 u206 u207 u208 u209 u210 u211 u212 u213 u214 u215 u216 u217 u218 u219 u220 u221 u222 u223 u224 u225 u226 u227 u228 u229 u230 u231 u232 u233 u234 u235 u236 u237 u238 u239 u240 u241 u242 u243 u244 u245 u246 u247 u248 u249 u250 u251 u252 u253 u254 u255 u256 u257 u258 u259 u260 u261 u262 u263 u264 u265 u266 u267 u268 u269 u270 u271 u272 u273 u274 u275 u276 u277 u278 u279 u280 u281 u282 u283 u284 u285 u286 u287 u288 u289 u290 u291 u292 u293 u294 u295 u296 u297 u298 u299 u300 u301 u302 u303 u304 u305 u306 u307 u308 u309 u310 u311 u312 u313 u314 u315 u316 u317 u318 u319 u320 u321 u322 hB f25 f27 f29 h33
  conv => arg 2; whnf
  dsimp only
  go_upto_region 21 with fail
  go_cut [37, 38] (fun s37 s38 wr => (∃ B, s37 = .pointer (some ⟨B, 0, none⟩) ∧ wr.heap[B]? = some (.cells #[.int .i64 8, .int .i64 0, .int .i64 3] 23 (0, 0))) ∧ s38 = .int .i64 0 ∧ Below wx.heap.size wx wr)
  case first =>
    have KV : Hid (∀ (x y z : Int) (w1 : World), Calls Tryz.prog 55 #[.int .i64 x, .int .i64 y, .int .i64 z] w1 fun e w' => e = .returned (.agg #[.int .i64 x, .int .i64 y, .int .i64 z]) ∧ Below w1.heap.size w1 w') := Lib.hid vec_any
    go_wp2_with (first
      | (go_at_call 59; (with_reducible refine (air_any _).mono ?_); rintro e w1 ⟨g, rfl, hg, hb1⟩; have hI : AirIn w1 g := hg)
      | (go_at_call 55; (with_reducible refine (KV.out (4) (0) (1) _).mono ?_); rintro e w2 ⟨rfl, hb2⟩)
      | (go_at_call 58; (with_reducible refine (ex_bent1 (hI.kept hb2) (hX.on ((hB.trans (hb1.mono hB.size)).trans (hb2.mono (Nat.le_trans hB.size hb1.size))))).mono ?_); rintro e w3 ⟨rfl, hb3⟩))
    go_meet
    have hc := ((hb1.trans (hb2.mono hb1.size)).trans (hb3.mono (hb1.trans (hb2.mono hb1.size)).size))
    exact ⟨⟨_, rfl, World.alloc_heap_new _ _⟩, rfl, hc.alloc hc.size _⟩
  case rest =>
    rename_i hK
    obtain ⟨⟨Bn, rfl, hbx⟩, rfl, hb⟩ := hcut
    refine hK _ _ ?_
    clear hK
    unfold SAwk22 at hT
    exact hT _ B25 B27 B29 g33 c33 _ _ _ _ _ _ _ _ _ _ _ _ _ _ _ _ _ _ _ _ _ _ _ _ _ _ _ _ _ _ _ _ _ _ _ _ _ _ _ _ _ _ _ _ _ _ _ _ _ _ _ _ _ _ _ _ _ _ _ _ _ _ _ _ _ _ _ _ _ _ _ _ _ _ _ _ _ _ _ _ _ _ _ _ _ _ _ _ _ _ _ _ _ _ _ _ _ _ _ _ _ _ _ _ _ _ _ _ _ _ _ _ _ _ _ _ _ _ _ _ _ _ _ _ _ _ _ _ _ _ _ _ _ _ _ _ _ _ _ _ _ _ _ _ _ _ _ _ _ _ _ _ _ _ _ _ _ _ _ _ _ _ _ _ _ _ _ _ _ _ _ _ _ _ _ _ _ _ _ _ _ _ _ _ _ _ _ _ _ _ _ _ _ _ _ _ _ _ _ _ _ _ _ _ _ _ _ _ _ _ _ _ _ _ _ _ _ _ _ _ _ _ _ _ _ _ _ _ _ _ _ _ _ _ _ _ _ _ _ _ _ _ _ _ _ _ _ _ _ _ _ _ _ _ _ _ _ _ _ _ _ _ _ _ _ _ _ _ _ _ _ _ _ _ _ _ _ _ _ _ _ _ _ _ _ _ _ _ _ _ _ _ _ _ _ _ _ _ _ _ _ _ _ _ _ _ _ _ _ (hB.trans (hb.mono hB.size)) ((hb.block _ (lt_of_blk f25)).trans f25) ((hb.block _ (lt_of_blk f27)).trans f27) ((hb.block _ (lt_of_blk f29)).trans f29) (⟨(hb.cell h33.2.2).trans h33.1, (hb.cell h33.2.2).trans h33.2.1, Nat.lt_of_lt_of_le h33.2.2 hb.size⟩) hbx

set_option maxRecDepth 1000000 in
set_option maxHeartbeats 12800000 in
theorem sawk22 (w : World) (hX : AxesIn w) (ht : TabAt w) (hT : SAwk23 w) : SAwk22 w := by
  unfold SAwk22
  intro wx B25 B27 B29 g33 c33 B37 u1 u2 u3 u4 u5 u6 u7 u8 u9 u10 u11 u12 u13 u14 u15 u16 u17 u18 u19 u20 u21 u22 u23 u24 u39 u40 u41 u42 u43 u44 u45 u46 u47 u48 u49 u50 u51 u52 u53 u54 u55 u56 u57 u58 u59 u60 u61 u62 u63 u64 u65 u66 u67 u68 u69 u70 u71 u72 u73 u74 u75 u76 u77 u78 u79 u80 u81 u82 u83 u84 u85 u86 u87 u88 u89 u90 u91 u92 u93 u94 u95 u96 u97 u98 u99 u100 u101 u102 u103 u104 u105 u106 u107 u108 u109 u110 u111 u112 u113 u114 u115 u116 u117 u118 u119 u120 u121 u122 u123 u124 u125 u126 u127 u128 u129 u130 u131 u132 u133 u134 u135 u136 u137 u138 u139 u140 u141 u142 u143 u144 u145 u146 u147 u148 u149 u150 u151 u152 u153 u154 u155 u156 u157 u158 u159 u160 u161 u162 u163 u164 u165 u166 u167 u168 u169 u170 u171 u172 u173 u174 u175 u176 u177 u178 u179 u180 u181 u182 u183 u184 u185 u186 u187 u188 u189 u190 u191 u192 u193 u194 u195 u196 u197 u198 u199 u200 u201 u202 u203 u204 u205 u206 u207 u208 u209 u210 u211 u212 u213 u214 u215 u216 u217 u218 u219 u220 u221 u222 u223 u224 u225 u226 u227 u228 u229 u230 u231 u232 u233 u234 u235 u236 u237 u238 u239 u240 u241 u242 u243 u244 u245 u246 u247 u248 u249 u250 u251 u252 u253 u254 u255 u256 u257 u258 u259 u260 u261 u262 u263 u264 u265 u266 u267 u268 u269 u270 u271 u272 u273 u274 u275 u276 u277 u278 u279 u280 u281 u282 u283 u284 u285 u286 u287 u288 u289 u290 u291 u292 u293 u294 u295 u296 u297 u298 u299 u300 u301 u302 u303 u304 u305 u306 u307 u308 u309 u310 u311 u312 u313 u314 u315 u316 u317 u318 u319 u320 u321 u322 hB f25 f27 f29 h33 f37
  conv => arg 2; whnf
  dsimp only
  go_upto_region 22 with fail
  go_cut [39, 40] (fun s39 s40 wr => (∃ B, s39 = .pointer (some ⟨B, 0, none⟩) ∧ wr.heap[B]? = some (.cells #[.int .i64 1, .int .i64 0, .int .i64 1] 23 (0, 0))) ∧ s40 = .int .i64 0 ∧ Below wx.heap.size wx wr)
  case first =>
    have KV : Hid (∀ (x y z : Int) (w1 : World), Calls Tryz.prog 55 #[.int .i64 x, .int .i64 y, .int .i64 z] w1 fun e w' => e = .returned (.agg #[.int .i64 x, .int .i64 y, .int .i64 z]) ∧ Below w1.heap.size w1 w') := Lib.hid vec_any
    go_wp2_with (first
      | (go_at_call 59; (with_reducible refine (air_any _).mono ?_); rintro e w1 ⟨g, rfl, hg, hb1⟩; have hI : AirIn w1 g := hg)
      | (go_at_call 55; (with_reducible refine (KV.out (1) (0) (1) _).mono ?_); rintro e w2 ⟨rfl, hb2⟩)
      | (go_at_call 58; (with_reducible refine (ex_bent2 (hI.kept hb2) (hX.on ((hB.trans (hb1.mono hB.size)).trans (hb2.mono (Nat.le_trans hB.size hb1.size))))).mono ?_); rintro e w3 ⟨rfl, hb3⟩))
    go_meet
    have hc := ((hb1.trans (hb2.mono hb1.size)).trans (hb3.mono (hb1.trans (hb2.mono hb1.size)).size))
    exact ⟨⟨_, rfl, World.alloc_heap_new _ _⟩, rfl, hc.alloc hc.size _⟩
  case rest =>
    rename_i hK
    obtain ⟨⟨Bn, rfl, hbx⟩, rfl, hb⟩ := hcut
    refine hK _ _ ?_
    clear hK
    unfold SAwk23 at hT
    exact hT _ B25 B27 B29 g33 c33 B37 _ _ _ _ _ _ _ _ _ _ _ _ _ _ _ _ _ _ _ _ _ _ _ _ _ _ _ _ _ _ _ _ _ _ _ _ _ _ _ _ _ _ _ _ _ _ _ _ _ _ _ _ _ _ _ _ _ _ _ _ _ _ _ _ _ _ _ _ _ _ _ _ _ _ _ _ _ _ _ _ _ _ _ _ _ _ _ _ _ _ _ _ _ _ _ _ _ _ _ _ _ _ _ _ _ _ _ _ _ _ _ _ _ _ _ _ _ _ _ _ _ _ _ _ _ _ _ _ _ _ _ _ _ _ _ _ _ _ _ _ _ _ _ _ _ _ _ _ _ _ _ _ _ _ _ _ _ _ _ _ _ _ _ _ _ _ _ _ _ _ _ _ _ _ _ _ _ _ _ _ _ _ _ _ _ _ _ _ _ _ _ _ _ _ _ _ _ _ _ _ _ _ _ _ _ _ _ _ _ _ _ _ _ _ _ _ _ _ _ _ _ _ _ _ _ _ _ _ _ _ _ _ _ _ _ _ _ _ _ _ _ _ _ _ _ _ _ _ _ _ _ _ _ _ _ _ _ _ _ _ _ _ _ _ _ _ _ _ _ _ _ _ _ _ _ _ _ _ _ _ _ _ _ _ _ _ _ _ _ _ _ _ _ _ _ _ _ _ _ _ _ _ _ _ _ _ _ (hB.trans (hb.mono hB.size)) ((hb.block _ (lt_of_blk f25)).trans f25) ((hb.block _ (lt_of_blk f27)).trans f27) ((hb.block _ (lt_of_blk f29)).trans f29) (⟨(hb.cell h33.2.2).trans h33.1, (hb.cell h33.2.2).trans h33.2.1, Nat.lt_of_lt_of_le h33.2.2 hb.size⟩) ((hb.block _ (lt_of_blk f37)).trans f37) hbx

set_option maxRecDepth 1000000 in
set_option maxHeartbeats 12800000 in
theorem sawk23 (w : World) (hX : AxesIn w) (ht : TabAt w) (hT : SAwk24 w) : SAwk23 w := by
  unfold SAwk23
  intro wx B25 B27 B29 g33 c33 B37 B39 u1 u2 u3 u4 u5 u6 u7 u8 u9 u10 u11 u12 u13 u14 u15 u16 u17 u18 u19 u20 u21 u22 u23 u24 u41 u42 u43 u44 u45 u46 u47 u48 u49 u50 u51 u52 u53 u54 u55 u56 u57 u58 u59 u60 u61 u62 u63 u64 u65 u66 u67 u68 u69 u70 u71 u72 u73 u74 u75 u76 u77 u78 u79 u80 u81 u82 u83 u84 u85 u86 u87 u88 u89 u90 u91 u92 u93 u94 u95 u96 u97 u98 u99 u100 u101 u102 u103 u104 u105 u106 u107 u108 u109 u110 u111 u112 u113 u114 u115 u116 u117 u118 u119 u120 u121 u122 u123 u124 u125 u126 u127 u128 u129 u130 u131 u132 u133 u134 u135 u136 u137 u138 u139 u140 u141 u142 u143 u144 u145 u146 u147 u148 u149 u150 u151 u152 u153 u154 u155 u156 u157 u158 u159 u160 u161 u162 u163 u164 u165 u166 u167 u168 u169 u170 u171 u172 u173 u174 u175 u176 u177 u178 u179 u180 u181 u182 u183 u184 u185 u186 u187 u188 u189 u190 u191 u192 u193 u194 u195 u196 u197 u198 u199 u200 u201 u202 u203 u204 u205 u206 u207 u208 u209 u210 u211 u212 u213 u214 u215 u216 u217 u218 u219 u220 u221 u222 u223 u224 u225 u226 u227 u228 u229 u230 u231 u232 u233 u234 u235 u236 u237 u238 u239 u240 u241 u242 u243 u244 u245 u246 u247 u248 u249 u250 u251 u252 u253 u254 u255 u256 u257 u258 u259 u260 u261 u262 u263 u264 u265 u266 u267 u268 u269 u270 u271 u272 u273 u274 u275 u276 u277 u278 u279 u280 u281 u282 u283 u284 u285 u286 u287 u288 u289 u290 u291 u292 u293 u294 u295 u296 u297 u298 u299 u300 u301 u302 u303 u304 u305 u306 u307 u308 u309 u310 u311 u312 u313 u314 u315 u316 u317 u318 u319 u320 u321 u322 hB f25 f27 f29 h33 f37 f39
  conv => arg 2; whnf
  dsimp only
  go_upto_region 23 with fail
  go_cut [41, 42] (fun s41 s42 wr => (∃ g9 c9, s41 = .slice (some ⟨g9, 0, none⟩) 1 c9 ∧ (wr.cell? ⟨g9, 0, none⟩ = some (.int .i64 4) ∧ wr.cell? ⟨g9, 0 + 1, none⟩ = some (.int .i64 0) ∧ wr.cell? ⟨g9, 0 + 2, none⟩ = some (.int .i64 1) ∧ g9 < wr.heap.size)) ∧ s42 = .int .i64 0 ∧ Below wx.heap.size wx wr)
  case first =>
    have KV : Hid (∀ (x y z : Int) (w1 : World), Calls Tryz.prog 55 #[.int .i64 x, .int .i64 y, .int .i64 z] w1 fun e w' => e = .returned (.agg #[.int .i64 x, .int .i64 y, .int .i64 z]) ∧ Below w1.heap.size w1 w') := Lib.hid vec_any
    go_wp2_with (first
      | (go_at_call 59; (with_reducible refine (air_any _).mono ?_); rintro e w1 ⟨g, rfl, hg, hb1⟩; have hI : AirIn w1 g := hg)
      | (go_at_call 55; (with_reducible refine (KV.out (8) (0) (3) _).mono ?_); rintro e w2 ⟨rfl, hb2⟩)
      | (go_at_call 60; (with_reducible refine (ex_unbent (hI.kept hb2) (hX.on ((hB.trans (hb1.mono hB.size)).trans (hb2.mono (Nat.le_trans hB.size hb1.size))))).mono ?_); rintro e w3 ⟨v, rfl, ho, hb3⟩; obtain ⟨g9, c9, rfl⟩ := ownsRow_one ho; have HO := Lib.hid ho; clear ho))
    go_meet
    have hc := ((hb1.trans (hb2.mono hb1.size)).trans (hb3.mono (hb1.trans (hb2.mono hb1.size)).size))
    exact ⟨⟨_, _, rfl, ownsRow_at HO.out (j := 0) rfl, ownsRow_at HO.out (j := 1) rfl, ownsRow_at HO.out (j := 2) rfl, ownsRow_in HO.out⟩, rfl, hc⟩
  case rest =>
    rename_i hK
    obtain ⟨⟨g9, c9, rfl, h9⟩, rfl, hb⟩ := hcut
    refine hK _ _ ?_
    clear hK
    unfold SAwk24 at hT
    exact hT _ B25 B27 B29 g33 c33 B37 B39 _ _ _ _ _ _ _ _ _ _ _ _ _ _ _ _ _ _ _ _ _ _ _ _ _ _ _ _ _ _ _ _ _ _ _ _ _ _ _ _ _ _ _ _ _ _ _ _ _ _ _ _ _ _ _ _ _ _ _ _ _ _ _ _ _ _ _ _ _ _ _ _ _ _ _ _ _ _ _ _ _ _ _ _ _ _ _ _ _ _ _ _ _ _ _ _ _ _ _ _ _ _ _ _ _ _ _ _ _ _ _ _ _ _ _ _ _ _ _ _ _ _ _ _ _ _ _ _ _ _ _ _ _ _ _ _ _ _ _ _ _ _ _ _ _ _ _ _ _ _ _ _ _ _ _ _ _ _ _ _ _ _ _ _ _ _ _ _ _ _ _ _ _ _ _ _ _ _ _ _ _ _ _ _ _ _ _ _ _ _ _ _ _ _ _ _ _ _ _ _ _ _ _ _ _ _ _ _ _ _ _ _ _ _ _ _ _ _ _ _ _ _ _ _ _ _ _ _ _ _ _ _ _ _ _ _ _ _ _ _ _ _ _ _ _ _ _ _ _ _ _ _ _ _ _ _ _ _ _ _ _ _ _ _ _ _ _ _ _ _ _ _ _ _ _ _ _ _ _ _ _ _ _ _ _ _ _ _ _ _ _ _ _ _ _ _ _ _ _ _ _ _ _ _ _ _ (hB.trans (hb.mono hB.size)) ((hb.block _ (lt_of_blk f25)).trans f25) ((hb.block _ (lt_of_blk f27)).trans f27) ((hb.block _ (lt_of_blk f29)).trans f29) (⟨(hb.cell h33.2.2).trans h33.1, (hb.cell h33.2.2).trans h33.2.1, Nat.lt_of_lt_of_le h33.2.2 hb.size⟩) ((hb.block _ (lt_of_blk f37)).trans f37) ((hb.block _ (lt_of_blk f39)).trans f39) h9

set_option maxRecDepth 1000000 in
set_option maxHeartbeats 12800000 in
theorem sawk24 (w : World) (hX : AxesIn w) (ht : TabAt w) (hT : SAwk25 w) : SAwk24 w := by
  unfold SAwk24
  intro wx B25 B27 B29 g33 c33 B37 B39 g41 c41 u1 u2 u3 u4 u5 u6 u7 u8 u9 u10 u11 u12 u13 u14 u15 u16 u17 u18 u19 u20 u21 u22 u23 u24 u43 u44 u45 u46 u47 u48 u49 u50 u51 u52 u53 u54 u55 u56 u57 u58 u59 u60 u61 u62 u63 u64 u65 u66 u67 u68 u69 u70 u71 u72 u73 u74 u75 u76 u77 u78 u79 u80 u81 u82 u83 u84 u85 u86 u87 u88 u89 u90 u91 u92 u93 u94 u95 u96 u97 u98 u99 u100 u101 u102 u103 u104 u105 u106 u107 u108 u109 u110 u111 u112 u113 u114 u115 u116 u117 u118 u119 u120 u121 u122 u123 u124 u125 u126 u127 u128 u129 u130 u131 u132 u133 u134 u135 u136 u137 u138 u139 u140 u141 u142 u143 u144 u145 u146 u147 u148 u149 u150 u151 u152 u153 u154 u155 u156 u157 u158 u159 u160 u161 u162 u163 u164 u165 u166 u167 u168 u169 u170 u171 u172 u173 u174 u175 u176 u177 u178 u179 u180 u181 u182 u183 u184 u185 u186 u187 u188 u189 u190 u191 u192 u193 u194 u195 u196 u197 u198 u199 u200 u201 u202 u203 u204 u205 u206 u207 u208 u209 u210 u211 u212 u213 u214 u215 u216 u217 u218 u219 u220 u221 u222 u223 u224 u225 u226 u227 u228 u229 u230 u231 u232 u233 u234 u235 u236 u237 u238 u239 u240 u241 u242 u243 u244 u245 u246 u247 u248 u249 u250 u251 u252 u253 u254 u255 u256 u257 u258 u259 u260 u261 u262 u263 u264 u265 u266 u267 u268 u269 u270 u271 u272 u273 u274 u275 u276 u277 u278 u279 u280 u281 u282 u283 u284 u285 u286 u287 u288 u289 u290 u291 u292 u293 u294 u295 u296 u297 u298 u299 u300 u301 u302 u303 u304 u305 u306 u307 u308 u309 u310 u311 u312 u313 u314 u315 u316 u317 u318 u319 u320 u321 u322 hB f25 f27 f29 h33 f37 f39 h41
  conv => arg 2; whnf
  dsimp only
  go_upto_region 24 with fail
  go_cut [43, 44] (fun s43 s44 wr => s43 = strV dayText ∧ s44 = .int .i64 0 ∧ Below wx.heap.size wx wr)
  case first =>
    have KV : Hid (∀ (x y z : Int) (w1 : World), Calls Tryz.prog 55 #[.int .i64 x, .int .i64 y, .int .i64 z] w1 fun e w' => e = .returned (.agg #[.int .i64 x, .int .i64 y, .int .i64 z]) ∧ Below w1.heap.size w1 w') := Lib.hid vec_any
    go_wp2_with (first
      | (go_at_call 57; (with_reducible refine (day_any _).mono ?_); rintro e w1 ⟨g, rfl, hg, hb1⟩; have hD : DayIn w1 g := hg)
      | (go_at_call 61; (with_reducible refine (ex_print hD (ht.on (hB.trans (hb1.mono hB.size)))).mono ?_); rintro e w2 ⟨rfl, hb2⟩))
    go_meet
    have hc := (hb1.trans (hb2.mono hb1.size))
    exact ⟨rfl, rfl, hc⟩
  case rest =>
    rename_i hK
    obtain ⟨rfl, rfl, hb⟩ := hcut
    refine hK _ _ ?_
    clear hK
    unfold SAwk25 at hT
    exact hT _ B25 B27 B29 g33 c33 B37 B39 g41 c41 _ _ _ _ _ _ _ _ _ _ _ _ _ _ _ _ _ _ _ _ _ _ _ _ _ _ _ _ _ _ _ _ _ _ _ _ _ _ _ _ _ _ _ _ _ _ _ _ _ _ _ _ _ _ _ _ _ _ _ _ _ _ _ _ _ _ _ _ _ _ _ _ _ _ _ _ _ _ _ _ _ _ _ _ _ _ _ _ _ _ _ _ _ _ _ _ _ _ _ _ _ _ _ _ _ _ _ _ _ _ _ _ _ _ _ _ _ _ _ _ _ _ _ _ _ _ _ _ _ _ _ _ _ _ _ _ _ _ _ _ _ _ _ _ _ _ _ _ _ _ _ _ _ _ _ _ _ _ _ _ _ _ _ _ _ _ _ _ _ _ _ _ _ _ _ _ _ _ _ _ _ _ _ _ _ _ _ _ _ _ _ _ _ _ _ _ _ _ _ _ _ _ _ _ _ _ _ _ _ _ _ _ _ _ _ _ _ _ _ _ _ _ _ _ _ _ _ _ _ _ _ _ _ _ _ _ _ _ _ _ _ _ _ _ _ _ _ _ _ _ _ _ _ _ _ _ _ _ _ _ _ _ _ _ _ _ _ _ _ _ _ _ _ _ _ _ _ _ _ _ _ _ _ _ _ _ _ _ _ _ _ _ _ _ _ _ _ _ _ _ _ _ (hB.trans (hb.mono hB.size)) ((hb.block _ (lt_of_blk f25)).trans f25) ((hb.block _ (lt_of_blk f27)).trans f27) ((hb.block _ (lt_of_blk f29)).trans f29) (⟨(hb.cell h33.2.2).trans h33.1, (hb.cell h33.2.2).trans h33.2.1, Nat.lt_of_lt_of_le h33.2.2 hb.size⟩) ((hb.block _ (lt_of_blk f37)).trans f37) ((hb.block _ (lt_of_blk f39)).trans f39) (⟨(hb.cell h41.2.2.2).trans h41.1, (hb.cell h41.2.2.2).trans h41.2.1, (hb.cell h41.2.2.2).trans h41.2.2.1, Nat.lt_of_lt_of_le h41.2.2.2 hb.size⟩)

end Go.Proofs.YtggffhmdgceljaaGreatDoor

/-
  The walk of SunWays: up to region 3, and what is no input.
-/
namespace Go.Proofs.YtggffhmdgceljaaGreatDoor
open Go.RowKit
set_option linter.unusedVariables false
set_option linter.unusedSimpArgs false
set_option maxRecDepth 1000000 in
set_option maxHeartbeats 12800000 in
theorem sw_no0 (w : World) (x y z num den a b c d i f p q : Int) (ce : Int) (hc : (ce != 0) = true)
    (KC : Hid (∀ w1 : World, Calls Tryz.prog 10 #[.agg #[.int .i64 x, .int .i64 y, .int .i64 z, .int .i64 num, .int .i64 den]] w1 fun e w' => e = .returned (.int .i64 ce) ∧ Below w1.heap.size w1 w'))
    (KW : Hid (∀ w1 : World, Below w.heap.size w w1 → Calls Tryz.prog 17 #[] w1 fun e w' => e = .returned (.bool true) ∧ Below w1.heap.size w1 w'))
    : Calls Tryz.prog 5 #[.agg #[.int .i64 x, .int .i64 y, .int .i64 z, .int .i64 num, .int .i64 den], .agg #[.int .i64 a, .int .i64 b, .int .i64 c, .int .i64 d, .int .i64 i, .int .i64 f], .agg #[.int .u8 p, .int .u8 q]] w (SunPost w) := by
  obtain ⟨W0, hW0⟩ : ∃ W0, (((w.alloc (.cells #[.int .i64 x, .int .i64 y, .int .i64 z, .int .i64 num, .int .i64 den] 25)).alloc (.cells #[.int .i64 a, .int .i64 b, .int .i64 c, .int .i64 d, .int .i64 i, .int .i64 f] 46)).alloc (.cells #[.int .u8 p, .int .u8 q] 60)) = W0 := ⟨_, rfl⟩
  have K0 : Hid (Kp w W0 [(w.heap.size + 1 + 1, (.cells #[.int .u8 p, .int .u8 q] 60 (0, 0))), (w.heap.size + 1, (.cells #[.int .i64 a, .int .i64 b, .int .i64 c, .int .i64 d, .int .i64 i, .int .i64 f] 46 (0, 0))), (w.heap.size, (.cells #[.int .i64 x, .int .i64 y, .int .i64 z, .int .i64 num, .int .i64 den] 25 (0, 0)))]) := Lib.hid (by
    rw [← hW0]
    have k := ((((Kp.none w).alloc (.cells #[.int .i64 x, .int .i64 y, .int .i64 z, .int .i64 num, .int .i64 den] 25)).alloc (.cells #[.int .i64 a, .int .i64 b, .int .i64 c, .int .i64 d, .int .i64 i, .int .i64 f] 46)).alloc (.cells #[.int .u8 p, .int .u8 q] 60))
    simpa using k)
  go_enter Tryz.func5, Tryz.ntmps5
  go_upto_region 1 with fail
  try rw [hW0]
  clear hW0
  obtain ⟨x0, x1, x2, x3, x4⟩ := cells5 (K0.out.2 _ (.tail _ (.tail _ (.head _)))); obtain ⟨v0, v1, v2, v3, v4, v5⟩ := cells6 (K0.out.2 _ (.tail _ (.head _)))
  go_wp2_with (first
    | (go_at_call 10; (with_reducible refine (KC.out _).mono ?_); rintro e w1 ⟨rfl, hb1⟩; have K1 := Lib.hid (K0.out.call hb1))
    | (go_at_call 17; (with_reducible refine (KW.out _ K1.out.below).mono ?_); rintro e w99 ⟨rfl, hb99⟩; have K99 := Lib.hid (K1.out.call hb99)))
  go_ret
  exact ⟨rfl, K99.out.below⟩

set_option maxRecDepth 1000000 in
set_option maxHeartbeats 12800000 in
theorem sw_no1 (w : World) (x y z num den a b c d i f p q : Int)
    (KC : Hid (∀ w1 : World, Calls Tryz.prog 10 #[.agg #[.int .i64 x, .int .i64 y, .int .i64 z, .int .i64 num, .int .i64 den]] w1 fun e w' => e = .returned (.int .i64 0) ∧ Below w1.heap.size w1 w'))
    (T0 : Hid (∀ w1 : World, Calls Tryz.prog 19 #[.agg #[.int .i64 x, .int .i64 y, .int .i64 z]] w1 fun e w' => e = .returned (.bool false) ∧ Below w1.heap.size w1 w'))
    (KW : Hid (∀ w1 : World, Below w.heap.size w w1 → Calls Tryz.prog 17 #[] w1 fun e w' => e = .returned (.bool true) ∧ Below w1.heap.size w1 w'))
    : Calls Tryz.prog 5 #[.agg #[.int .i64 x, .int .i64 y, .int .i64 z, .int .i64 num, .int .i64 den], .agg #[.int .i64 a, .int .i64 b, .int .i64 c, .int .i64 d, .int .i64 i, .int .i64 f], .agg #[.int .u8 p, .int .u8 q]] w (SunPost w) := by
  obtain ⟨W0, hW0⟩ : ∃ W0, (((w.alloc (.cells #[.int .i64 x, .int .i64 y, .int .i64 z, .int .i64 num, .int .i64 den] 25)).alloc (.cells #[.int .i64 a, .int .i64 b, .int .i64 c, .int .i64 d, .int .i64 i, .int .i64 f] 46)).alloc (.cells #[.int .u8 p, .int .u8 q] 60)) = W0 := ⟨_, rfl⟩
  have K0 : Hid (Kp w W0 [(w.heap.size + 1 + 1, (.cells #[.int .u8 p, .int .u8 q] 60 (0, 0))), (w.heap.size + 1, (.cells #[.int .i64 a, .int .i64 b, .int .i64 c, .int .i64 d, .int .i64 i, .int .i64 f] 46 (0, 0))), (w.heap.size, (.cells #[.int .i64 x, .int .i64 y, .int .i64 z, .int .i64 num, .int .i64 den] 25 (0, 0)))]) := Lib.hid (by
    rw [← hW0]
    have k := ((((Kp.none w).alloc (.cells #[.int .i64 x, .int .i64 y, .int .i64 z, .int .i64 num, .int .i64 den] 25)).alloc (.cells #[.int .i64 a, .int .i64 b, .int .i64 c, .int .i64 d, .int .i64 i, .int .i64 f] 46)).alloc (.cells #[.int .u8 p, .int .u8 q] 60))
    simpa using k)
  go_enter Tryz.func5, Tryz.ntmps5
  go_upto_region 1 with fail
  try rw [hW0]
  clear hW0
  obtain ⟨x0, x1, x2, x3, x4⟩ := cells5 (K0.out.2 _ (.tail _ (.tail _ (.head _)))); obtain ⟨v0, v1, v2, v3, v4, v5⟩ := cells6 (K0.out.2 _ (.tail _ (.head _)))
  go_wp2_with (first
    | (go_at_call 10; (with_reducible refine (KC.out _).mono ?_); rintro e w1 ⟨rfl, hb1⟩; have K1 := Lib.hid (K0.out.call hb1); clear hb1 x0 x1 x2 x3 x4 v0 v1 v2 v3 v4 v5; obtain ⟨x0, x1, x2, x3, x4⟩ := cells5 (K1.out.2 _ (.tail _ (.tail _ (.head _)))); obtain ⟨v0, v1, v2, v3, v4, v5⟩ := cells6 (K1.out.2 _ (.tail _ (.head _))))
    | (go_at_call 19; (with_reducible refine (T0.out _).mono ?_); rintro e w2 ⟨rfl, hb2⟩; have K2 := Lib.hid (K1.out.call hb2))
    | (go_at_call 17; (with_reducible refine (KW.out _ K2.out.below).mono ?_); rintro e w99 ⟨rfl, hb99⟩; have K99 := Lib.hid (K2.out.call hb99)))
  go_ret
  exact ⟨rfl, K99.out.below⟩

set_option maxRecDepth 1000000 in
set_option maxHeartbeats 12800000 in
theorem sw_no2 (w : World) (x y z num den a b c d i f p q : Int)
    (KC : Hid (∀ w1 : World, Calls Tryz.prog 10 #[.agg #[.int .i64 x, .int .i64 y, .int .i64 z, .int .i64 num, .int .i64 den]] w1 fun e w' => e = .returned (.int .i64 0) ∧ Below w1.heap.size w1 w'))
    (T0 : Hid (∀ w1 : World, Calls Tryz.prog 19 #[.agg #[.int .i64 x, .int .i64 y, .int .i64 z]] w1 fun e w' => e = .returned (.bool true) ∧ Below w1.heap.size w1 w'))
    (T1 : Hid (∀ w1 : World, Calls Tryz.prog 19 #[.agg #[.int .i64 a, .int .i64 b, .int .i64 c]] w1 fun e w' => e = .returned (.bool false) ∧ Below w1.heap.size w1 w'))
    (KW : Hid (∀ w1 : World, Below w.heap.size w w1 → Calls Tryz.prog 17 #[] w1 fun e w' => e = .returned (.bool true) ∧ Below w1.heap.size w1 w'))
    : Calls Tryz.prog 5 #[.agg #[.int .i64 x, .int .i64 y, .int .i64 z, .int .i64 num, .int .i64 den], .agg #[.int .i64 a, .int .i64 b, .int .i64 c, .int .i64 d, .int .i64 i, .int .i64 f], .agg #[.int .u8 p, .int .u8 q]] w (SunPost w) := by
  obtain ⟨W0, hW0⟩ : ∃ W0, (((w.alloc (.cells #[.int .i64 x, .int .i64 y, .int .i64 z, .int .i64 num, .int .i64 den] 25)).alloc (.cells #[.int .i64 a, .int .i64 b, .int .i64 c, .int .i64 d, .int .i64 i, .int .i64 f] 46)).alloc (.cells #[.int .u8 p, .int .u8 q] 60)) = W0 := ⟨_, rfl⟩
  have K0 : Hid (Kp w W0 [(w.heap.size + 1 + 1, (.cells #[.int .u8 p, .int .u8 q] 60 (0, 0))), (w.heap.size + 1, (.cells #[.int .i64 a, .int .i64 b, .int .i64 c, .int .i64 d, .int .i64 i, .int .i64 f] 46 (0, 0))), (w.heap.size, (.cells #[.int .i64 x, .int .i64 y, .int .i64 z, .int .i64 num, .int .i64 den] 25 (0, 0)))]) := Lib.hid (by
    rw [← hW0]
    have k := ((((Kp.none w).alloc (.cells #[.int .i64 x, .int .i64 y, .int .i64 z, .int .i64 num, .int .i64 den] 25)).alloc (.cells #[.int .i64 a, .int .i64 b, .int .i64 c, .int .i64 d, .int .i64 i, .int .i64 f] 46)).alloc (.cells #[.int .u8 p, .int .u8 q] 60))
    simpa using k)
  go_enter Tryz.func5, Tryz.ntmps5
  go_upto_region 1 with fail
  try rw [hW0]
  clear hW0
  obtain ⟨x0, x1, x2, x3, x4⟩ := cells5 (K0.out.2 _ (.tail _ (.tail _ (.head _)))); obtain ⟨v0, v1, v2, v3, v4, v5⟩ := cells6 (K0.out.2 _ (.tail _ (.head _)))
  go_wp2_with (first
    | (go_at_call 10; (with_reducible refine (KC.out _).mono ?_); rintro e w1 ⟨rfl, hb1⟩; have K1 := Lib.hid (K0.out.call hb1); clear hb1 x0 x1 x2 x3 x4 v0 v1 v2 v3 v4 v5; obtain ⟨x0, x1, x2, x3, x4⟩ := cells5 (K1.out.2 _ (.tail _ (.tail _ (.head _)))); obtain ⟨v0, v1, v2, v3, v4, v5⟩ := cells6 (K1.out.2 _ (.tail _ (.head _))))
    | (go_at_call 19; (with_reducible refine (T0.out _).mono ?_); rintro e w2 ⟨rfl, hb2⟩; have K2 := Lib.hid (K1.out.call hb2); clear hb2 x0 x1 x2 x3 x4 v0 v1 v2 v3 v4 v5; obtain ⟨x0, x1, x2, x3, x4⟩ := cells5 (K2.out.2 _ (.tail _ (.tail _ (.head _)))); obtain ⟨v0, v1, v2, v3, v4, v5⟩ := cells6 (K2.out.2 _ (.tail _ (.head _))))
    | (go_at_call 19; (with_reducible refine (T1.out _).mono ?_); rintro e w3 ⟨rfl, hb3⟩; have K3 := Lib.hid (K2.out.call hb3))
    | (go_at_call 17; (with_reducible refine (KW.out _ K3.out.below).mono ?_); rintro e w99 ⟨rfl, hb99⟩; have K99 := Lib.hid (K3.out.call hb99)))
  go_ret
  exact ⟨rfl, K99.out.below⟩

set_option maxRecDepth 1000000 in
set_option maxHeartbeats 12800000 in
theorem sw_no3 (w : World) (x y z num den a b c d i f p q : Int)
    (KC : Hid (∀ w1 : World, Calls Tryz.prog 10 #[.agg #[.int .i64 x, .int .i64 y, .int .i64 z, .int .i64 num, .int .i64 den]] w1 fun e w' => e = .returned (.int .i64 0) ∧ Below w1.heap.size w1 w'))
    (T0 : Hid (∀ w1 : World, Calls Tryz.prog 19 #[.agg #[.int .i64 x, .int .i64 y, .int .i64 z]] w1 fun e w' => e = .returned (.bool true) ∧ Below w1.heap.size w1 w'))
    (T1 : Hid (∀ w1 : World, Calls Tryz.prog 19 #[.agg #[.int .i64 a, .int .i64 b, .int .i64 c]] w1 fun e w' => e = .returned (.bool true) ∧ Below w1.heap.size w1 w'))
    (T2 : Hid (∀ w1 : World, Calls Tryz.prog 19 #[.agg #[.int .i64 d, .int .i64 i, .int .i64 f]] w1 fun e w' => e = .returned (.bool false) ∧ Below w1.heap.size w1 w'))
    (KW : Hid (∀ w1 : World, Below w.heap.size w w1 → Calls Tryz.prog 17 #[] w1 fun e w' => e = .returned (.bool true) ∧ Below w1.heap.size w1 w'))
    : Calls Tryz.prog 5 #[.agg #[.int .i64 x, .int .i64 y, .int .i64 z, .int .i64 num, .int .i64 den], .agg #[.int .i64 a, .int .i64 b, .int .i64 c, .int .i64 d, .int .i64 i, .int .i64 f], .agg #[.int .u8 p, .int .u8 q]] w (SunPost w) := by
  obtain ⟨W0, hW0⟩ : ∃ W0, (((w.alloc (.cells #[.int .i64 x, .int .i64 y, .int .i64 z, .int .i64 num, .int .i64 den] 25)).alloc (.cells #[.int .i64 a, .int .i64 b, .int .i64 c, .int .i64 d, .int .i64 i, .int .i64 f] 46)).alloc (.cells #[.int .u8 p, .int .u8 q] 60)) = W0 := ⟨_, rfl⟩
  have K0 : Hid (Kp w W0 [(w.heap.size + 1 + 1, (.cells #[.int .u8 p, .int .u8 q] 60 (0, 0))), (w.heap.size + 1, (.cells #[.int .i64 a, .int .i64 b, .int .i64 c, .int .i64 d, .int .i64 i, .int .i64 f] 46 (0, 0))), (w.heap.size, (.cells #[.int .i64 x, .int .i64 y, .int .i64 z, .int .i64 num, .int .i64 den] 25 (0, 0)))]) := Lib.hid (by
    rw [← hW0]
    have k := ((((Kp.none w).alloc (.cells #[.int .i64 x, .int .i64 y, .int .i64 z, .int .i64 num, .int .i64 den] 25)).alloc (.cells #[.int .i64 a, .int .i64 b, .int .i64 c, .int .i64 d, .int .i64 i, .int .i64 f] 46)).alloc (.cells #[.int .u8 p, .int .u8 q] 60))
    simpa using k)
  go_enter Tryz.func5, Tryz.ntmps5
  go_upto_region 1 with fail
  try rw [hW0]
  clear hW0
  obtain ⟨x0, x1, x2, x3, x4⟩ := cells5 (K0.out.2 _ (.tail _ (.tail _ (.head _)))); obtain ⟨v0, v1, v2, v3, v4, v5⟩ := cells6 (K0.out.2 _ (.tail _ (.head _)))
  go_wp2_with (first
    | (go_at_call 10; (with_reducible refine (KC.out _).mono ?_); rintro e w1 ⟨rfl, hb1⟩; have K1 := Lib.hid (K0.out.call hb1); clear hb1 x0 x1 x2 x3 x4 v0 v1 v2 v3 v4 v5; obtain ⟨x0, x1, x2, x3, x4⟩ := cells5 (K1.out.2 _ (.tail _ (.tail _ (.head _)))); obtain ⟨v0, v1, v2, v3, v4, v5⟩ := cells6 (K1.out.2 _ (.tail _ (.head _))))
    | (go_at_call 19; (with_reducible refine (T0.out _).mono ?_); rintro e w2 ⟨rfl, hb2⟩; have K2 := Lib.hid (K1.out.call hb2); clear hb2 x0 x1 x2 x3 x4 v0 v1 v2 v3 v4 v5; obtain ⟨x0, x1, x2, x3, x4⟩ := cells5 (K2.out.2 _ (.tail _ (.tail _ (.head _)))); obtain ⟨v0, v1, v2, v3, v4, v5⟩ := cells6 (K2.out.2 _ (.tail _ (.head _))))
    | (go_at_call 19; (with_reducible refine (T1.out _).mono ?_); rintro e w3 ⟨rfl, hb3⟩; have K3 := Lib.hid (K2.out.call hb3); clear hb3 x0 x1 x2 x3 x4 v0 v1 v2 v3 v4 v5; obtain ⟨x0, x1, x2, x3, x4⟩ := cells5 (K3.out.2 _ (.tail _ (.tail _ (.head _)))); obtain ⟨v0, v1, v2, v3, v4, v5⟩ := cells6 (K3.out.2 _ (.tail _ (.head _))))
    | (go_at_call 19; (with_reducible refine (T2.out _).mono ?_); rintro e w4 ⟨rfl, hb4⟩; have K4 := Lib.hid (K3.out.call hb4))
    | (go_at_call 17; (with_reducible refine (KW.out _ K4.out.below).mono ?_); rintro e w99 ⟨rfl, hb99⟩; have K99 := Lib.hid (K4.out.call hb99)))
  go_ret
  exact ⟨rfl, K99.out.below⟩

set_option maxRecDepth 1000000 in
set_option maxHeartbeats 12800000 in
theorem sw_no4 (w : World) (x y z num den a b c d i f p q : Int)
    (KC : Hid (∀ w1 : World, Calls Tryz.prog 10 #[.agg #[.int .i64 x, .int .i64 y, .int .i64 z, .int .i64 num, .int .i64 den]] w1 fun e w' => e = .returned (.int .i64 0) ∧ Below w1.heap.size w1 w'))
    (T0 : Hid (∀ w1 : World, Calls Tryz.prog 19 #[.agg #[.int .i64 x, .int .i64 y, .int .i64 z]] w1 fun e w' => e = .returned (.bool true) ∧ Below w1.heap.size w1 w'))
    (T1 : Hid (∀ w1 : World, Calls Tryz.prog 19 #[.agg #[.int .i64 a, .int .i64 b, .int .i64 c]] w1 fun e w' => e = .returned (.bool true) ∧ Below w1.heap.size w1 w'))
    (T2 : Hid (∀ w1 : World, Calls Tryz.prog 19 #[.agg #[.int .i64 d, .int .i64 i, .int .i64 f]] w1 fun e w' => e = .returned (.bool true) ∧ Below w1.heap.size w1 w'))
    (KO : Hid (∀ w1 : World, Calls Tryz.prog 26 #[.agg #[.int .i64 a, .int .i64 b, .int .i64 c], .agg #[.int .i64 d, .int .i64 i, .int .i64 f]] w1 fun e w' => e = .returned (.bool true) ∧ Below w1.heap.size w1 w'))
    (KW : Hid (∀ w1 : World, Below w.heap.size w w1 → Calls Tryz.prog 17 #[] w1 fun e w' => e = .returned (.bool true) ∧ Below w1.heap.size w1 w'))
    : Calls Tryz.prog 5 #[.agg #[.int .i64 x, .int .i64 y, .int .i64 z, .int .i64 num, .int .i64 den], .agg #[.int .i64 a, .int .i64 b, .int .i64 c, .int .i64 d, .int .i64 i, .int .i64 f], .agg #[.int .u8 p, .int .u8 q]] w (SunPost w) := by
  obtain ⟨W0, hW0⟩ : ∃ W0, (((w.alloc (.cells #[.int .i64 x, .int .i64 y, .int .i64 z, .int .i64 num, .int .i64 den] 25)).alloc (.cells #[.int .i64 a, .int .i64 b, .int .i64 c, .int .i64 d, .int .i64 i, .int .i64 f] 46)).alloc (.cells #[.int .u8 p, .int .u8 q] 60)) = W0 := ⟨_, rfl⟩
  have K0 : Hid (Kp w W0 [(w.heap.size + 1 + 1, (.cells #[.int .u8 p, .int .u8 q] 60 (0, 0))), (w.heap.size + 1, (.cells #[.int .i64 a, .int .i64 b, .int .i64 c, .int .i64 d, .int .i64 i, .int .i64 f] 46 (0, 0))), (w.heap.size, (.cells #[.int .i64 x, .int .i64 y, .int .i64 z, .int .i64 num, .int .i64 den] 25 (0, 0)))]) := Lib.hid (by
    rw [← hW0]
    have k := ((((Kp.none w).alloc (.cells #[.int .i64 x, .int .i64 y, .int .i64 z, .int .i64 num, .int .i64 den] 25)).alloc (.cells #[.int .i64 a, .int .i64 b, .int .i64 c, .int .i64 d, .int .i64 i, .int .i64 f] 46)).alloc (.cells #[.int .u8 p, .int .u8 q] 60))
    simpa using k)
  go_enter Tryz.func5, Tryz.ntmps5
  go_upto_region 1 with fail
  try rw [hW0]
  clear hW0
  obtain ⟨x0, x1, x2, x3, x4⟩ := cells5 (K0.out.2 _ (.tail _ (.tail _ (.head _)))); obtain ⟨v0, v1, v2, v3, v4, v5⟩ := cells6 (K0.out.2 _ (.tail _ (.head _)))
  go_wp2_with (first
    | (go_at_call 10; (with_reducible refine (KC.out _).mono ?_); rintro e w1 ⟨rfl, hb1⟩; have K1 := Lib.hid (K0.out.call hb1); clear hb1 x0 x1 x2 x3 x4 v0 v1 v2 v3 v4 v5; obtain ⟨x0, x1, x2, x3, x4⟩ := cells5 (K1.out.2 _ (.tail _ (.tail _ (.head _)))); obtain ⟨v0, v1, v2, v3, v4, v5⟩ := cells6 (K1.out.2 _ (.tail _ (.head _))))
    | (go_at_call 19; (with_reducible refine (T0.out _).mono ?_); rintro e w2 ⟨rfl, hb2⟩; have K2 := Lib.hid (K1.out.call hb2); clear hb2 x0 x1 x2 x3 x4 v0 v1 v2 v3 v4 v5; obtain ⟨x0, x1, x2, x3, x4⟩ := cells5 (K2.out.2 _ (.tail _ (.tail _ (.head _)))); obtain ⟨v0, v1, v2, v3, v4, v5⟩ := cells6 (K2.out.2 _ (.tail _ (.head _))))
    | (go_at_call 19; (with_reducible refine (T1.out _).mono ?_); rintro e w3 ⟨rfl, hb3⟩; have K3 := Lib.hid (K2.out.call hb3); clear hb3 x0 x1 x2 x3 x4 v0 v1 v2 v3 v4 v5; obtain ⟨x0, x1, x2, x3, x4⟩ := cells5 (K3.out.2 _ (.tail _ (.tail _ (.head _)))); obtain ⟨v0, v1, v2, v3, v4, v5⟩ := cells6 (K3.out.2 _ (.tail _ (.head _))))
    | (go_at_call 19; (with_reducible refine (T2.out _).mono ?_); rintro e w4 ⟨rfl, hb4⟩; have K4 := Lib.hid (K3.out.call hb4); clear hb4 x0 x1 x2 x3 x4 v0 v1 v2 v3 v4 v5; obtain ⟨x0, x1, x2, x3, x4⟩ := cells5 (K4.out.2 _ (.tail _ (.tail _ (.head _)))); obtain ⟨v0, v1, v2, v3, v4, v5⟩ := cells6 (K4.out.2 _ (.tail _ (.head _))))
    | (go_at_call 26; (with_reducible refine (KO.out _).mono ?_); rintro e w5 ⟨rfl, hb5⟩; have K5 := Lib.hid (K4.out.call hb5))
    | (go_at_call 17; (with_reducible refine (KW.out _ K5.out.below).mono ?_); rintro e w99 ⟨rfl, hb99⟩; have K99 := Lib.hid (K5.out.call hb99)))
  go_ret
  exact ⟨rfl, K99.out.below⟩

set_option maxRecDepth 1000000 in
set_option maxHeartbeats 12800000 in
theorem sw_first (w : World) (x y z num den a b c d i f p q : Int)
    (KC : Hid (∀ w1 : World, Calls Tryz.prog 10 #[.agg #[.int .i64 x, .int .i64 y, .int .i64 z, .int .i64 num, .int .i64 den]] w1 fun e w' => e = .returned (.int .i64 0) ∧ Below w1.heap.size w1 w'))
    (T0 : Hid (∀ w1 : World, Calls Tryz.prog 19 #[.agg #[.int .i64 x, .int .i64 y, .int .i64 z]] w1 fun e w' => e = .returned (.bool true) ∧ Below w1.heap.size w1 w'))
    (T1 : Hid (∀ w1 : World, Calls Tryz.prog 19 #[.agg #[.int .i64 a, .int .i64 b, .int .i64 c]] w1 fun e w' => e = .returned (.bool true) ∧ Below w1.heap.size w1 w'))
    (T2 : Hid (∀ w1 : World, Calls Tryz.prog 19 #[.agg #[.int .i64 d, .int .i64 i, .int .i64 f]] w1 fun e w' => e = .returned (.bool true) ∧ Below w1.heap.size w1 w'))
    (KO : Hid (∀ w1 : World, Calls Tryz.prog 26 #[.agg #[.int .i64 a, .int .i64 b, .int .i64 c], .agg #[.int .i64 d, .int .i64 i, .int .i64 f]] w1 fun e w' => e = .returned (.bool false) ∧ Below w1.heap.size w1 w'))
    (hT : SWy3 w x y z num den a b c d i f p q) : Calls Tryz.prog 5 #[.agg #[.int .i64 x, .int .i64 y, .int .i64 z, .int .i64 num, .int .i64 den], .agg #[.int .i64 a, .int .i64 b, .int .i64 c, .int .i64 d, .int .i64 i, .int .i64 f], .agg #[.int .u8 p, .int .u8 q]] w (SunPost w) := by
  obtain ⟨W0, hW0⟩ : ∃ W0, (((w.alloc (.cells #[.int .i64 x, .int .i64 y, .int .i64 z, .int .i64 num, .int .i64 den] 25)).alloc (.cells #[.int .i64 a, .int .i64 b, .int .i64 c, .int .i64 d, .int .i64 i, .int .i64 f] 46)).alloc (.cells #[.int .u8 p, .int .u8 q] 60)) = W0 := ⟨_, rfl⟩
  have K0 : Hid (Kp w W0 [(w.heap.size + 1 + 1, (.cells #[.int .u8 p, .int .u8 q] 60 (0, 0))), (w.heap.size + 1, (.cells #[.int .i64 a, .int .i64 b, .int .i64 c, .int .i64 d, .int .i64 i, .int .i64 f] 46 (0, 0))), (w.heap.size, (.cells #[.int .i64 x, .int .i64 y, .int .i64 z, .int .i64 num, .int .i64 den] 25 (0, 0)))]) := Lib.hid (by
    rw [← hW0]
    have k := ((((Kp.none w).alloc (.cells #[.int .i64 x, .int .i64 y, .int .i64 z, .int .i64 num, .int .i64 den] 25)).alloc (.cells #[.int .i64 a, .int .i64 b, .int .i64 c, .int .i64 d, .int .i64 i, .int .i64 f] 46)).alloc (.cells #[.int .u8 p, .int .u8 q] 60))
    simpa using k)
  go_enter Tryz.func5, Tryz.ntmps5
  go_upto_region 1 with fail
  try rw [hW0]
  clear hW0
  go_upto_region 1 with fail
  go_cut [56] (fun s56 wr => s56 = .bool false ∧ Kp w wr [(w.heap.size + 1 + 1, (.cells #[.int .u8 p, .int .u8 q] 60 (0, 0))), (w.heap.size + 1, (.cells #[.int .i64 a, .int .i64 b, .int .i64 c, .int .i64 d, .int .i64 i, .int .i64 f] 46 (0, 0))), (w.heap.size, (.cells #[.int .i64 x, .int .i64 y, .int .i64 z, .int .i64 num, .int .i64 den] 25 (0, 0)))])
  case first =>
    obtain ⟨x0, x1, x2, x3, x4⟩ := cells5 (K0.out.2 _ (.tail _ (.tail _ (.head _)))); obtain ⟨v0, v1, v2, v3, v4, v5⟩ := cells6 (K0.out.2 _ (.tail _ (.head _)))
    go_wp2_with (first
      | (go_at_call 10; (with_reducible refine (KC.out _).mono ?_); rintro e w1 ⟨rfl, hb1⟩; have K1 := Lib.hid (K0.out.call hb1); clear hb1 x0 x1 x2 x3 x4 v0 v1 v2 v3 v4 v5; obtain ⟨x0, x1, x2, x3, x4⟩ := cells5 (K1.out.2 _ (.tail _ (.tail _ (.head _)))); obtain ⟨v0, v1, v2, v3, v4, v5⟩ := cells6 (K1.out.2 _ (.tail _ (.head _))))
      | (go_at_call 19; (with_reducible refine (T0.out _).mono ?_); rintro e w2 ⟨rfl, hb2⟩; have K2 := Lib.hid (K1.out.call hb2); clear hb2 x0 x1 x2 x3 x4 v0 v1 v2 v3 v4 v5; obtain ⟨x0, x1, x2, x3, x4⟩ := cells5 (K2.out.2 _ (.tail _ (.tail _ (.head _)))); obtain ⟨v0, v1, v2, v3, v4, v5⟩ := cells6 (K2.out.2 _ (.tail _ (.head _))))
      | (go_at_call 19; (with_reducible refine (T1.out _).mono ?_); rintro e w3 ⟨rfl, hb3⟩; have K3 := Lib.hid (K2.out.call hb3); clear hb3 x0 x1 x2 x3 x4 v0 v1 v2 v3 v4 v5; obtain ⟨x0, x1, x2, x3, x4⟩ := cells5 (K3.out.2 _ (.tail _ (.tail _ (.head _)))); obtain ⟨v0, v1, v2, v3, v4, v5⟩ := cells6 (K3.out.2 _ (.tail _ (.head _))))
      | (go_at_call 19; (with_reducible refine (T2.out _).mono ?_); rintro e w4 ⟨rfl, hb4⟩; have K4 := Lib.hid (K3.out.call hb4); clear hb4 x0 x1 x2 x3 x4 v0 v1 v2 v3 v4 v5; obtain ⟨x0, x1, x2, x3, x4⟩ := cells5 (K4.out.2 _ (.tail _ (.tail _ (.head _)))); obtain ⟨v0, v1, v2, v3, v4, v5⟩ := cells6 (K4.out.2 _ (.tail _ (.head _))))
      | (go_at_call 26; (with_reducible refine (KO.out _).mono ?_); rintro e w5 ⟨rfl, hb5⟩; have K5 := Lib.hid (K4.out.call hb5)))
    go_meet
    exact ⟨rfl, K5.out⟩
  case rest =>
    rename_i q1 hq1 q0 hq
    obtain ⟨rfl, hb⟩ := hcut
    refine hq _ _ ?_
    clear hq
    have HK1 := Lib.hid hq1
    clear hq1
    go_wp2_with fail
    refine HK1.out _ _ ?_
    have KD : Kp w _ [(w.heap.size + 1 + 1, (.cells #[.int .u8 p, .int .u8 q] 60 (0, 0))), (w.heap.size + 1, (.cells #[.int .i64 a, .int .i64 b, .int .i64 c, .int .i64 d, .int .i64 i, .int .i64 f] 46 (0, 0))), (w.heap.size, (.cells #[.int .i64 x, .int .i64 y, .int .i64 z, .int .i64 num, .int .i64 den] 25 (0, 0)))] := hb.subs fun p hp => by
      simp only [List.mem_cons, List.not_mem_nil, or_false] at hp ⊢
      rcases hp with h | h | h <;> simp [h]
    unfold SWy3 at hT
    exact hT _ _ _ _ _ _ _ _ _ _ _ _ _ _ _ _ _ _ _ _ _ _ _ _ _ _ _ _ _ _ _ _ _ _ _ _ _ _ _ _ _ _ _ _ _ _ _ _ _ _ _ _ _ _ _ _ _ _ _ _ _ _ _ _ _ _ _ _ _ _ _ _ _ _ _ _ _ _ _ _ _ _ _ _ _ _ _ _ _ _ _ _ _ _ _ _ _ _ _ _ _ _ _ _ _ _ _ _ _ _ _ _ _ _ _ _ _ _ _ _ _ _ _ _ _ _ _ _ _ _ _ _ _ _ _ _ _ _ _ _ _ _ _ _ _ _ _ _ _ _ _ _ _ _ _ _ _ _ _ _ _ _ _ _ _ _ _ _ _ _ _ _ _ _ _ _ _ _ _ _ _ _ _ _ _ _ _ _ _ _ _ _ _ _ _ _ _ _ _ _ _ _ _ _ _ _ _ _ _ _ _ _ _ _ _ _ _ _ _ _ _ _ _ _ _ _ _ _ _ _ _ _ _ _ _ _ _ _ _ _ _ _ _ _ _ _ _ _ _ _ _ _ _ _ _ _ _ _ _ _ _ _ _ _ _ _ _ _ _ _ _ _ _ _ _ _ (KD)

end Go.Proofs.YtggffhmdgceljaaGreatDoor

/-
  The walk of SunWays: its loops, where the way meets the cone.
-/
namespace Go.Proofs.YtggffhmdgceljaaGreatDoor
open Go.RowKit
set_option linter.unusedVariables false
set_option linter.unusedSimpArgs false
set_option maxRecDepth 1000000 in
set_option maxHeartbeats 12800000 in
theorem sw13_t (w : World) (x y z num den a b c d i f p q : Int) (hR : Hid (∀ j k : Nat, j < 13 → k < 13 → ¬ (j + k = 0) → ∃ a1 a2 a3 d1 d2 d3 t1 t2 t3 ins, WayR a b c d i f x y z num den true j k a1 a2 a3 d1 d2 d3 t1 t2 t3 ins))
    (hT : SWy28 w x y z num den a b c d i f p q true) : SWy13 w x y z num den a b c d i f p q true := by
  unfold SWy13
  intro wx Bc Bv Bn u0 u1 u2 u7 u8 u10 u11 u12 u13 u14 u15 u16 u17 u18 u19 u20 u21 u22 u23 u24 u25 u26 u27 u28 u29 u30 u31 u32 u33 u34 u35 u36 u37 u38 u39 u40 u41 u42 u43 u44 u45 u46 u47 u48 u49 u50 u51 u52 u53 u54 u55 u56 u57 u58 u59 u60 u61 u62 u63 u64 u65 u66 u67 u68 u69 u70 u71 u72 u73 u74 u75 u76 u77 u78 u79 u80 u81 u82 u83 u84 u85 u86 u87 u88 u89 u90 u91 u92 u93 u94 u95 u96 u97 u98 u99 u100 u101 u102 u103 u104 u105 u106 u107 u108 u109 u110 u111 u112 u113 u114 u115 u116 u117 u118 u119 u120 u121 u122 u123 u124 u125 u126 u127 u128 u129 u130 u131 u132 u133 u134 u135 u136 u137 u138 u139 u140 u141 u142 u143 u144 u145 u146 u147 u148 u149 u150 u151 u152 u153 u154 u155 u156 u157 u158 u159 u160 u161 u162 u163 u164 u165 u166 u167 u168 u169 u170 u171 u172 u173 u174 u175 u176 u177 u178 u179 u180 u181 u182 u183 u184 u185 u186 u187 u188 u189 u190 u191 u192 u193 u194 u195 u196 u197 u198 u199 u200 u201 u202 u203 u204 u205 u206 u207 u208 u209 u210 u211 u212 u213 u214 u215 u216 u217 u218 u219 u220 u221 u222 u223 u224 u225 u226 u227 u228 u229 u230 u231 u232 u233 u234 u235 u236 u237 u238 u239 u240 u241 u242 u243 u244 u245 u246 u247 u248 u249 u250 u251 u252 u253 u254 u255 u256 u257 u258 u259 u260 u261 u262 u263 u264 u265 u266 u267 u268 u269 u270 u271 u272 u273 u274 u275 hk
  have K0 := Lib.hid hk
  clear hk
  conv => arg 2; whnf
  dsimp only
  go_upto_block 0 with fail
  go_cut [6] (fun s6 wr => s6 = .bool false ∧ Kp w wr [(Bn, (.cells #[.int .u8 p, .int .u8 q] 60 (0, 0))), (Bv, (.cells #[.int .i64 a, .int .i64 b, .int .i64 c, .int .i64 d, .int .i64 i, .int .i64 f] 46 (0, 0))), (Bc, (.cells #[.int .i64 x, .int .i64 y, .int .i64 z, .int .i64 num, .int .i64 den] 25 (0, 0)))])
  case first =>
    go_wp2_with fail
    go_loopw [6, 156] (fun s6 iv wy => ∃ j : Nat, j ≤ 13 ∧ iv = .int .i64 j ∧ s6 = .bool false ∧ Kp w wy [(Bn, (.cells #[.int .u8 p, .int .u8 q] 60 (0, 0))), (Bv, (.cells #[.int .i64 a, .int .i64 b, .int .i64 c, .int .i64 d, .int .i64 i, .int .i64 f] 46 (0, 0))), (Bc, (.cells #[.int .i64 x, .int .i64 y, .int .i64 z, .int .i64 num, .int .i64 den] 25 (0, 0)))]) (fun _ iv _ => 13 - (intOf iv).toNat)
    case atStart => exact ⟨0, by omega, rfl, rfl, K0.out⟩
    case round =>
      obtain ⟨j, hj, rfl, rfl, hk⟩ := hrel
      have K1 := Lib.hid hk
      clear hk K0
      by_cases hlt : j < 13
      · have hltI : ((j : Int) < 13) := by omega
        have hdec : decide ((j : Int) < 13) = true := by simp; omega
        go_wp2_with fail
        go_loopw [6, 159] (fun s6 iv wy => ∃ k : Nat, k ≤ 13 ∧ iv = .int .i64 k ∧ s6 = .bool false ∧ Kp w wy [(Bn, (.cells #[.int .u8 p, .int .u8 q] 60 (0, 0))), (Bv, (.cells #[.int .i64 a, .int .i64 b, .int .i64 c, .int .i64 d, .int .i64 i, .int .i64 f] 46 (0, 0))), (Bc, (.cells #[.int .i64 x, .int .i64 y, .int .i64 z, .int .i64 num, .int .i64 den] 25 (0, 0)))]) (fun _ iv _ => 13 - (intOf iv).toNat)
        case atStart => exact ⟨0, by omega, rfl, rfl, K1.out⟩
        case round =>
          obtain ⟨k, hk13, rfl, rfl, hk⟩ := hrel
          have K2 := Lib.hid hk
          clear hk K1
          by_cases hlt2 : k < 13
          · have hlt2I : ((k : Int) < 13) := by omega
            obtain ⟨sv, hsv⟩ : ∃ sv : Int, (j : Int) + (k : Int) = sv := ⟨_, rfl⟩
            have fw : IntKind.i64.wrap ((j : Int) + (k : Int)) = sv := by rw [hsv]; exact IntWalk.i64_in _ ⟨by omega, by omega⟩
            by_cases hz : j + k = 0
            · have e0 : (sv == 0) = true := by simp; omega
              clear hz hsv
              go_wp2_with fail
              go_roundw
              case rel => exact ⟨k + 1, by omega, by go_num, rfl, K2.out⟩
              case measure => simp [intOf]; omega
            · have e0 : (sv == 0) = false := by simp; omega
              obtain ⟨a1, a2, a3, d1, d2, d3, t1, t2, t3, ins, hW⟩ := hR.out j k hlt hlt2 hz
              have KA := hW.ta
              have KD := hW.td
              have KP := hW.pl
              have KZ := hW.iz
              have KI := hW.is
              have hno := hW.no
              clear hW hz hsv
              have hno2 : (ins && !true) = false := hno
              clear hno2 hno
              go_wp2_with fail
              apply wp_region_alloc 10 9 #[.int .i64 0, .int .i64 0, .int .i64 0] 23 [.pointer (some ⟨Bv, 0, none⟩), .agg #[.int .i64 a, .int .i64 b, .int .i64 c], .int .i64 (j : Int), .agg #[.int .i64 a1, .int .i64 a2, .int .i64 a3], .pointer (some ⟨Bv, 3, none⟩), .agg #[.int .i64 d, .int .i64 i, .int .i64 f], .int .i64 (k : Int), .agg #[.int .i64 d1, .int .i64 d2, .int .i64 d3], .agg #[.int .i64 t1, .int .i64 t2, .int .i64 t3], undef] _ (by kernel_rfl) (by kernel_rfl) (by decide) (by kernel_rfl) rfl
              case hz =>
                intro b w1
                simp only [execOp]
                go_simp
              case haF =>
                intro v
                simp [putJs, upd1, Act.put, List.range, List.range.loop]
                exact rfl
              case h =>
                intro v Tt hT
                have hBh := K2.out.2 _ (.tail _ (.head _))
                simp only [List.take_succ_cons, List.take_zero, GivesK, GivesL]
                clear K2
                refine ⟨?_, ?_, ?_, ?_, ?_, ?_, ?_, ?_, ?_, trivial⟩
                all_goals
                  intro w1 hw
                  obtain ⟨hw1, ht1⟩ := hw
                  obtain ⟨h_0, h_1, h_2, h_3, h_4, h_5⟩ := cells6 (((show Below _ _ _ from hw1).block _ (lt_of_blk hBh)).trans hBh)
                  unfold Oper.wp
                  simp only [execOp]
                  go_simp <;> first
                    | exact ⟨rfl, hw1, ht1⟩
                    | exact ht1
                    | exact ⟨hw1, ht1⟩
                    | ((with_reducible refine (KA.out _).mono ?_); rintro e w2 ⟨rfl, hb⟩; exact ⟨rfl, below_call hb hw1, hT _ _ ht1 hb⟩)
                    | ((with_reducible refine (KD.out _).mono ?_); rintro e w2 ⟨rfl, hb⟩; exact ⟨rfl, below_call hb hw1, hT _ _ ht1 hb⟩)
                    | ((with_reducible refine (KP.out _).mono ?_); rintro e w2 ⟨rfl, hb⟩; exact ⟨rfl, below_call hb hw1, hT _ _ ht1 hb⟩)
              case ht =>
                intro Bd w5 hBd hw5 hm
                simp only [List.drop_succ_cons, List.drop_zero]
                obtain ⟨m0, m1, m2⟩ := cells3 hm
                have mz : ∀ j, w5.frozen? ⟨Bd, j, none⟩ = false := fun j => frozen_of_row w5 Bd j _ _ hm
                go_upto_region 21 with fail
                refine wp_world (fun w' => Kp w w' [(Bd, (.cells #[.int .i64 t1, .int .i64 t2, .int .i64 t3] 23 (0, 0))), (Bn, (.cells #[.int .u8 p, .int .u8 q] 60 (0, 0))), (Bv, (.cells #[.int .i64 a, .int .i64 b, .int .i64 c, .int .i64 d, .int .i64 i, .int .i64 f] 46 (0, 0))), (Bc, (.cells #[.int .i64 x, .int .i64 y, .int .i64 z, .int .i64 num, .int .i64 den] 25 (0, 0)))]) (by exact kp_made K2.out hw5 hBd hm _ _ _) fun w6 k6 => ?_
                have K6 := Lib.hid k6
                clear k6 hw5 hBd hm m0 m1 m2 mz K2
                obtain ⟨o0, o1, o2⟩ := cells3 (K6.out.2 _ (.head _))
                cases ins
                all_goals
                  go_wp2_with (first
                    | (go_at_call 31; (with_reducible refine (KZ.out _).mono ?_); rintro e w7 ⟨rfl, hb7⟩; have K7 := Lib.hid (K6.out.call hb7); clear hb7 o0 o1 o2; obtain ⟨o0, o1, o2⟩ := cells3 (K7.out.2 _ (.head _)); obtain ⟨x0, x1, x2, x3, x4⟩ := cells5 (K7.out.2 _ (.tail _ (.tail _ (.tail _ (.head _))))))
                    | (go_at_call 7; (with_reducible refine (KI.out _).mono ?_); rintro e w8 ⟨rfl, hb8⟩; have K8 := Lib.hid (K7.out.call hb8); clear hb8 o0 o1 o2 x0 x1 x2 x3 x4))
                  go_roundw
                  case rel => exact ⟨k + 1, by omega, by go_num, rfl, K8.out.subs fun p hp => .tail _ hp⟩
                  case measure => simp [intOf]; omega
          · have hge2 : ¬ ((k : Int) < 13) := by omega
            go_wp2_with fail
            go_roundw
            case rel => exact ⟨j + 1, by omega, by go_num, rfl, K2.out⟩
            case measure => simp [intOf]; omega
      · have hge : ¬ ((j : Int) < 13) := by omega
        go_wp2_with fail
        go_meet
        exact ⟨rfl, K1.out⟩
  case rest =>
    rename_i hK
    obtain ⟨rfl, hk⟩ := hcut
    refine hK _ _ ?_
    clear hK
    unfold SWy28 at hT
    exact hT _ _ _ _ _ _ _ _ _ _ _ _ _ _ _ _ _ _ _ _ _ _ _ _ _ _ _ _ _ _ _ _ _ _ _ _ _ _ _ _ _ _ _ _ _ _ _ _ _ _ _ _ _ _ _ _ _ _ _ _ _ _ _ _ _ _ _ _ _ _ _ _ _ _ _ _ _ _ _ _ _ _ _ _ _ _ _ _ _ _ _ _ _ _ _ _ _ _ _ _ _ _ _ _ _ _ _ _ _ _ _ _ _ _ _ _ _ _ _ _ _ _ _ _ _ _ _ _ _ _ _ _ _ _ _ _ _ _ _ _ _ _ _ _ _ _ _ _ _ _ _ _ _ _ _ _ _ _ _ _ _ _ _ _ _ _ _ _ _ _ _ _ _ _ _ _ _ _ _ _ _ _ _ _ _ _ _ _ _ _ _ _ _ _ _ _ _ _ _ _ _ _ _ _ _ _ _ _ _ _ _ _ _ _ _ _ _ _ _ _ _ _ _ _ _ _ _ _ _ _ _ _ _ _ _ _ _ _ _ _ _ _ _ _ _ _ _ _ _ _ _ _ _ _ _ _ _ _ _ _ _ _ _ _ _ _ _ _ _ _ _ _ _ _ _ (hk)

end Go.Proofs.YtggffhmdgceljaaGreatDoor

/-
  The walk of SunWays: its loops, where the way does not meet the cone.
-/
namespace Go.Proofs.YtggffhmdgceljaaGreatDoor
open Go.RowKit
set_option linter.unusedVariables false
set_option linter.unusedSimpArgs false
set_option maxRecDepth 1000000 in
set_option maxHeartbeats 12800000 in
theorem sw13_f (w : World) (x y z num den a b c d i f p q : Int) (hR : Hid (∀ j k : Nat, j < 13 → k < 13 → ¬ (j + k = 0) → ∃ a1 a2 a3 d1 d2 d3 t1 t2 t3 ins, WayR a b c d i f x y z num den false j k a1 a2 a3 d1 d2 d3 t1 t2 t3 ins))
    (hT : SWy28 w x y z num den a b c d i f p q false) : SWy13 w x y z num den a b c d i f p q false := by
  unfold SWy13
  intro wx Bc Bv Bn u0 u1 u2 u7 u8 u10 u11 u12 u13 u14 u15 u16 u17 u18 u19 u20 u21 u22 u23 u24 u25 u26 u27 u28 u29 u30 u31 u32 u33 u34 u35 u36 u37 u38 u39 u40 u41 u42 u43 u44 u45 u46 u47 u48 u49 u50 u51 u52 u53 u54 u55 u56 u57 u58 u59 u60 u61 u62 u63 u64 u65 u66 u67 u68 u69 u70 u71 u72 u73 u74 u75 u76 u77 u78 u79 u80 u81 u82 u83 u84 u85 u86 u87 u88 u89 u90 u91 u92 u93 u94 u95 u96 u97 u98 u99 u100 u101 u102 u103 u104 u105 u106 u107 u108 u109 u110 u111 u112 u113 u114 u115 u116 u117 u118 u119 u120 u121 u122 u123 u124 u125 u126 u127 u128 u129 u130 u131 u132 u133 u134 u135 u136 u137 u138 u139 u140 u141 u142 u143 u144 u145 u146 u147 u148 u149 u150 u151 u152 u153 u154 u155 u156 u157 u158 u159 u160 u161 u162 u163 u164 u165 u166 u167 u168 u169 u170 u171 u172 u173 u174 u175 u176 u177 u178 u179 u180 u181 u182 u183 u184 u185 u186 u187 u188 u189 u190 u191 u192 u193 u194 u195 u196 u197 u198 u199 u200 u201 u202 u203 u204 u205 u206 u207 u208 u209 u210 u211 u212 u213 u214 u215 u216 u217 u218 u219 u220 u221 u222 u223 u224 u225 u226 u227 u228 u229 u230 u231 u232 u233 u234 u235 u236 u237 u238 u239 u240 u241 u242 u243 u244 u245 u246 u247 u248 u249 u250 u251 u252 u253 u254 u255 u256 u257 u258 u259 u260 u261 u262 u263 u264 u265 u266 u267 u268 u269 u270 u271 u272 u273 u274 u275 hk
  have K0 := Lib.hid hk
  clear hk
  conv => arg 2; whnf
  dsimp only
  go_upto_block 0 with fail
  go_cut [6] (fun s6 wr => s6 = .bool false ∧ Kp w wr [(Bn, (.cells #[.int .u8 p, .int .u8 q] 60 (0, 0))), (Bv, (.cells #[.int .i64 a, .int .i64 b, .int .i64 c, .int .i64 d, .int .i64 i, .int .i64 f] 46 (0, 0))), (Bc, (.cells #[.int .i64 x, .int .i64 y, .int .i64 z, .int .i64 num, .int .i64 den] 25 (0, 0)))])
  case first =>
    go_wp2_with fail
    go_loopw [6, 156] (fun s6 iv wy => ∃ j : Nat, j ≤ 13 ∧ iv = .int .i64 j ∧ s6 = .bool false ∧ Kp w wy [(Bn, (.cells #[.int .u8 p, .int .u8 q] 60 (0, 0))), (Bv, (.cells #[.int .i64 a, .int .i64 b, .int .i64 c, .int .i64 d, .int .i64 i, .int .i64 f] 46 (0, 0))), (Bc, (.cells #[.int .i64 x, .int .i64 y, .int .i64 z, .int .i64 num, .int .i64 den] 25 (0, 0)))]) (fun _ iv _ => 13 - (intOf iv).toNat)
    case atStart => exact ⟨0, by omega, rfl, rfl, K0.out⟩
    case round =>
      obtain ⟨j, hj, rfl, rfl, hk⟩ := hrel
      have K1 := Lib.hid hk
      clear hk K0
      by_cases hlt : j < 13
      · have hltI : ((j : Int) < 13) := by omega
        have hdec : decide ((j : Int) < 13) = true := by simp; omega
        go_wp2_with fail
        go_loopw [6, 159] (fun s6 iv wy => ∃ k : Nat, k ≤ 13 ∧ iv = .int .i64 k ∧ s6 = .bool false ∧ Kp w wy [(Bn, (.cells #[.int .u8 p, .int .u8 q] 60 (0, 0))), (Bv, (.cells #[.int .i64 a, .int .i64 b, .int .i64 c, .int .i64 d, .int .i64 i, .int .i64 f] 46 (0, 0))), (Bc, (.cells #[.int .i64 x, .int .i64 y, .int .i64 z, .int .i64 num, .int .i64 den] 25 (0, 0)))]) (fun _ iv _ => 13 - (intOf iv).toNat)
        case atStart => exact ⟨0, by omega, rfl, rfl, K1.out⟩
        case round =>
          obtain ⟨k, hk13, rfl, rfl, hk⟩ := hrel
          have K2 := Lib.hid hk
          clear hk K1
          by_cases hlt2 : k < 13
          · have hlt2I : ((k : Int) < 13) := by omega
            obtain ⟨sv, hsv⟩ : ∃ sv : Int, (j : Int) + (k : Int) = sv := ⟨_, rfl⟩
            have fw : IntKind.i64.wrap ((j : Int) + (k : Int)) = sv := by rw [hsv]; exact IntWalk.i64_in _ ⟨by omega, by omega⟩
            by_cases hz : j + k = 0
            · have e0 : (sv == 0) = true := by simp; omega
              clear hz hsv
              go_wp2_with fail
              go_roundw
              case rel => exact ⟨k + 1, by omega, by go_num, rfl, K2.out⟩
              case measure => simp [intOf]; omega
            · have e0 : (sv == 0) = false := by simp; omega
              obtain ⟨a1, a2, a3, d1, d2, d3, t1, t2, t3, ins, hW⟩ := hR.out j k hlt hlt2 hz
              have KA := hW.ta
              have KD := hW.td
              have KP := hW.pl
              have KZ := hW.iz
              have KI := hW.is
              have hno := hW.no
              clear hW hz hsv
              obtain rfl : ins = false := by simpa using hno
              clear hno
              go_wp2_with fail
              apply wp_region_alloc 10 9 #[.int .i64 0, .int .i64 0, .int .i64 0] 23 [.pointer (some ⟨Bv, 0, none⟩), .agg #[.int .i64 a, .int .i64 b, .int .i64 c], .int .i64 (j : Int), .agg #[.int .i64 a1, .int .i64 a2, .int .i64 a3], .pointer (some ⟨Bv, 3, none⟩), .agg #[.int .i64 d, .int .i64 i, .int .i64 f], .int .i64 (k : Int), .agg #[.int .i64 d1, .int .i64 d2, .int .i64 d3], .agg #[.int .i64 t1, .int .i64 t2, .int .i64 t3], undef] _ (by kernel_rfl) (by kernel_rfl) (by decide) (by kernel_rfl) rfl
              case hz =>
                intro b w1
                simp only [execOp]
                go_simp
              case haF =>
                intro v
                simp [putJs, upd1, Act.put, List.range, List.range.loop]
                exact rfl
              case h =>
                intro v Tt hT
                have hBh := K2.out.2 _ (.tail _ (.head _))
                simp only [List.take_succ_cons, List.take_zero, GivesK, GivesL]
                clear K2
                refine ⟨?_, ?_, ?_, ?_, ?_, ?_, ?_, ?_, ?_, trivial⟩
                all_goals
                  intro w1 hw
                  obtain ⟨hw1, ht1⟩ := hw
                  obtain ⟨h_0, h_1, h_2, h_3, h_4, h_5⟩ := cells6 (((show Below _ _ _ from hw1).block _ (lt_of_blk hBh)).trans hBh)
                  unfold Oper.wp
                  simp only [execOp]
                  go_simp <;> first
                    | exact ⟨rfl, hw1, ht1⟩
                    | exact ht1
                    | exact ⟨hw1, ht1⟩
                    | ((with_reducible refine (KA.out _).mono ?_); rintro e w2 ⟨rfl, hb⟩; exact ⟨rfl, below_call hb hw1, hT _ _ ht1 hb⟩)
                    | ((with_reducible refine (KD.out _).mono ?_); rintro e w2 ⟨rfl, hb⟩; exact ⟨rfl, below_call hb hw1, hT _ _ ht1 hb⟩)
                    | ((with_reducible refine (KP.out _).mono ?_); rintro e w2 ⟨rfl, hb⟩; exact ⟨rfl, below_call hb hw1, hT _ _ ht1 hb⟩)
              case ht =>
                intro Bd w5 hBd hw5 hm
                simp only [List.drop_succ_cons, List.drop_zero]
                obtain ⟨m0, m1, m2⟩ := cells3 hm
                have mz : ∀ j, w5.frozen? ⟨Bd, j, none⟩ = false := fun j => frozen_of_row w5 Bd j _ _ hm
                go_upto_region 21 with fail
                refine wp_world (fun w' => Kp w w' [(Bd, (.cells #[.int .i64 t1, .int .i64 t2, .int .i64 t3] 23 (0, 0))), (Bn, (.cells #[.int .u8 p, .int .u8 q] 60 (0, 0))), (Bv, (.cells #[.int .i64 a, .int .i64 b, .int .i64 c, .int .i64 d, .int .i64 i, .int .i64 f] 46 (0, 0))), (Bc, (.cells #[.int .i64 x, .int .i64 y, .int .i64 z, .int .i64 num, .int .i64 den] 25 (0, 0)))]) (by exact kp_made K2.out hw5 hBd hm _ _ _) fun w6 k6 => ?_
                have K6 := Lib.hid k6
                clear k6 hw5 hBd hm m0 m1 m2 mz K2
                obtain ⟨o0, o1, o2⟩ := cells3 (K6.out.2 _ (.head _))
                go_wp2_with (first
                  | (go_at_call 31; (with_reducible refine (KZ.out _).mono ?_); rintro e w7 ⟨rfl, hb7⟩; have K7 := Lib.hid (K6.out.call hb7); clear hb7 o0 o1 o2; obtain ⟨o0, o1, o2⟩ := cells3 (K7.out.2 _ (.head _)); obtain ⟨x0, x1, x2, x3, x4⟩ := cells5 (K7.out.2 _ (.tail _ (.tail _ (.tail _ (.head _))))))
                  | (go_at_call 7; (with_reducible refine (KI.out _).mono ?_); rintro e w8 ⟨rfl, hb8⟩; have K8 := Lib.hid (K7.out.call hb8); clear hb8 o0 o1 o2 x0 x1 x2 x3 x4))
                go_roundw
                case rel => exact ⟨k + 1, by omega, by go_num, rfl, K8.out.subs fun p hp => .tail _ hp⟩
                case measure => simp [intOf]; omega
          · have hge2 : ¬ ((k : Int) < 13) := by omega
            go_wp2_with fail
            go_roundw
            case rel => exact ⟨j + 1, by omega, by go_num, rfl, K2.out⟩
            case measure => simp [intOf]; omega
      · have hge : ¬ ((j : Int) < 13) := by omega
        go_wp2_with fail
        go_meet
        exact ⟨rfl, K1.out⟩
  case rest =>
    rename_i hK
    obtain ⟨rfl, hk⟩ := hcut
    refine hK _ _ ?_
    clear hK
    unfold SWy28 at hT
    exact hT _ _ _ _ _ _ _ _ _ _ _ _ _ _ _ _ _ _ _ _ _ _ _ _ _ _ _ _ _ _ _ _ _ _ _ _ _ _ _ _ _ _ _ _ _ _ _ _ _ _ _ _ _ _ _ _ _ _ _ _ _ _ _ _ _ _ _ _ _ _ _ _ _ _ _ _ _ _ _ _ _ _ _ _ _ _ _ _ _ _ _ _ _ _ _ _ _ _ _ _ _ _ _ _ _ _ _ _ _ _ _ _ _ _ _ _ _ _ _ _ _ _ _ _ _ _ _ _ _ _ _ _ _ _ _ _ _ _ _ _ _ _ _ _ _ _ _ _ _ _ _ _ _ _ _ _ _ _ _ _ _ _ _ _ _ _ _ _ _ _ _ _ _ _ _ _ _ _ _ _ _ _ _ _ _ _ _ _ _ _ _ _ _ _ _ _ _ _ _ _ _ _ _ _ _ _ _ _ _ _ _ _ _ _ _ _ _ _ _ _ _ _ _ _ _ _ _ _ _ _ _ _ _ _ _ _ _ _ _ _ _ _ _ _ _ _ _ _ _ _ _ _ _ _ _ _ _ _ _ _ _ _ _ _ _ _ _ _ _ _ _ _ _ _ _ (hk)

end Go.Proofs.YtggffhmdgceljaaGreatDoor
