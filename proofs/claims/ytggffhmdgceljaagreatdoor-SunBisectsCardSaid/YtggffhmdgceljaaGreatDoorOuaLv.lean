/-
  The walk of SunBisects: regions 24 to 28, and opposite vectors.
-/
import Derived.Test.YtggffhmdgceljaaGreatDoorRows
import Derived.WalkKit
import Derived.WalkSpells
import Derived.WalkLawsBesides
import Derived.Lib.Hide
import Derived.BigQuiet
import Derived.Deep.QuietTactic
import Derived.Handy
import Derived.Deep.RegionHeld3
import Derived.Deep.RegionWith
import Derived.StillTailTactics
import Derived.RangeFuncNested
import Derived.RangeFuncBound
import Derived.RangeFuncCalls
import Derived.RangeFuncLeaves
import Derived.RangeFuncBox
import Derived.Shelf.Abstract
import Derived.Shelf.RegionOpen
import Derived.OwnWalkIn
import Derived.TacticsInMore
import Derived.LoopNIn
import Derived.LoopIn
import Derived.Maps.AppendAt
import Derived.Test.YtggffhmdgceljaaGreatDoorProg
import Derived.Laws.FloatArith
import Derived.Laws.BitsAllLaws
import Derived.Deep.DeepCutAuto
import Derived.Stop.BytesEq
import Derived.Deep.MidRow
import Derived.Laws.CopyRow
import Derived.WalkMore
import Derived.Deep.DrawnRows
import Derived.Deep.CutBlock
import Derived.Orders
import Derived.LoopTactic
import Derived.Laws.StructEq
import Derived.Deep.RegionLaw
import Derived.RegionTactic
import Derived.StillTail
import Derived.Laws.RangeString
import Derived.Laws.RangeAny
import Derived.Shelf.Strings.Builder1
import Derived.Shelf.Strings.OnBuilder
import Derived.Shelf.LaysM
import Derived.Shelf.Strconv.Itoa3
import Derived.Lib.AppendIntMem
import Derived.Lib.ItoaLen
import Derived.RowKit
import Derived.Test.YtggffhmdgceljaaGreatDoorOuaWn
import Derived.Test.YtggffhmdgceljaaGreatDoorOuaXe
import Derived.Test.YtggffhmdgceljaaGreatDoorOuaIb
import Derived.Test.YtggffhmdgceljaaGreatDoorOuaId
import Derived.Test.YtggffhmdgceljaaGreatDoorOuaNi
import Derived.Test.YtggffhmdgceljaaGreatDoorOuaIx
import Derived.Test.YtggffhmdgceljaaGreatDoorOuaNv
import Derived.Test.YtggffhmdgceljaaGreatDoorOuaWo
import Derived.Test.YtggffhmdgceljaaGreatDoorOuaNo
import Derived.Test.YtggffhmdgceljaaGreatDoorOuaNy
import Derived.Test.YtggffhmdgceljaaGreatDoorOuaAj
namespace Go.Proofs.YtggffhmdgceljaaGreatDoor
open Go.RowKit
set_option linter.unusedVariables false
set_option linter.unusedSimpArgs false
set_option maxRecDepth 1000000 in
set_option maxHeartbeats 12800000 in
theorem bs24 (w : World) (x y z a b c a1 a2 a3 b1 b2 b3 : Int)
    (K1 : Hid (∀ w1 : World, Calls Tryz.prog 21 #[.agg #[.int .i64 x, .int .i64 y, .int .i64 z], .agg #[.int .i64 x, .int .i64 y, .int .i64 z]] w1 fun e w' => e = .returned (.tuple #[.agg #[.int .i64 a1, .int .i64 a2, .int .i64 a3], .int .i64 0]) ∧ Below w1.heap.size w1 w'))
    (K2 : Hid (∀ w1 : World, Calls Tryz.prog 22 #[.agg #[.int .i64 x, .int .i64 y, .int .i64 z]] w1 fun e w' => e = .returned (.tuple #[.agg #[.int .i64 a1, .int .i64 a2, .int .i64 a3], .int .i64 0]) ∧ Below w1.heap.size w1 w'))
    (hT : SBs26 w x y z a b c a1 a2 a3 b1 b2 b3) : SBs24 w x y z a b c a1 a2 a3 b1 b2 b3 := by
  unfold SBs24
  intro wx B8 u0 u1 u2 u3 u5 u6 u7 u9 u10 u11 u12 u13 u14 u15 u16 u17 u18 u19 u20 u21 u22 u23 u24 u25 u26 u27 u28 u29 u30 u31 u32 u33 u34 u35 u36 u37 u38 u39 u40 u41 u42 u43 u44 u45 u46 u47 u48 u49 u50 u51 u52 u53 u54 u55 u56 u57 u58 u59 u60 u61 u62 u63 u64 u65 u66 u67 u68 u69 u70 u71 u72 u73 u74 u75 u76 u77 u78 u79 u80 u81 u82 u83 u84 u85 u86 u87 u88 u89 u90 u91 u92 u93 u94 u95 u96 u97 u98 u99 u100 u101 u102 u103 u104 u105 u106 u107 u108 u109 u110 u111 u112 u113 u114 u115 u116 u117 u118 u119 u120 u121 u122 u123 u124 u125 u126 u127 u128 u129 u130 u131 u132 u133 u134 u135 u136 u137 u138 u139 u140 u141 u142 u143 u144 u145 u146 u147 u148 u149 u150 u151 u152 u153 u154 u155 u156 u157 u158 u159 u160 u161 u162 u163 u164 u165 u166 u167 u168 u169 u170 u171 u172 u173 u174 u175 u176 u177 u178 u179 u180 u181 u182 u183 u184 u185 u186 u187 u188 u189 u190 u191 u192 u193 u194 u195 u196 u197 u198 u199 u200 u201 u202 u203 u204 u205 u206 u207 u208 u209 u210 u211 u212 u213 u214 u215 u216 u217 u218 u219 u220 u221 u222 u223 u224 u225 u226 u227 u228 u229 u230 u231 u232 u233 u234 u235 u236 u237 u238 u239 u240 u241 u242 u243 u244 u245 u246 u247 u248 u249 u250 u251 u252 u253 u254 u255 u256 u257 u258 u259 u260 u261 u262 u263 u264 u265 u266 u267 u268 u269 u270 u271 u272 u273 u274 u275 u276 u277 u278 u279 u280 u281 u282 u283 u284 u285 u286 u287 u288 u289 u290 u291 u292 u293 u294 u295 hk
  have K0 := Lib.hid hk
  clear hk
  conv => arg 2; whnf
  dsimp only
  go_upto_region 24 with fail
  go_cut [14, 15] (fun s14 s15 wr => ∃ B14 : Nat, s14 = .pointer (some ⟨B14, 0, none⟩) ∧ s15 = .int .i64 0 ∧ Kp w wr [(B14, (.cells #[.int .i64 a1, .int .i64 a2, .int .i64 a3] 23 (0, 0))), (B8, (.cells #[.int .i64 x, .int .i64 y, .int .i64 z, .int .i64 a, .int .i64 b, .int .i64 c] 46 (0, 0)))])
  case first =>
    obtain ⟨k0, k1, k2, k3, k4, k5⟩ := cells6 (K0.out.2 _ (.head _))
    go_wp2_with (first
      | (go_at_call 21; (with_reducible refine (K1.out _).mono ?_); rintro e w91 ⟨rfl, hb91⟩; have K91 := Lib.hid (K0.out.call hb91)))
    go_meet
    exact ⟨_, rfl, rfl, K91.out.alloc _⟩
  case rest =>
    rename_i hK
    obtain ⟨B14, rfl, rfl, hk⟩ := hcut
    refine hK _ _ ?_
    clear hK
    have KA := Lib.hid hk
    clear hk K0
    go_upto_region 25 with fail
    go_cut [16, 17] (fun s16 s17 wr => ∃ B16 : Nat, s16 = .pointer (some ⟨B16, 0, none⟩) ∧ s17 = .int .i64 0 ∧ Kp w wr [(B16, (.cells #[.int .i64 a1, .int .i64 a2, .int .i64 a3] 23 (0, 0))), (B14, (.cells #[.int .i64 a1, .int .i64 a2, .int .i64 a3] 23 (0, 0))), (B8, (.cells #[.int .i64 x, .int .i64 y, .int .i64 z, .int .i64 a, .int .i64 b, .int .i64 c] 46 (0, 0)))])
    case first =>
      obtain ⟨k0, k1, k2, k3, k4, k5⟩ := cells6 (KA.out.2 _ (.tail _ (.head _)))
      go_wp2_with (first
        | (go_at_call 22; (with_reducible refine (K2.out _).mono ?_); rintro e w91 ⟨rfl, hb91⟩; have K91 := Lib.hid (KA.out.call hb91)))
      go_meet
      exact ⟨_, rfl, rfl, K91.out.alloc _⟩
    case rest =>
      rename_i hK
      obtain ⟨B16, rfl, rfl, hk⟩ := hcut
      refine hK _ _ ?_
      clear hK
      have KB := Lib.hid hk
      clear hk KA
      unfold SBs26 at hT
      exact hT _ _ _ _ _ _ _ _ _ _ _ _ _ _ _ _ _ _ _ _ _ _ _ _ _ _ _ _ _ _ _ _ _ _ _ _ _ _ _ _ _ _ _ _ _ _ _ _ _ _ _ _ _ _ _ _ _ _ _ _ _ _ _ _ _ _ _ _ _ _ _ _ _ _ _ _ _ _ _ _ _ _ _ _ _ _ _ _ _ _ _ _ _ _ _ _ _ _ _ _ _ _ _ _ _ _ _ _ _ _ _ _ _ _ _ _ _ _ _ _ _ _ _ _ _ _ _ _ _ _ _ _ _ _ _ _ _ _ _ _ _ _ _ _ _ _ _ _ _ _ _ _ _ _ _ _ _ _ _ _ _ _ _ _ _ _ _ _ _ _ _ _ _ _ _ _ _ _ _ _ _ _ _ _ _ _ _ _ _ _ _ _ _ _ _ _ _ _ _ _ _ _ _ _ _ _ _ _ _ _ _ _ _ _ _ _ _ _ _ _ _ _ _ _ _ _ _ _ _ _ _ _ _ _ _ _ _ _ _ _ _ _ _ _ _ _ _ _ _ _ _ _ _ _ _ _ _ _ _ _ _ _ _ _ _ _ _ _ _ _ _ _ _ _ _ _ _ _ _ _ _ _ _ _ _ _ _ _ _ _ _ _ _ _ (KB.out)

set_option maxRecDepth 1000000 in
set_option maxHeartbeats 12800000 in
theorem bs26 (w : World) (x y z a b c a1 a2 a3 b1 b2 b3 : Int)
    (K3 : Hid (∀ w1 : World, Calls Tryz.prog 22 #[.agg #[.int .i64 a, .int .i64 b, .int .i64 c]] w1 fun e w' => e = .returned (.tuple #[.agg #[.int .i64 b1, .int .i64 b2, .int .i64 b3], .int .i64 0]) ∧ Below w1.heap.size w1 w'))
    (hT : SBs29 w x y z a b c a1 a2 a3 b1 b2 b3) : SBs26 w x y z a b c a1 a2 a3 b1 b2 b3 := by
  unfold SBs26
  intro wx B8 B14 B16 u0 u1 u2 u3 u5 u6 u7 u9 u10 u11 u12 u13 u18 u19 u20 u21 u22 u23 u24 u25 u26 u27 u28 u29 u30 u31 u32 u33 u34 u35 u36 u37 u38 u39 u40 u41 u42 u43 u44 u45 u46 u47 u48 u49 u50 u51 u52 u53 u54 u55 u56 u57 u58 u59 u60 u61 u62 u63 u64 u65 u66 u67 u68 u69 u70 u71 u72 u73 u74 u75 u76 u77 u78 u79 u80 u81 u82 u83 u84 u85 u86 u87 u88 u89 u90 u91 u92 u93 u94 u95 u96 u97 u98 u99 u100 u101 u102 u103 u104 u105 u106 u107 u108 u109 u110 u111 u112 u113 u114 u115 u116 u117 u118 u119 u120 u121 u122 u123 u124 u125 u126 u127 u128 u129 u130 u131 u132 u133 u134 u135 u136 u137 u138 u139 u140 u141 u142 u143 u144 u145 u146 u147 u148 u149 u150 u151 u152 u153 u154 u155 u156 u157 u158 u159 u160 u161 u162 u163 u164 u165 u166 u167 u168 u169 u170 u171 u172 u173 u174 u175 u176 u177 u178 u179 u180 u181 u182 u183 u184 u185 u186 u187 u188 u189 u190 u191 u192 u193 u194 u195 u196 u197 u198 u199 u200 u201 u202 u203 u204 u205 u206 u207 u208 u209 u210 u211 u212 u213 u214 u215 u216 u217 u218 u219 u220 u221 u222 u223 u224 u225 u226 u227 u228 u229 u230 u231 u232 u233 u234 u235 u236 u237 u238 u239 u240 u241 u242 u243 u244 u245 u246 u247 u248 u249 u250 u251 u252 u253 u254 u255 u256 u257 u258 u259 u260 u261 u262 u263 u264 u265 u266 u267 u268 u269 u270 u271 u272 u273 u274 u275 u276 u277 u278 u279 u280 u281 u282 u283 u284 u285 u286 u287 u288 u289 u290 u291 u292 u293 u294 u295 hk
  have K0 := Lib.hid hk
  clear hk
  conv => arg 2; whnf
  dsimp only
  go_upto_region 26 with fail
  go_cut [18, 19] (fun s18 s19 wr => ∃ B18 : Nat, s18 = .pointer (some ⟨B18, 0, none⟩) ∧ s19 = .int .i64 0 ∧ Kp w wr [(B18, (.cells #[.int .i64 b1, .int .i64 b2, .int .i64 b3] 23 (0, 0))), (B16, (.cells #[.int .i64 a1, .int .i64 a2, .int .i64 a3] 23 (0, 0))), (B14, (.cells #[.int .i64 a1, .int .i64 a2, .int .i64 a3] 23 (0, 0))), (B8, (.cells #[.int .i64 x, .int .i64 y, .int .i64 z, .int .i64 a, .int .i64 b, .int .i64 c] 46 (0, 0)))])
  case first =>
    obtain ⟨k0, k1, k2, k3, k4, k5⟩ := cells6 (K0.out.2 _ (.tail _ (.tail _ (.head _))))
    go_wp2_with (first
      | (go_at_call 22; (with_reducible refine (K3.out _).mono ?_); rintro e w91 ⟨rfl, hb91⟩; have K91 := Lib.hid (K0.out.call hb91)))
    go_meet
    exact ⟨_, rfl, rfl, K91.out.alloc _⟩
  case rest =>
    rename_i hK
    obtain ⟨B18, rfl, rfl, hk⟩ := hcut
    refine hK _ _ ?_
    clear hK
    have KC := Lib.hid hk
    clear hk K0
    go_upto_region 27 with fail
    go_cut [161] (fun s161 wr => s161 = .bool false ∧ Kp w wr [(B18, (.cells #[.int .i64 b1, .int .i64 b2, .int .i64 b3] 23 (0, 0))), (B16, (.cells #[.int .i64 a1, .int .i64 a2, .int .i64 a3] 23 (0, 0))), (B14, (.cells #[.int .i64 a1, .int .i64 a2, .int .i64 a3] 23 (0, 0))), (B8, (.cells #[.int .i64 x, .int .i64 y, .int .i64 z, .int .i64 a, .int .i64 b, .int .i64 c] 46 (0, 0)))])
    case first =>
      obtain ⟨g0, g1, g2⟩ := cells3 (KC.out.2 _ (.tail _ (.head _)))
      obtain ⟨h0, h1, h2⟩ := cells3 (KC.out.2 _ (.tail _ (.tail _ (.head _))))
      go_wp2_with fail
      go_meet
      exact ⟨rfl, KC.out⟩
    case rest =>
      rename_i q1 hq1 q0 hq
      obtain ⟨rfl, hb⟩ := hcut
      refine hq _ _ ?_
      clear hq
      have HK1 := Lib.hid hq1
      clear hq1
      go_wp2_with fail
      refine HK1.out _ _ ?_
      have KD : Kp w wc [(B18, (.cells #[.int .i64 b1, .int .i64 b2, .int .i64 b3] 23 (0, 0))), (B16, (.cells #[.int .i64 a1, .int .i64 a2, .int .i64 a3] 23 (0, 0))), (B8, (.cells #[.int .i64 x, .int .i64 y, .int .i64 z, .int .i64 a, .int .i64 b, .int .i64 c] 46 (0, 0)))] := hb.subs fun p hp => by
        simp only [List.mem_cons, List.not_mem_nil, or_false] at hp ⊢
        rcases hp with h | h | h <;> simp [h]
      unfold SBs29 at hT
      exact hT _ _ _ _ _ _ _ _ _ _ _ _ _ _ _ _ _ _ _ _ _ _ _ _ _ _ _ _ _ _ _ _ _ _ _ _ _ _ _ _ _ _ _ _ _ _ _ _ _ _ _ _ _ _ _ _ _ _ _ _ _ _ _ _ _ _ _ _ _ _ _ _ _ _ _ _ _ _ _ _ _ _ _ _ _ _ _ _ _ _ _ _ _ _ _ _ _ _ _ _ _ _ _ _ _ _ _ _ _ _ _ _ _ _ _ _ _ _ _ _ _ _ _ _ _ _ _ _ _ _ _ _ _ _ _ _ _ _ _ _ _ _ _ _ _ _ _ _ _ _ _ _ _ _ _ _ _ _ _ _ _ _ _ _ _ _ _ _ _ _ _ _ _ _ _ _ _ _ _ _ _ _ _ _ _ _ _ _ _ _ _ _ _ _ _ _ _ _ _ _ _ _ _ _ _ _ _ _ _ _ _ _ _ _ _ _ _ _ _ _ _ _ _ _ _ _ _ _ _ _ _ _ _ _ _ _ _ _ _ _ _ _ _ _ _ _ _ _ _ _ _ _ _ _ _ _ _ _ _ _ _ _ _ _ _ _ _ _ _ _ _ _ _ _ _ _ _ _ _ _ _ _ _ _ _ _ _ _ _ _ _ _ _ _ _ _ (KD)

set_option maxRecDepth 1000000 in
set_option maxHeartbeats 12800000 in
theorem bs29 (w : World) (x y z a b c a1 a2 a3 b1 b2 b3 r1 r2 r3 er : Int)
    (K1 : Hid (∀ w1 : World, Calls Tryz.prog 21 #[.agg #[.int .i64 x, .int .i64 y, .int .i64 z], .agg #[.int .i64 a, .int .i64 b, .int .i64 c]] w1 fun e w' => e = .returned (.tuple #[.agg #[.int .i64 r1, .int .i64 r2, .int .i64 r3], .int .i64 er]) ∧ Below w1.heap.size w1 w'))
    (K2 : Hid (∀ w1 : World, Calls Tryz.prog 21 #[.agg #[.int .i64 a, .int .i64 b, .int .i64 c], .agg #[.int .i64 x, .int .i64 y, .int .i64 z]] w1 fun e w' => e = .returned (.tuple #[.agg #[.int .i64 r1, .int .i64 r2, .int .i64 r3], .int .i64 er]) ∧ Below w1.heap.size w1 w'))
    (hT : SBs31 w x y z a b c a1 a2 a3 b1 b2 b3 r1 r2 r3 er) : SBs29 w x y z a b c a1 a2 a3 b1 b2 b3 := by
  unfold SBs29
  intro wx B8 B16 B18 u0 u1 u2 u3 u5 u6 u7 u9 u10 u11 u12 u13 u14 u15 u17 u19 u20 u21 u22 u23 u24 u25 u26 u27 u28 u29 u30 u31 u32 u33 u34 u35 u36 u37 u38 u39 u40 u41 u42 u43 u44 u45 u46 u47 u48 u49 u50 u51 u52 u53 u54 u55 u56 u57 u58 u59 u60 u61 u62 u63 u64 u65 u66 u67 u68 u69 u70 u71 u72 u73 u74 u75 u76 u77 u78 u79 u80 u81 u82 u83 u84 u85 u86 u87 u88 u89 u90 u91 u92 u93 u94 u95 u96 u97 u98 u99 u100 u101 u102 u103 u104 u105 u106 u107 u108 u109 u110 u111 u112 u113 u114 u115 u116 u117 u118 u119 u120 u121 u122 u123 u124 u125 u126 u127 u128 u129 u130 u131 u132 u133 u134 u135 u136 u137 u138 u139 u140 u141 u142 u143 u144 u145 u146 u147 u148 u149 u150 u151 u152 u153 u154 u155 u156 u157 u158 u159 u160 u161 u162 u163 u164 u165 u166 u167 u168 u169 u170 u171 u172 u173 u174 u175 u176 u177 u178 u179 u180 u181 u182 u183 u184 u185 u186 u187 u188 u189 u190 u191 u192 u193 u194 u195 u196 u197 u198 u199 u200 u201 u202 u203 u204 u205 u206 u207 u208 u209 u210 u211 u212 u213 u214 u215 u216 u217 u218 u219 u220 u221 u222 u223 u224 u225 u226 u227 u228 u229 u230 u231 u232 u233 u234 u235 u236 u237 u238 u239 u240 u241 u242 u243 u244 u245 u246 u247 u248 u249 u250 u251 u252 u253 u254 u255 u256 u257 u258 u259 u260 u261 u262 u263 u264 u265 u266 u267 u268 u269 u270 u271 u272 u273 u274 u275 u276 u277 u278 u279 u280 u281 u282 u283 u284 u285 u286 u287 u288 u289 u290 u291 u292 u293 u294 u295 hk
  have K0 := Lib.hid hk
  clear hk
  conv => arg 2; whnf
  dsimp only
  go_upto_region 29 with fail
  go_cut [20, 21] (fun s20 s21 wr => ∃ B20 : Nat, s20 = .pointer (some ⟨B20, 0, none⟩) ∧ s21 = .int .i64 er ∧ Kp w wr [(B20, (.cells #[.int .i64 r1, .int .i64 r2, .int .i64 r3] 23 (0, 0))), (B18, (.cells #[.int .i64 b1, .int .i64 b2, .int .i64 b3] 23 (0, 0))), (B16, (.cells #[.int .i64 a1, .int .i64 a2, .int .i64 a3] 23 (0, 0))), (B8, (.cells #[.int .i64 x, .int .i64 y, .int .i64 z, .int .i64 a, .int .i64 b, .int .i64 c] 46 (0, 0)))])
  case first =>
    obtain ⟨k0, k1, k2, k3, k4, k5⟩ := cells6 (K0.out.2 _ (.tail _ (.tail _ (.head _))))
    go_wp2_with (first
      | (go_at_call 21; (with_reducible refine (K1.out _).mono ?_); rintro e w91 ⟨rfl, hb91⟩; have K91 := Lib.hid (K0.out.call hb91)))
    go_meet
    exact ⟨_, rfl, rfl, K91.out.alloc _⟩
  case rest =>
    rename_i hK
    obtain ⟨B20, rfl, rfl, hk⟩ := hcut
    refine hK _ _ ?_
    clear hK
    have KA := Lib.hid hk
    clear hk K0
    go_upto_region 30 with fail
    go_cut [22, 23] (fun s22 s23 wr => ∃ B22 : Nat, s22 = .pointer (some ⟨B22, 0, none⟩) ∧ s23 = .int .i64 er ∧ Kp w wr [(B22, (.cells #[.int .i64 r1, .int .i64 r2, .int .i64 r3] 23 (0, 0))), (B20, (.cells #[.int .i64 r1, .int .i64 r2, .int .i64 r3] 23 (0, 0))), (B18, (.cells #[.int .i64 b1, .int .i64 b2, .int .i64 b3] 23 (0, 0))), (B16, (.cells #[.int .i64 a1, .int .i64 a2, .int .i64 a3] 23 (0, 0))), (B8, (.cells #[.int .i64 x, .int .i64 y, .int .i64 z, .int .i64 a, .int .i64 b, .int .i64 c] 46 (0, 0)))])
    case first =>
      obtain ⟨k0, k1, k2, k3, k4, k5⟩ := cells6 (KA.out.2 _ (.tail _ (.tail _ (.tail _ (.head _)))))
      go_wp2_with (first
        | (go_at_call 21; (with_reducible refine (K2.out _).mono ?_); rintro e w91 ⟨rfl, hb91⟩; have K91 := Lib.hid (KA.out.call hb91)))
      go_meet
      exact ⟨_, rfl, rfl, K91.out.alloc _⟩
    case rest =>
      rename_i hK
      obtain ⟨B22, rfl, rfl, hk⟩ := hcut
      refine hK _ _ ?_
      clear hK
      have KB := Lib.hid hk
      clear hk KA
      unfold SBs31 at hT
      exact hT _ _ _ _ _ _ _ _ _ _ _ _ _ _ _ _ _ _ _ _ _ _ _ _ _ _ _ _ _ _ _ _ _ _ _ _ _ _ _ _ _ _ _ _ _ _ _ _ _ _ _ _ _ _ _ _ _ _ _ _ _ _ _ _ _ _ _ _ _ _ _ _ _ _ _ _ _ _ _ _ _ _ _ _ _ _ _ _ _ _ _ _ _ _ _ _ _ _ _ _ _ _ _ _ _ _ _ _ _ _ _ _ _ _ _ _ _ _ _ _ _ _ _ _ _ _ _ _ _ _ _ _ _ _ _ _ _ _ _ _ _ _ _ _ _ _ _ _ _ _ _ _ _ _ _ _ _ _ _ _ _ _ _ _ _ _ _ _ _ _ _ _ _ _ _ _ _ _ _ _ _ _ _ _ _ _ _ _ _ _ _ _ _ _ _ _ _ _ _ _ _ _ _ _ _ _ _ _ _ _ _ _ _ _ _ _ _ _ _ _ _ _ _ _ _ _ _ _ _ _ _ _ _ _ _ _ _ _ _ _ _ _ _ _ _ _ _ _ _ _ _ _ _ _ _ _ _ _ _ _ _ _ _ _ _ _ _ _ _ _ _ _ _ _ _ _ _ _ _ _ _ _ _ _ _ _ _ _ _ _ _ _ _ _ (KB.out)

set_option maxRecDepth 1000000 in
set_option maxHeartbeats 12800000 in
theorem bs31 (w : World) (x y z a b c a1 a2 a3 b1 b2 b3 r1 r2 r3 er : Int)
    (K3 : Hid (∀ w1 : World, Calls Tryz.prog 21 #[.agg #[.int .i64 a1, .int .i64 a2, .int .i64 a3], .agg #[.int .i64 b1, .int .i64 b2, .int .i64 b3]] w1 fun e w' => e = .returned (.tuple #[.agg #[.int .i64 r1, .int .i64 r2, .int .i64 r3], .int .i64 er]) ∧ Below w1.heap.size w1 w'))
    (hT : SBs32 w x y z a b c a1 a2 a3 b1 b2 b3 r1 r2 r3 er) : SBs31 w x y z a b c a1 a2 a3 b1 b2 b3 r1 r2 r3 er := by
  unfold SBs31
  intro wx B8 B16 B18 B20 B22 u0 u1 u2 u3 u5 u6 u7 u9 u10 u11 u12 u13 u14 u15 u17 u19 u24 u25 u26 u27 u28 u29 u30 u31 u32 u33 u34 u35 u36 u37 u38 u39 u40 u41 u42 u43 u44 u45 u46 u47 u48 u49 u50 u51 u52 u53 u54 u55 u56 u57 u58 u59 u60 u61 u62 u63 u64 u65 u66 u67 u68 u69 u70 u71 u72 u73 u74 u75 u76 u77 u78 u79 u80 u81 u82 u83 u84 u85 u86 u87 u88 u89 u90 u91 u92 u93 u94 u95 u96 u97 u98 u99 u100 u101 u102 u103 u104 u105 u106 u107 u108 u109 u110 u111 u112 u113 u114 u115 u116 u117 u118 u119 u120 u121 u122 u123 u124 u125 u126 u127 u128 u129 u130 u131 u132 u133 u134 u135 u136 u137 u138 u139 u140 u141 u142 u143 u144 u145 u146 u147 u148 u149 u150 u151 u152 u153 u154 u155 u156 u157 u158 u159 u160 u161 u162 u163 u164 u165 u166 u167 u168 u169 u170 u171 u172 u173 u174 u175 u176 u177 u178 u179 u180 u181 u182 u183 u184 u185 u186 u187 u188 u189 u190 u191 u192 u193 u194 u195 u196 u197 u198 u199 u200 u201 u202 u203 u204 u205 u206 u207 u208 u209 u210 u211 u212 u213 u214 u215 u216 u217 u218 u219 u220 u221 u222 u223 u224 u225 u226 u227 u228 u229 u230 u231 u232 u233 u234 u235 u236 u237 u238 u239 u240 u241 u242 u243 u244 u245 u246 u247 u248 u249 u250 u251 u252 u253 u254 u255 u256 u257 u258 u259 u260 u261 u262 u263 u264 u265 u266 u267 u268 u269 u270 u271 u272 u273 u274 u275 u276 u277 u278 u279 u280 u281 u282 u283 u284 u285 u286 u287 u288 u289 u290 u291 u292 u293 u294 u295 hk
  have K0 := Lib.hid hk
  clear hk
  conv => arg 2; whnf
  dsimp only
  go_upto_region 31 with fail
  go_cut [24, 25] (fun s24 s25 wr => ∃ B24 : Nat, s24 = .pointer (some ⟨B24, 0, none⟩) ∧ s25 = .int .i64 er ∧ Kp w wr [(B24, (.cells #[.int .i64 r1, .int .i64 r2, .int .i64 r3] 23 (0, 0))), (B22, (.cells #[.int .i64 r1, .int .i64 r2, .int .i64 r3] 23 (0, 0))), (B20, (.cells #[.int .i64 r1, .int .i64 r2, .int .i64 r3] 23 (0, 0))), (B18, (.cells #[.int .i64 b1, .int .i64 b2, .int .i64 b3] 23 (0, 0))), (B16, (.cells #[.int .i64 a1, .int .i64 a2, .int .i64 a3] 23 (0, 0))), (B8, (.cells #[.int .i64 x, .int .i64 y, .int .i64 z, .int .i64 a, .int .i64 b, .int .i64 c] 46 (0, 0)))])
  case first =>
    obtain ⟨h0, h1, h2⟩ := cells3 (K0.out.2 _ (.tail _ (.tail _ (.head _))))
    obtain ⟨g0, g1, g2⟩ := cells3 (K0.out.2 _ (.tail _ (.tail _ (.tail _ (.head _)))))
    go_wp2_with (first
      | (go_at_call 21; (with_reducible refine (K3.out _).mono ?_); rintro e w91 ⟨rfl, hb91⟩; have K91 := Lib.hid (K0.out.call hb91)))
    go_meet
    exact ⟨_, rfl, rfl, K91.out.alloc _⟩
  case rest =>
    rename_i hK
    obtain ⟨B24, rfl, rfl, hk⟩ := hcut
    refine hK _ _ ?_
    clear hK
    have KC := Lib.hid hk
    clear hk K0
    unfold SBs32 at hT
    exact hT _ _ _ _ _ _ _ _ _ _ _ _ _ _ _ _ _ _ _ _ _ _ _ _ _ _ _ _ _ _ _ _ _ _ _ _ _ _ _ _ _ _ _ _ _ _ _ _ _ _ _ _ _ _ _ _ _ _ _ _ _ _ _ _ _ _ _ _ _ _ _ _ _ _ _ _ _ _ _ _ _ _ _ _ _ _ _ _ _ _ _ _ _ _ _ _ _ _ _ _ _ _ _ _ _ _ _ _ _ _ _ _ _ _ _ _ _ _ _ _ _ _ _ _ _ _ _ _ _ _ _ _ _ _ _ _ _ _ _ _ _ _ _ _ _ _ _ _ _ _ _ _ _ _ _ _ _ _ _ _ _ _ _ _ _ _ _ _ _ _ _ _ _ _ _ _ _ _ _ _ _ _ _ _ _ _ _ _ _ _ _ _ _ _ _ _ _ _ _ _ _ _ _ _ _ _ _ _ _ _ _ _ _ _ _ _ _ _ _ _ _ _ _ _ _ _ _ _ _ _ _ _ _ _ _ _ _ _ _ _ _ _ _ _ _ _ _ _ _ _ _ _ _ _ _ _ _ _ _ _ _ _ _ _ _ _ _ _ _ _ _ _ _ _ _ _ _ _ _ _ _ _ _ _ _ _ _ _ _ _ _ _ _ (KC.out)

end Go.Proofs.YtggffhmdgceljaaGreatDoor
