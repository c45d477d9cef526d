/-
  The walk of TopEmberSent: what one telegram of station 7 writes: that it came, and its three integers in the two maps.
-/
import Derived.Test.YtfdkmmllemkogaaOYh
namespace Go.Proofs.Ytfdkmmllemkogaa
open Go.RowKit
set_option linter.unusedVariables false

set_option maxRecDepth 1000000 in
set_option maxHeartbeats 51200000 in
theorem round36 (W H : Int) (b o n c : Nat) (xs : List Nat) (ks : List Int) (m g cc : Nat) (lev : List Int) (B : Nat) (lost : Int) (w wz W2 : World) (p : MadeAt) (L : List Tel) (C : List Int) (i T : Nat) (x y z : Int) (hS : Sent w W H b o n c xs ks m g cc lev B wz) (hgN : g < p.N) (hwN : w.heap.size < p.N) (hA : p.Apart) (hi : i < m)
    (hx : lev[3 * i]?.getD 0 = x) (hy : lev[3 * i + 1]?.getD 0 = y) (hz : lev[3 * i + 2]?.getD 0 = z) (hcp : ∀ q ∈ C, 0 ≤ q)
    (hT : W2.heap[T]? = some (.cells #[.int .i64 7, .int .i64 i, .int .i64 1, .int .i64 x, .int .i64 y, .int .i64 z] 35 (0, 0))) (hTl : p.gc < T ∧ p.gA < T ∧ p.gR < T) (hM : Made p W H n m L (csOf m C) (avOf n lev C) (rsOf n xs C) W2) (hB : Below p.N wz W2)
    (u3 u4 u7 u8 u9 u10 u11 u12 u13 u14 u15 u16 u22 u24 u25 u26 u27 u28 u29 u30 u31 u32 u33 u34 u35 u36 u37 u38 u39 u40 u41 u42 u43 u44 u45 u46 u47 u48 u49 u50 u51 u52 u53 u54 u55 u56 u57 u58 u59 u60 u61 u62 u63 u64 u65 u66 u67 u68 u69 u70 u71 u72 u73 u74 u75 u76 u77 u78 u79 u80 u81 u82 u83 u84 u85 u86 u87 u88 u89 u90 u91 u92 u93 u94 u95 u96 u97 u98 u99 u100 u101 u102 u103 u104 u105 u106 u107 u108 u109 u110 u111 u112 u113 u114 u115 u116 u117 u118 u119 u120 u121 u122 u123 u124 u125 u126 u127 u128 u129 u130 u131 u132 u133 u134 u135 u136 u137 u138 u139 u140 u141 u142 u143 u144 u145 u146 u147 u148 u149 u150 u151 u152 u153 u154 u155 u156 u157 u158 u159 u160 u161 u162 u163 u164 u165 u166 u167 u168 u169 u170 u171 u172 u173 u174 u175 u176 u177 u178 u179 u180 u181 u182 u183 u184 u185 u186 u187 u188 u189 u190 u191 u192 u193 u194 u195 u196 u197 u198 u199 u200 u201 u202 u203 u204 u205 u206 u207 u208 u209 u210 u211 u212 u213 u214 u215 u216 u217 u218 u219 u220 u221 u222 u223 u224 u225 u226 u227 u228 u229 u230 u231 u232 u233 u234 u235 u236 u237 u238 u239 u240 u241 u242 u243 u244 u245 u246 u247 u248 u249 u250 u251 u252 u253 u254 u255 u256 u257 u258 u259 u260 u261 u262 u263 u264 u265 u266 u267 u268 u269 u270 u271 u272 u273 u274 u275 u276 u277 u278 u279 u280 u281 u282 u283 u284 u285 u286 u287 u288 u289 u290 u291 u292 u293 u294 u295 u296 u297 u298 u299 u300 u301 u302 u303 u304 u305 u306 u307 u308 u309 u310 u311 u312 u313 u314 u315 u316 u317 u318 u319 u320 u321 u322 u323 u324 u325 u326 u327 u328 u329 u330 u331 u332 u333 u334 u335 u336 u337 u338 u339 u340 u341 u342 u343 u344 u345 u346 u347 u348 u349 u350 u351 u352 u353 u354 u355 u356 u357 : Value) (Q : Exit → Act → World → Prop)
    (hQ : ∀ (w' : World) (v24 v25 v26 v201 v202 v203 v204 v205 v206 v207 v208 v209 v210 v211 v212 v213 v214 v215 v216 v217 v218 v219 v220 v221 v222 v223 v224 v225 v226 v227 v228 v229 v230 v231 v232 v233 v234 v235 v236 v237 v238 v239 v240 v241 v242 v243 v244 v245 : Value), Made p W H n m L (csOf m (C ++ [(i : Int)])) (avOf n lev (C ++ [(i : Int)])) (rsOf n xs (C ++ [(i : Int)])) w' → Below p.N wz w' → Q .normal ⟨#[.agg #[.int .i64 W, .int .i64 H, .slice (some ⟨b, o, none⟩) n c], .int .u16 lost, .pointer (some ⟨w.heap.size, 0, none⟩), u3, u4, .slice (some ⟨g, 0, none⟩) (3 * m) cc, .int .i64 m, u7, u8, u9, u10, u11, u12, u13, u14, u15, u16, .slice (some ⟨p.gc, 0, none⟩) m m, .pointer (some ⟨p.B18, 0, none⟩), .pointer (some ⟨p.B19, 0, none⟩), .int .i64 (headOf (C ++ [(i : Int)])), .int .i64 (i : Int), u22, .pointer (some ⟨T, 0, none⟩), v24, v25, v26, u27, u28, u29, u30, u31, u32, u33, u34, u35, u36, u37, u38, u39, u40, u41, u42, u43, u44, u45, u46, u47, u48, u49, u50, u51, u52, u53, u54, u55, u56, u57, u58, u59, u60, u61, u62, u63, u64, u65, u66, u67, u68, u69, u70, u71, u72, u73, u74, u75, u76, u77, u78, u79, u80, u81, u82, u83, u84, u85, u86, u87, u88, u89, u90, u91, u92, u93, u94, u95, u96, u97, u98, u99, u100, u101, u102, u103, u104, u105, u106, u107, u108, u109, u110, u111, u112, u113, u114, u115, u116, u117, u118, u119, u120, u121, u122, u123, u124, u125, u126, u127, u128, u129, u130, u131, u132, u133, u134, u135, u136, u137, u138, u139, u140, u141, u142, u143, u144, u145, u146, u147, u148, u149, u150, u151, u152, u153, u154, u155, u156, u157, u158, u159, u160, u161, u162, u163, u164, u165, u166, u167, u168, u169, u170, u171, u172, u173, u174, u175, u176, u177, u178, u179, u180, u181, u182, u183, u184, u185, u186, u187, u188, u189, u190, u191, u192, u193, u194, u195, u196, u197, u198, u199, u200, v201, v202, v203, v204, v205, v206, v207, v208, v209, v210, v211, v212, v213, v214, v215, v216, v217, v218, v219, v220, v221, v222, v223, v224, v225, v226, v227, v228, v229, v230, v231, v232, v233, v234, v235, v236, v237, v238, v239, v240, v241, v242, v243, v244, v245, u246, u247, u248, u249, u250, u251, u252, u253, u254, u255, u256, u257, u258, u259, u260, u261, u262, u263, u264, u265, u266, u267, u268, u269, u270, u271, u272, u273, u274, u275, u276, u277, u278, u279, u280, u281, u282, u283, u284, u285, u286, u287, u288, u289, u290, u291, u292, u293, u294, u295, u296, u297, u298, u299, u300, u301, u302, u303, u304, u305, u306, u307, u308, u309, u310, u311, u312, u313, u314, u315, u316, u317, u318, u319, u320, u321, u322, u323, u324, u325, u326, u327, u328, u329, u330, u331, u332, u333, u334, u335, u336, u337, u338, u339, u340, u341, u342, u343, u344, u345, u346, u347, u348, u349, u350, u351, u352, u353, u354, u355, u356, u357], []⟩ w') :
    Code.wp Try.prog (roundOf 36) Q ⟨#[.agg #[.int .i64 W, .int .i64 H, .slice (some ⟨b, o, none⟩) n c], .int .u16 lost, .pointer (some ⟨w.heap.size, 0, none⟩), u3, u4, .slice (some ⟨g, 0, none⟩) (3 * m) cc, .int .i64 m, u7, u8, u9, u10, u11, u12, u13, u14, u15, u16, .slice (some ⟨p.gc, 0, none⟩) m m, .pointer (some ⟨p.B18, 0, none⟩), .pointer (some ⟨p.B19, 0, none⟩), .int .i64 (headOf C), .int .i64 (endOf C), u22, .pointer (some ⟨T, 0, none⟩), u24, u25, u26, u27, u28, u29, u30, u31, u32, u33, u34, u35, u36, u37, u38, u39, u40, u41, u42, u43, u44, u45, u46, u47, u48, u49, u50, u51, u52, u53, u54, u55, u56, u57, u58, u59, u60, u61, u62, u63, u64, u65, u66, u67, u68, u69, u70, u71, u72, u73, u74, u75, u76, u77, u78, u79, u80, u81, u82, u83, u84, u85, u86, u87, u88, u89, u90, u91, u92, u93, u94, u95, u96, u97, u98, u99, u100, u101, u102, u103, u104, u105, u106, u107, u108, u109, u110, u111, u112, u113, u114, u115, u116, u117, u118, u119, u120, u121, u122, u123, u124, u125, u126, u127, u128, u129, u130, u131, u132, u133, u134, u135, u136, u137, u138, u139, u140, u141, u142, u143, u144, u145, u146, u147, u148, u149, u150, u151, u152, u153, u154, u155, u156, u157, u158, u159, u160, u161, u162, u163, u164, u165, u166, u167, u168, u169, u170, u171, u172, u173, u174, u175, u176, u177, u178, u179, u180, u181, u182, u183, u184, u185, u186, u187, u188, u189, u190, u191, u192, u193, u194, u195, u196, u197, u198, u199, u200, u201, u202, u203, u204, u205, u206, u207, u208, u209, u210, u211, u212, u213, u214, u215, u216, u217, u218, u219, u220, u221, u222, u223, u224, u225, u226, u227, u228, u229, u230, u231, u232, u233, u234, u235, u236, u237, u238, u239, u240, u241, u242, u243, u244, u245, u246, u247, u248, u249, u250, u251, u252, u253, u254, u255, u256, u257, u258, u259, u260, u261, u262, u263, u264, u265, u266, u267, u268, u269, u270, u271, u272, u273, u274, u275, u276, u277, u278, u279, u280, u281, u282, u283, u284, u285, u286, u287, u288, u289, u290, u291, u292, u293, u294, u295, u296, u297, u298, u299, u300, u301, u302, u303, u304, u305, u306, u307, u308, u309, u310, u311, u312, u313, u314, u315, u316, u317, u318, u319, u320, u321, u322, u323, u324, u325, u326, u327, u328, u329, u330, u331, u332, u333, u334, u335, u336, u337, u338, u339, u340, u341, u342, u343, u344, u345, u346, u347, u348, u349, u350, u351, u352, u353, u354, u355, u356, u357], []⟩ W2 := by
  conv => arg 2; whnf
  dsimp only
  have hm12 := hS.m12
  have hn36 := hS.n36
  obtain ⟨c1, f1⟩ := hM.cameAt (i := i) (by rw [csOf_len]; exact hi)
  obtain ⟨t0, t1, t2, t3, t4, t5, tf⟩ := tel_row hT
  have i1 : (i : Int) < (m : Int) := by omega
  have hM3 := hM.setCame hA i true
  rw [csOf_set] at hM3
  have hT3 := blk_set_other (p := ⟨p.gc, i, none⟩) hT (by show p.gc ≠ T; omega) (.bool true)
  have hB3 := hB.setCell (p := ⟨p.gc, i, none⟩) hA.1 (.bool true)
  have HQ := Lib.hid hQ
  have HS := Lib.hid hS
  have HA := Lib.hid hA
  have HX := Lib.hid (show lev[3 * i]?.getD 0 = x ∧ lev[3 * i + 1]?.getD 0 = y ∧ lev[3 * i + 2]?.getD 0 = z from ⟨hx, hy, hz⟩)
  have HCP := Lib.hid hcp
  have HM3 := Lib.hid hM3
  have HT3 := Lib.hid hT3
  have HB3 := Lib.hid hB3
  clear hQ hS hA hx hy hz hcp hM hT hB hM3 hT3 hB3
  go_upto_region 37 with fail
  obtain ⟨W3, hW3⟩ : ∃ W3, W2.setCell ⟨p.gc, i, none⟩ (.bool true) = W3 := ⟨_, rfl⟩
  rw [hW3] at HM3 HT3 HB3
  rw [hW3]
  clear hW3 c1 f1 t0 t1 t2 t3 t4 t5 tf
  obtain ⟨t0, t1, t2, t3, t4, t5, tf⟩ := tel_row HT3.out
  go_upto_if 206 with fail
  go_cut [20] from 201 to 245 (fun s20 wx => s20 = .int .i64 (headOf (C ++ [(i : Int)])) ∧ wx = W3)
  case first =>
    by_cases hn : headOf C < 0
    · have hh := Lib.hid (show headOf (C ++ [(i : Int)]) = (i : Int) by rw [headOf_snoc, if_pos ((headOf_neg HCP.out).1.1 hn)])
      go_wp2_with fail
      go_meet
      exact ⟨by rw [hh.out], rfl⟩
    · have hh := Lib.hid (show headOf (C ++ [(i : Int)]) = headOf C by rw [headOf_snoc, if_neg (fun h => hn ((headOf_neg HCP.out).1.2 h))])
      go_wp2_with fail
      go_meet
      exact ⟨by rw [hh.out], rfl⟩
  case rest =>
    obtain ⟨rfl, rfl⟩ := hcut
    go_wp2_with fail
    have HC := Lib.hid (show Made p W H n m L (csOf m (C ++ [(i : Int)])) (avAt n lev C i 0) (rsAt n xs C i 0) wc by rw [← avAt_0, ← rsAt_0]; exact HM3.out)
    clear HM3 t0 t1 t2 t3 t4 t5 tf
    go_loopw [221] (fun r wr => ∃ k : Nat, k ≤ 3 ∧ r = .int .i64 k ∧ Made p W H n m L (csOf m (C ++ [(i : Int)])) (avAt n lev C i k) (rsAt n xs C i k) wr ∧ Below p.N wz wr ∧ wr.heap[T]? = some (.cells #[.int .i64 7, .int .i64 i, .int .i64 1, .int .i64 x, .int .i64 y, .int .i64 z] 35 (0, 0)))
      (fun r _ => 3 - (intOf r).toNat)
    case atStart => exact ⟨0, by omega, rfl, HC.out, HB3.out, HT3.out⟩
    case round =>
      obtain ⟨k, hk, rfl, hM4, hB4, hT4⟩ := hrel
      by_cases hk3 : k < 3
      · obtain ⟨v, hv⟩ : ∃ v : Int, lev[3 * i + k]?.getD 0 = v := ⟨_, rfl⟩
        have hvb := HS.out.levb (3 * i + k)
        rw [hv] at hvb
        have hidx : ∀ w, (Instr.index 46 (.agg #[.int .i64 x, .int .i64 y, .int .i64 z]) (.int .i64 (k : Int))).run Try.prog w = .ok (.int .i64 v) w := by
          have h3 : k = 0 ∨ k = 1 ∨ k = 2 := by omega
          rcases h3 with rfl | rfl | rfl
          · obtain rfl : x = v := HX.out.1.symm.trans hv
            exact fun _ => by kernel_rfl
          · obtain rfl : y = v := HX.out.2.1.symm.trans hv
            exact fun _ => by kernel_rfl
          · obtain rfl : z = v := HX.out.2.2.symm.trans hv
            exact fun _ => by kernel_rfl
        obtain ⟨t0, t1, t2, t3, t4, t5, tf⟩ := tel_row hT4
        have bb := (HS.out.keptN hB4 hgN hwN).b2
        have l1 : (k : Int) < 3 := by omega
        have l2 : IntKind.i64.wrap (3 * (i : Int)) = 3 * (i : Int) := IntWalk.i64_in _ ⟨by omega, by omega⟩
        have l3 : IntKind.i64.wrap (3 * (i : Int) + (k : Int)) = 3 * (i : Int) + (k : Int) := IntWalk.i64_in _ ⟨by omega, by omega⟩
        have l4 : IntKind.i64.wrap ((k : Int) + 1) = (k : Int) + 1 := IntWalk.i64_in _ ⟨by omega, by omega⟩
        have HV := Lib.hid hv
        clear hv
        by_cases hn3 : 3 * i + k < n
        · have l5 : 3 * (i : Int) + (k : Int) < (n : Int) := by omega
          have l6 : (3 * (i : Int) + (k : Int)).toNat = 3 * i + k := by omega
          have l7 : (0 : Int) ≤ 3 * (i : Int) + (k : Int) := by omega
          have z18 : wr.cell? ⟨p.B18, 2, none⟩ = some (.slice (some ⟨p.gA, 0, none⟩) n n) := by rw [cell_of_row wr _ 2 _ _ (0, 0) hM4.b18]; rfl
          have z19 : wr.cell? ⟨p.B19, 2, none⟩ = some (.slice (some ⟨p.gR, 0, none⟩) n p.cR) := by rw [cell_of_row wr _ 2 _ _ (0, 0) hM4.b19]; rfl
          obtain ⟨a1, a2⟩ := hM4.againAt (i := 3 * i + k) (by rw [avAt_len]; exact hn3)
          obtain ⟨r1, r2⟩ := hM4.restAt (i := 3 * i + k) (by rw [rsAt_len]; exact hn3)
          obtain ⟨q1, q2, q3, q4, q5, q6, q7, q8, q9, q10, q11, q12, q13, q14, q15, _⟩ := HA.out
          have q10' := q10.symm
          have q12' := q12.symm
          have q14' := q14.symm
          have q15' := q15.symm
          have q13' := q13.symm
          have HM4 := Lib.hid hM4
          have HB4 := Lib.hid hB4
          have HT4 := Lib.hid hT4
          have HLV := Lib.hid hvb
          clear hM4 hB4 hT4 hvb q1 q2 q3 q4 q5 q6 q7 q8 q9 q11
          have rsf := fun (w : World) (a : Addr) (m : Mode) (k : FloatKind) (x : Nat) => store_float Try.prog w a m k x
          go_upto_region 45 with fail
          go_region_held3 (fun w' => w'.cell? ⟨p.B18, 2, none⟩ = some (.slice (some ⟨p.gA, 0, none⟩) n n) ∧ w'.cell? ⟨p.B19, 2, none⟩ = some (.slice (some ⟨p.gR, 0, none⟩) n p.cR))
            (go_keep)
            ((go_at_call 10; refine (refSample_any _ (by have := HLV.out; omega) _).mono ?_; rintro e w' ⟨rfl, rfl⟩))
          all_goals
            go_wp2_with fail
            go_roundw
            case rel =>
              refine ⟨k + 1, by omega, by go_num, ?_, ?_, ?_⟩
              · rw [← avAt_set n lev C i k hk3, ← rsAt_set n xs C i k hk3, HV.out]
                first
                  | exact ((HM4.out.setAgain HA.out _ _).setRest HA.out _ _).below (Below.drew (Below.refl _ _))
                  | exact ((HM4.out.setRest HA.out _ _).setAgain HA.out _ _).below (Below.drew (Below.refl _ _))
              · exact ((HB4.out.setCell (by first | exact HA.out.2.2.1 | exact HA.out.2.2.2.2.1) _).setCell (by first | exact HA.out.2.2.1 | exact HA.out.2.2.2.2.1) _).drew
              · exact blk_drew (blk_set_other (blk_set_other HT4.out (by first | (show p.gA ≠ T; omega) | (show p.gR ≠ T; omega)) _) (by first | (show p.gA ≠ T; omega) | (show p.gR ≠ T; omega)) _)
            case measure => simp [intOf]; omega
        · have l5 : ¬ (3 * (i : Int) + (k : Int) < (n : Int)) := by omega
          have l6 : (n : Int) ≤ 3 * (i : Int) + (k : Int) := by omega
          have HM4 := Lib.hid hM4
          have HB4 := Lib.hid hB4
          have HT4 := Lib.hid hT4
          clear hM4 hB4 hT4
          go_wp2_with fail
          go_roundw
          case rel =>
            refine ⟨k + 1, by omega, by go_num, ?_, HB4.out, HT4.out⟩
            rw [avAt_over n lev C i k (by omega), rsAt_over n xs C i k (by omega)]
            exact HM4.out
          case measure => simp [intOf]; omega
      · obtain rfl : k = 3 := by omega
        rw [avAt_3, rsAt_3] at hM4
        go_wp2_with fail
        exact HQ.out _ _ _ _ _ _ _ _ _ _ _ _ _ _ _ _ _ _ _ _ _ _ _ _ _ _ _ _ _ _ _ _ _ _ _ _ _ _ _ _ _ _ _ _ _ _ _ _ _ hM4 hB4
end Go.Proofs.Ytfdkmmllemkogaa

/-
  The walk of TopEmberSent: the third loop: what came is written into the two maps.
-/
namespace Go.Proofs.Ytfdkmmllemkogaa
open Go.RowKit
set_option linter.unusedVariables false

set_option maxRecDepth 1000000 in
set_option maxHeartbeats 51200000 in
theorem tail28 (W H : Int) (b o n c : Nat) (xs : List Nat) (ks : List Int) (m g cc : Nat) (lev : List Int) (B : Nat) (lost : Int) (hlost : 0 ≤ lost ∧ lost ≤ 65535) (w : World) (hT : Tail48 W H b o n c xs ks m g cc lev B lost w) : Tail28 W H b o n c xs ks m g cc lev B lost w := by
  unfold Tail28
  intro p L wz u3 u4 u7 u8 u9 u10 u11 u12 u13 u22 u23 u24 u25 u26 u27 u28 u29 u30 u31 u32 u33 u34 u35 u36 u37 u38 u39 u40 u41 u42 u43 u44 u45 u46 u47 u48 u49 u50 u51 u52 u53 u54 u55 u56 u57 u58 u59 u60 u61 u62 u63 u64 u65 u66 u67 u68 u69 u70 u71 u72 u73 u74 u75 u76 u77 u78 u79 u80 u81 u82 u83 u84 u85 u86 u87 u88 u89 u90 u91 u92 u93 u94 u95 u96 u97 u98 u99 u100 u101 u102 u103 u104 u105 u106 u107 u108 u109 u110 u111 u112 u113 u114 u115 u116 u117 u118 u119 u120 u121 u122 u123 u124 u125 u126 u127 u128 u129 u130 u131 u132 u133 u134 u135 u136 u137 u138 u139 u140 u141 u142 u143 u144 u145 u146 u147 u148 u149 u150 u151 u152 u153 u154 u155 u156 u157 u158 u159 u160 u161 u162 u163 u164 u165 u166 u167 u168 u169 u170 u171 u172 u173 u174 u175 u176 u177 u178 u179 u180 u181 u182 u183 u184 u185 u186 u187 u188 u189 u190 u191 u192 u193 u194 u195 u196 u197 u198 u199 u200 u201 u202 u203 u204 u205 u206 u207 u208 u209 u210 u211 u212 u213 u214 u215 u216 u217 u218 u219 u220 u221 u222 u223 u224 u225 u226 u227 u228 u229 u230 u231 u232 u233 u234 u235 u236 u237 u238 u239 u240 u241 u242 u243 u244 u245 u246 u247 u248 u249 u250 u251 u252 u253 u254 u255 u256 u257 u258 u259 u260 u261 u262 u263 u264 u265 u266 u267 u268 u269 u270 u271 u272 u273 u274 u275 u276 u277 u278 u279 u280 u281 u282 u283 u284 u285 u286 u287 u288 u289 u290 u291 u292 u293 u294 u295 u296 u297 u298 u299 u300 u301 u302 u303 u304 u305 u306 u307 u308 u309 u310 u311 u312 u313 u314 u315 u316 u317 u318 u319 u320 u321 u322 u323 u324 u325 u326 u327 u328 u329 u330 u331 u332 u333 u334 u335 u336 u337 u338 u339 u340 u341 u342 u343 u344 u345 u346 u347 u348 u349 u350 u351 u352 u353 u354 u355 u356 u357 hS hgN hwN hA hL hM
  conv => arg 2; whnf
  dsimp only
  have hm1 := hS.m1
  have hm12 := hS.m12
  have hn36 := hS.n36
  have hnl := telsTo_len lev (keptF lost) m
  have hLr := hL
  rw [hL] at hnl
  have hLg : ∀ t ∈ L, ∃ i, i < m ∧ (t = telOf lev 8 i ∨ t = telOf lev 7 i) := fun t ht => by
    rw [← hL] at ht
    obtain ⟨i, hi, h⟩ := telsTo_mem ht
    exact ⟨i, hi, h.imp id And.left⟩
  have hC7 : countsOf L 7 = keptTo (keptF lost) m := by rw [← hL]; exact counts7 _ _ _
  have hL1 : 1 ≤ L.length := by
    rw [← hL, show m = (m - 1) + 1 by omega, telsTo_succ]
    simp only [List.length_append, List.length_cons, List.length_nil]; omega
  obtain ⟨g14, c14, h14, hg14, hN14⟩ := owns_some hM.tels hL1
  have e14 : p.gl = some ⟨g14, 0, none⟩ := by injection h14
  have HS := Lib.hid hS
  have HM := Lib.hid hM
  have HA := Lib.hid hA
  have HLg := Lib.hid hLg
  have HC7 := Lib.hid hC7
  have HE := Lib.hid e14
  have HL := Lib.hid hL
  have s35 : (Try.prog.info? 35).map (·.size) = some 6 := by kernel_rfl
  rw [e14]
  clear hS hM hA hLg hC7 e14 hL h14 hLr
  go_upto_block 4 with fail
  go_cut [20, 21] (fun s20 s21 wr => s20 = .int .i64 (headOf (keptTo (keptF lost) m)) ∧ s21 = .int .i64 (endOf (keptTo (keptF lost) m)) ∧ Made p W H n m L (csOf m (keptTo (keptF lost) m)) (avOf n lev (keptTo (keptF lost) m)) (rsOf n xs (keptTo (keptF lost) m)) wr ∧ Below p.N wz wr)
  case first =>
    go_wp2_with fail
    go_loopw [20, 21, 149] (fun s20 s21 i wr => ∃ j : Nat, j ≤ L.length ∧ i = .int .i64 j ∧ s20 = .int .i64 (headOf (countsOf (L.take j) 7)) ∧ s21 = .int .i64 (endOf (countsOf (L.take j) 7)) ∧ Made p W H n m L (csOf m (countsOf (L.take j) 7)) (avOf n lev (countsOf (L.take j) 7)) (rsOf n xs (countsOf (L.take j) 7)) wr ∧ Below p.N wz wr)
      (fun _ _ i _ => L.length - (intOf i).toNat)
    case atStart =>
      refine ⟨0, Nat.zero_le _, rfl, rfl, rfl, ?_, Below.refl _ _⟩
      rw [show countsOf (L.take 0) 7 = [] from rfl, csOf_nil, avOf_nil, rsOf_nil _ _ HM.out.lens.2.2]
      exact HM.out
    case round =>
      obtain ⟨j, hj, rfl, rfl, rfl, hMr, hbr⟩ := hrel
      by_cases hlt : j < L.length
      · obtain ⟨t, ht⟩ : ∃ t, L[j]?.getD tel0 = t := ⟨_, rfl⟩
        obtain ⟨i, hi, htt⟩ := HLg.out t (by rw [← ht, List.getElem?_eq_getElem hlt]; exact List.getElem_mem _)
        have hcs := countsOf_succ L 7 j hlt
        have hnx := counts_next hlt (by rw [HC7.out]; exact keptTo_up _ _)
        have hr := telsAt_of (by rw [← HE.out]; exact hMr.tels) j hlt
        have hcp : ∀ q ∈ countsOf (L.take j) 7, 0 ≤ q := fun q hq => by
          have h := counts_take hq
          rw [HC7.out] at h
          exact (keptTo_mem.1 h).1
        obtain ⟨C, hC⟩ : ∃ C, countsOf (L.take j) 7 = C := ⟨_, rfl⟩
        rw [ht] at hcs hr hnx
        rw [hC] at hcs hnx hMr hcp ⊢
        have hSr := HS.out.keptN hbr hgN hwN
        have g0 := hSr.cell (j := 3 * i) (by omega)
        have g1 := hSr.cell (j := 3 * i + 1) (by omega)
        have g2 := hSr.cell (j := 3 * i + 2) (by omega)
        have v0 := hSr.levb (3 * i)
        have v1 := hSr.levb (3 * i + 1)
        have v2 := hSr.levb (3 * i + 2)
        have bb := hSr.b2
        obtain ⟨x, hx⟩ : ∃ x : Int, lev[3 * i]?.getD 0 = x := ⟨_, rfl⟩
        obtain ⟨y, hy⟩ : ∃ y : Int, lev[3 * i + 1]?.getD 0 = y := ⟨_, rfl⟩
        obtain ⟨z, hz⟩ : ∃ z : Int, lev[3 * i + 2]?.getD 0 = z := ⟨_, rfl⟩
        have htt' : t = ⟨8, i, 1, x, y, z⟩ ∨ t = ⟨7, i, 1, x, y, z⟩ := by
          rcases htt with rfl | rfl
          · exact .inl (by unfold telOf; rw [hx, hy, hz])
          · exact .inr (by unfold telOf; rw [hx, hy, hz])
        rw [hx] at g0 v0
        rw [hy] at g1 v1
        rw [hz] at g2 v2
        have i1 : ¬ ((i : Int) < 0) := by omega
        have i2 : (i : Int) < (m : Int) := by omega
        have i3 : ¬ ((m : Int) ≤ (i : Int)) := by omega
        have hgw := hg14
        have hsw := hbr.size
        have hNw : p.N ≤ wr.heap.size := by omega
        have HMR := Lib.hid hMr
        have HBR := Lib.hid hbr
        have HCS := Lib.hid hcs
        have HNX := Lib.hid hnx
        have HX := Lib.hid (show lev[3 * i]?.getD 0 = x ∧ lev[3 * i + 1]?.getD 0 = y ∧ lev[3 * i + 2]?.getD 0 = z from ⟨hx, hy, hz⟩)
        have HCP := Lib.hid hcp
        have HG0 := Lib.hid g0
        have HG1 := Lib.hid g1
        have HG2 := Lib.hid g2
        have HBB := Lib.hid bb
        clear hMr hbr hcs hnx hx hy hz ht hC hSr htt hcp g0 g1 g2 bb
        rcases htt' with rfl | rfl
        · have HR : Hid (wr.rangeAt g14 (0 + j * 6) [.int .i64 8, .int .i64 i, .int .i64 1, .int .i64 x, .int .i64 y, .int .i64 z]) := Lib.hid hr
          clear hr
          go_wp2_with (first
            | (refine wpList_load_mid rfl 35 (.tmp 151) rfl g14 (0 + j * 6) rfl [.int .i64 8, .int .i64 i, .int .i64 1, .int .i64 x, .int .i64 y, .int .i64 z] _ HR.out Try.underlying35 rfl (by rw [s35]; rfl) ?_)
            | (refine wpList_load_mid rfl 35 (.tmp 151) rfl g14 (j * 6) rfl [.int .i64 8, .int .i64 i, .int .i64 1, .int .i64 x, .int .i64 y, .int .i64 z] _ (by have h := HR.out; rw [Nat.zero_add] at h; exact h) Try.underlying35 rfl (by rw [s35]; rfl) ?_))
          go_roundw
          case rel =>
            have e : countsOf (L.take (j + 1)) 7 = C := HCS.out.trans (if_neg (show ¬ ((8 : Int) = 7) by decide))
            refine ⟨j + 1, by omega, by go_num, ?_⟩
            rw [e]
            exact ⟨rfl, rfl, HMR.out.below ((Below.refl _ wr).alloc (Nat.le_refl _) _), HBR.out.alloc hNw _⟩
          case measure => simp [intOf]; omega
        · have HR : Hid (wr.rangeAt g14 (0 + j * 6) [.int .i64 7, .int .i64 i, .int .i64 1, .int .i64 x, .int .i64 y, .int .i64 z]) := Lib.hid hr
          clear hr
          go_upto_region 31 with (first
            | (refine wpList_load_mid rfl 35 (.tmp 151) rfl g14 (0 + j * 6) rfl [.int .i64 7, .int .i64 i, .int .i64 1, .int .i64 x, .int .i64 y, .int .i64 z] _ HR.out Try.underlying35 rfl (by rw [s35]; rfl) ?_)
            | (refine wpList_load_mid rfl 35 (.tmp 151) rfl g14 (j * 6) rfl [.int .i64 7, .int .i64 i, .int .i64 1, .int .i64 x, .int .i64 y, .int .i64 z] _ (by have h := HR.out; rw [Nat.zero_add] at h; exact h) Try.underlying35 rfl (by rw [s35]; rfl) ?_))
          obtain ⟨W1, hW1⟩ : ∃ W1, wr.alloc (.cells #[.int .i64 7, .int .i64 i, .int .i64 1, .int .i64 x, .int .i64 y, .int .i64 z] 35) = W1 := ⟨_, rfl⟩
          have hB1 : Below wr.heap.size wr W1 := by rw [← hW1]; exact (Below.refl _ wr).alloc (Nat.le_refl _) _
          have hT1 : W1.heap[wr.heap.size]? = some (.cells #[.int .i64 7, .int .i64 i, .int .i64 1, .int .i64 x, .int .i64 y, .int .i64 z] 35 (0, 0)) := by rw [← hW1]; exact blk_alloc_new _ _
          try rw [hW1]
          clear hW1
          have hM1 := HMR.out.below hB1
          have hci : i ∉ [] := by simp
          obtain ⟨c1, f1⟩ := hM1.cameAt (i := i) (by rw [csOf_len]; exact hi)
          rw [csOf_at m C i hi, inC_no (HNX.out rfl)] at c1
          obtain ⟨t0, t1, t2, t3, t4, t5, tf⟩ := tel_row hT1
          have g0 := (hB1.cell (p := ⟨g, 3 * i, none⟩) (by show g < _; omega)).trans HG0.out
          have g1 := (hB1.cell (p := ⟨g, 3 * i + 1, none⟩) (by show g < _; omega)).trans HG1.out
          have g2 := (hB1.cell (p := ⟨g, 3 * i + 2, none⟩) (by show g < _; omega)).trans HG2.out
          have k2 : (0 : Int) ≤ 3 * (i : Int) := by omega
          have k3 : IntKind.i64.wrap (3 * (i : Int)) = 3 * (i : Int) := IntWalk.i64_in _ ⟨by omega, by omega⟩
          have k4 : IntKind.i64.wrap (3 * (i : Int) + 1) = 3 * (i : Int) + 1 := IntWalk.i64_in _ ⟨by omega, by omega⟩
          have k5 : IntKind.i64.wrap (3 * (i : Int) + 2) = 3 * (i : Int) + 2 := IntWalk.i64_in _ ⟨by omega, by omega⟩
          have k6 : (3 * (i : Int)).toNat = 3 * i := by omega
          have k7 : (3 * (i : Int) + 1).toNat = 3 * i + 1 := by omega
          have k8 : (3 * (i : Int) + 2).toNat = 3 * i + 2 := by omega
          have k9 : (3 * (i : Int)) < ((3 * m : Nat) : Int) := by omega
          have k10 : (3 * (i : Int) + 1) < ((3 * m : Nat) : Int) := by omega
          have k11 : (3 * (i : Int) + 2) < ((3 * m : Nat) : Int) := by omega
          have k12 : (0 : Int) ≤ 3 * (i : Int) + 1 := by omega
          have k13 : (0 : Int) ≤ 3 * (i : Int) + 2 := by omega
          have j9 : (3 * (i : Int)) < 3 * (m : Int) := by omega
          have j10 : (3 * (i : Int) + 1) < 3 * (m : Int) := by omega
          have j11 : (3 * (i : Int) + 2) < 3 * (m : Int) := by omega
          have HM1 := Lib.hid hM1
          have HB1 := Lib.hid hB1
          have HT1 := Lib.hid hT1
          clear hM1 hB1 hT1 hci
          go_upto_region 34 with fail
          go_quiet (fail)
          obtain ⟨W2, hW2⟩ : ∃ W2, W1.drewN nq = W2 := ⟨_, rfl⟩
          rw [hW2]
          have hB12 : Below (wr.heap.size + 1) W1 W2 := by rw [← hW2]; exact below_drewN (Below.refl _ _) _
          have HT2 := Lib.hid ((hB12.block wr.heap.size (by omega)).trans HT1.out)
          have HB2 := Lib.hid (HB1.out.trans (hB12.mono (by omega)))
          have HM2 := Lib.hid (HMR.out.below HB2.out)
          have hlt5 : p.gc < wr.heap.size ∧ p.gA < wr.heap.size ∧ p.gR < wr.heap.size := ⟨(HMR.out.came.lt _ rfl).2, (HMR.out.again.lt _ rfl).2, (HMR.out.rest.lt _ rfl).2⟩
          have HL5 := Lib.hid hlt5
          clear hW2 hB12 hlt5 HM1 HB1 HT1 c1 f1 t0 t1 t2 t3 t4 t5 tf g0 g1 g2 k2 k3 k4 k5 k6 k7 k8 k9 k10 k11 k12 k13 j9 j10 j11
          go_upto_if 200 with fail
          go_cut [149] from 150 to 246 (fun s149 wx => s149 = .int .i64 (j : Int) ∧ wx = W2)
          case first =>
            go_wp2_with fail
            go_meet
            exact ⟨rfl, rfl⟩
          case rest =>
            rename_i hK
            obtain ⟨rfl, rfl⟩ := hcut
            refine hK _ _ ?_
            clear hK
            refine round36 W H b o n c xs ks m g cc lev B lost w wz _ p L C i wr.heap.size x y z HS.out hgN hwN HA.out hi HX.out.1 HX.out.2.1 HX.out.2.2 HCP.out HT2.out HL5.out HM2.out (HBR.out.trans (HB2.out.mono hNw)) _ _ _ _ _ _ _ _ _ _ _ _ _ _ _ _ _ _ _ _ _ _ _ _ _ _ _ _ _ _ _ _ _ _ _ _ _ _ _ _ _ _ _ _ _ _ _ _ _ _ _ _ _ _ _ _ _ _ _ _ _ _ _ _ _ _ _ _ _ _ _ _ _ _ _ _ _ _ _ _ _ _ _ _ _ _ _ _ _ _ _ _ _ _ _ _ _ _ _ _ _ _ _ _ _ _ _ _ _ _ _ _ _ _ _ _ _ _ _ _ _ _ _ _ _ _ _ _ _ _ _ _ _ _ _ _ _ _ _ _ _ _ _ _ _ _ _ _ _ _ _ _ _ _ _ _ _ _ _ _ _ _ _ _ _ _ _ _ _ _ _ _ _ _ _ _ _ _ _ _ _ _ _ _ _ _ _ _ _ _ _ _ _ _ _ _ _ _ _ _ _ _ _ _ _ _ _ _ _ _ _ _ _ _ _ _ _ _ _ _ _ _ _ _ _ _ _ _ _ _ _ _ _ _ _ _ _ _ _ _ _ _ _ _ _ _ _ _ _ _ _ _ _ _ _ _ _ _ _ _ _ _ _ _ _ _ _ _ _ _ _ _ _ _ _ _ _ _ _ _ _ _ _ _ _ _ _ _ _ _ _ _ _ _ _ _ _ _ _ _ _ _ _ _ _ _ _ _ _ _ _ _ _ _ _ _ _ _ _ _ _ _ _ _ _ _ _ _ _ _ _ _ _ _ _ _ _ _ _ _ _ _ _ _ _ _ _ _ ?_
            intro w' v24 v25 v26 v201 v202 v203 v204 v205 v206 v207 v208 v209 v210 v211 v212 v213 v214 v215 v216 v217 v218 v219 v220 v221 v222 v223 v224 v225 v226 v227 v228 v229 v230 v231 v232 v233 v234 v235 v236 v237 v238 v239 v240 v241 v242 v243 v244 v245 hMn hBn
            go_wp2_with fail
            go_roundw
            case rel =>
              have e : countsOf (L.take (j + 1)) 7 = C ++ [(i : Int)] := HCS.out.trans (if_pos rfl)
              refine ⟨j + 1, by omega, by go_num, ?_⟩
              rw [e]
              exact ⟨rfl, by rw [endOf_snoc], hMn, hBn⟩
            case measure => simp [intOf]; omega
      · obtain rfl : j = L.length := by omega
        rw [List.take_length, HC7.out] at hMr
        go_wp2_with fail
        go_meet
        rw [List.take_length, HC7.out]
        exact ⟨rfl, rfl, hMr, hbr⟩
  case rest =>
    rename_i hK
    obtain ⟨rfl, rfl, hMr, hbr⟩ := hcut
    refine hK _ _ ?_
    clear hK
    unfold Tail48 at hT
    rw [← HE.out]
    exact hT p L _ _ _ _ _ _ _ _ _ _ _ _ _ _ _ _ _ _ _ _ _ _ _ _ _ _ _ _ _ _ _ _ _ _ _ _ _ _ _ _ _ _ _ _ _ _ _ _ _ _ _ _ _ _ _ _ _ _ _ _ _ _ _ _ _ _ _ _ _ _ _ _ _ _ _ _ _ _ _ _ _ _ _ _ _ _ _ _ _ _ _ _ _ _ _ _ _ _ _ _ _ _ _ _ _ _ _ _ _ _ _ _ _ _ _ _ _ _ _ _ _ _ _ _ _ _ _ _ _ _ _ _ _ _ _ _ _ _ _ _ _ _ _ _ _ _ _ _ _ _ _ _ _ _ _ _ _ _ _ _ _ _ _ _ _ _ _ _ _ _ _ _ _ _ _ _ _ _ _ _ _ _ _ _ _ _ _ _ _ _ _ _ _ _ _ _ _ _ _ _ _ _ _ _ _ _ _ _ _ _ _ _ _ _ _ _ _ _ _ _ _ _ _ _ _ _ _ _ _ _ _ _ _ _ _ _ _ _ _ _ _ _ _ _ _ _ _ _ _ _ _ _ _ _ _ _ _ _ _ _ _ _ _ _ _ _ _ _ _ _ _ _ _ _ _ _ _ _ _ _ _ _ _ _ _ _ _ _ _ _ _ _ _ _ _ _ _ _ _ _ _ _ _ _ _ _ _ _ _ _ _ _ _ _ _ _ _ _ _ _ _ _ _ _ _ _ _ _ _ _ _ _ _ _ _ _ _ _ _ _ _ _ _ _ _ _ _ _ (HS.out.keptN hbr hgN hwN) hgN hwN HA.out HL.out hMr
end Go.Proofs.Ytfdkmmllemkogaa
