/-
  The walk of TopEmberSent: what one telegram of station 7 writes: that it came, and its three integers in the two maps.
-/
import Derived.Test.YtnlbgikhkpalcaaCYi
namespace Go.Proofs.Ytnlbgikhkpalcaa
open Go.RowKit
set_option linter.unusedVariables false

set_option maxRecDepth 1000000 in
set_option maxHeartbeats 51200000 in
theorem round36 (W H : Int) (b o n c : Nat) (xs : List Nat) (ks : List Int) (m g cc : Nat) (lev : List Int) (B : Nat) (lost : Int) (w wz W2 : World) (p : MadeAt) (L : List Tel) (C : List Int) (i T : Nat) (x y z : Int) (hS : Sent w W H b o n c xs ks m g cc lev B wz) (hgN : g < p.N) (hwN : w.heap.size < p.N) (hA : p.Apart) (hi : i < m)
    (hx : lev[3 * i]?.getD 0 = x) (hy : lev[3 * i + 1]?.getD 0 = y) (hz : lev[3 * i + 2]?.getD 0 = z) (hcp : ∀ q ∈ C, 0 ≤ q)
    (hT : W2.heap[T]? = some (.cells #[.int .i64 7, .int .i64 i, .int .i64 1, .int .i64 x, .int .i64 y, .int .i64 z] 35 (0, 0))) (hTl : p.gc < T ∧ p.gA < T ∧ p.gR < T) (hM : Made p W H n m L (csOf m C) (avOf n lev C) (rsOf n xs C) W2) (hB : Below p.N wz W2)
    (u3 u4 u7 u8 u9 u10 u11 u12 u13 u14 u15 u16 u22 u24 u25 u26 u27 u28 u29 u30 u31 u32 u33 u34 u35 u36 u37 u38 u39 u40 u41 u42 u43 u44 u45 u46 u47 u48 u49 u50 u51 u52 u53 u54 u55 u56 u57 u58 u59 u60 u61 u62 u63 u64 u65 u66 u67 u68 u69 u70 u71 u72 u73 u74 u75 u76 u77 u78 u79 u80 u81 u82 u83 u84 u85 u86 u87 u88 u89 u90 u91 u92 u93 u94 u95 u96 u97 u98 u99 u100 u101 u102 u103 u104 u105 u106 u107 u108 u109 u110 u111 u112 u113 u114 u115 u116 u117 u118 u119 u120 u121 u122 u123 u124 u125 u126 u127 u128 u129 u130 u131 u132 u133 u134 u135 u136 u137 u138 u139 u140 u141 u142 u143 u144 u145 u146 u147 u148 u149 u150 u151 u152 u153 u154 u155 u156 u157 u158 u159 u160 u161 u162 u163 u164 u165 u166 u167 u168 u169 u170 u171 u172 u173 u174 u175 u176 u177 u178 u179 u180 u181 u182 u183 u184 u185 u186 u187 u188 u189 u190 u191 u192 u193 u194 u195 u196 u197 u198 u199 u200 u201 u202 u203 u204 u205 u206 u207 u208 u209 u210 u211 u212 u213 u214 u215 u216 u217 u218 u219 u220 u221 u222 u223 u224 u225 u226 u227 u228 u229 u230 u231 u232 u233 u234 u235 u236 u237 u238 u239 u240 u241 u242 u243 u244 u245 u246 u247 u248 u249 u250 u251 u252 u253 u254 u255 u256 u257 u258 u259 u260 u261 u262 u263 u264 u265 u266 u267 u268 u269 u270 u271 u272 u273 u274 u275 u276 u277 u278 u279 u280 u281 u282 u283 u284 u285 u286 u287 u288 u289 u290 u291 u292 u293 u294 u295 u296 u297 u298 u299 u300 u301 u302 u303 u304 u305 u306 u307 u308 u309 u310 u311 u312 u313 u314 u315 u316 u317 u318 u319 u320 u321 u322 u323 u324 u325 u326 u327 u328 u329 u330 u331 u332 u333 u334 u335 u336 u337 u338 u339 u340 u341 u342 u343 u344 u345 u346 u347 u348 u349 u350 u351 u352 u353 u354 u355 u356 u357 : Value) (Q : Exit → Act → World → Prop)
    (hQ : ∀ (w' : World) (v24 v25 v26 v201 v202 v203 v204 v205 v206 v207 v208 v209 v210 v211 v212 v213 v214 v215 v216 v217 v218 v219 v220 v221 v222 v223 v224 v225 v226 v227 v228 v229 v230 v231 v232 v233 v234 v235 v236 v237 v238 v239 v240 v241 v242 v243 v244 v245 : Value), Made p W H n m L (csOf m (C ++ [(i : Int)])) (avOf n lev (C ++ [(i : Int)])) (rsOf n xs (C ++ [(i : Int)])) w' → Below p.N wz w' → Q .normal ⟨#[.agg #[.int .i64 W, .int .i64 H, .slice (some ⟨b, o, none⟩) n c], .int .u16 lost, .pointer (some ⟨w.heap.size, 0, none⟩), u3, u4, .slice (some ⟨g, 0, none⟩) (3 * m) cc, .int .i64 m, u7, u8, u9, u10, u11, u12, u13, u14, u15, u16, .slice (some ⟨p.gc, 0, none⟩) m m, .pointer (some ⟨p.B18, 0, none⟩), .pointer (some ⟨p.B19, 0, none⟩), .int .i64 (headOf (C ++ [(i : Int)])), .int .i64 (i : Int), u22, .pointer (some ⟨T, 0, none⟩), v24, v25, v26, u27, u28, u29, u30, u31, u32, u33, u34, u35, u36, u37, u38, u39, u40, u41, u42, u43, u44, u45, u46, u47, u48, u49, u50, u51, u52, u53, u54, u55, u56, u57, u58, u59, u60, u61, u62, u63, u64, u65, u66, u67, u68, u69, u70, u71, u72, u73, u74, u75, u76, u77, u78, u79, u80, u81, u82, u83, u84, u85, u86, u87, u88, u89, u90, u91, u92, u93, u94, u95, u96, u97, u98, u99, u100, u101, u102, u103, u104, u105, u106, u107, u108, u109, u110, u111, u112, u113, u114, u115, u116, u117, u118, u119, u120, u121, u122, u123, u124, u125, u126, u127, u128, u129, u130, u131, u132, u133, u134, u135, u136, u137, u138, u139, u140, u141, u142, u143, u144, u145, u146, u147, u148, u149, u150, u151, u152, u153, u154, u155, u156, u157, u158, u159, u160, u161, u162, u163, u164, u165, u166, u167, u168, u169, u170, u171, u172, u173, u174, u175, u176, u177, u178, u179, u180, u181, u182, u183, u184, u185, u186, u187, u188, u189, u190, u191, u192, u193, u194, u195, u196, u197, u198, u199, u200, v201, v202, v203, v204, v205, v206, v207, v208, v209, v210, v211, v212, v213, v214, v215, v216, v217, v218, v219, v220, v221, v222, v223, v224, v225, v226, v227, v228, v229, v230, v231, v232, v233, v234, v235, v236, v237, v238, v239, v240, v241, v242, v243, v244, v245, u246, u247, u248, u249, u250, u251, u252, u253, u254, u255, u256, u257, u258, u259, u260, u261, u262, u263, u264, u265, u266, u267, u268, u269, u270, u271, u272, u273, u274, u275, u276, u277, u278, u279, u280, u281, u282, u283, u284, u285, u286, u287, u288, u289, u290, u291, u292, u293, u294, u295, u296, u297, u298, u299, u300, u301, u302, u303, u304, u305, u306, u307, u308, u309, u310, u311, u312, u313, u314, u315, u316, u317, u318, u319, u320, u321, u322, u323, u324, u325, u326, u327, u328, u329, u330, u331, u332, u333, u334, u335, u336, u337, u338, u339, u340, u341, u342, u343, u344, u345, u346, u347, u348, u349, u350, u351, u352, u353, u354, u355, u356, u357], []⟩ w') :
    Code.wp Try.prog (roundOf 36) Q ⟨#[.agg #[.int .i64 W, .int .i64 H, .slice (some ⟨b, o, none⟩) n c], .int .u16 lost, .pointer (some ⟨w.heap.size, 0, none⟩), u3, u4, .slice (some ⟨g, 0, none⟩) (3 * m) cc, .int .i64 m, u7, u8, u9, u10, u11, u12, u13, u14, u15, u16, .slice (some ⟨p.gc, 0, none⟩) m m, .pointer (some ⟨p.B18, 0, none⟩), .pointer (some ⟨p.B19, 0, none⟩), .int .i64 (headOf C), .int .i64 (endOf C), u22, .pointer (some ⟨T, 0, none⟩), u24, u25, u26, u27, u28, u29, u30, u31, u32, u33, u34, u35, u36, u37, u38, u39, u40, u41, u42, u43, u44, u45, u46, u47, u48, u49, u50, u51, u52, u53, u54, u55, u56, u57, u58, u59, u60, u61, u62, u63, u64, u65, u66, u67, u68, u69, u70, u71, u72, u73, u74, u75, u76, u77, u78, u79, u80, u81, u82, u83, u84, u85, u86, u87, u88, u89, u90, u91, u92, u93, u94, u95, u96, u97, u98, u99, u100, u101, u102, u103, u104, u105, u106, u107, u108, u109, u110, u111, u112, u113, u114, u115, u116, u117, u118, u119, u120, u121, u122, u123, u124, u125, u126, u127, u128, u129, u130, u131, u132, u133, u134, u135, u136, u137, u138, u139, u140, u141, u142, u143, u144, u145, u146, u147, u148, u149, u150, u151, u152, u153, u154, u155, u156, u157, u158, u159, u160, u161, u162, u163, u164, u165, u166, u167, u168, u169, u170, u171, u172, u173, u174, u175, u176, u177, u178, u179, u180, u181, u182, u183, u184, u185, u186, u187, u188, u189, u190, u191, u192, u193, u194, u195, u196, u197, u198, u199, u200, u201, u202, u203, u204, u205, u206, u207, u208, u209, u210, u211, u212, u213, u214, u215, u216, u217, u218, u219, u220, u221, u222, u223, u224, u225, u226, u227, u228, u229, u230, u231, u232, u233, u234, u235, u236, u237, u238, u239, u240, u241, u242, u243, u244, u245, u246, u247, u248, u249, u250, u251, u252, u253, u254, u255, u256, u257, u258, u259, u260, u261, u262, u263, u264, u265, u266, u267, u268, u269, u270, u271, u272, u273, u274, u275, u276, u277, u278, u279, u280, u281, u282, u283, u284, u285, u286, u287, u288, u289, u290, u291, u292, u293, u294, u295, u296, u297, u298, u299, u300, u301, u302, u303, u304, u305, u306, u307, u308, u309, u310, u311, u312, u313, u314, u315, u316, u317, u318, u319, u320, u321, u322, u323, u324, u325, u326, u327, u328, u329, u330, u331, u332, u333, u334, u335, u336, u337, u338, u339, u340, u341, u342, u343, u344, u345, u346, u347, u348, u349, u350, u351, u352, u353, u354, u355, u356, u357], []⟩ W2 := by
  conv => arg 2; whnf
  dsimp only
  have hm12 := hS.m12
  have hn36 := hS.n36
  obtain ⟨c1, f1⟩ := hM.cameAt (i := i) (by rw [csOf_len]; exact hi)
  obtain ⟨t0, t1, t2, t3, t4, t5, tf⟩ := tel_row hT
  have i1 : (i : Int) < (m : Int) := by omega
  have hM3 := hM.setCame hA i true
  rw [csOf_set] at hM3
  have hT3 := blk_set_other (p := ⟨p.gc, i, none⟩) hT (by show p.gc ≠ T; omega) (.bool true)
  have hB3 := hB.setCell (p := ⟨p.gc, i, none⟩) hA.1 (.bool true)
  have HQ := Lib.hid hQ
  have HS := Lib.hid hS
  have HA := Lib.hid hA
  have HX := Lib.hid (show lev[3 * i]?.getD 0 = x ∧ lev[3 * i + 1]?.getD 0 = y ∧ lev[3 * i + 2]?.getD 0 = z from ⟨hx, hy, hz⟩)
  have HCP := Lib.hid hcp
  have HM3 := Lib.hid hM3
  have HT3 := Lib.hid hT3
  have HB3 := Lib.hid hB3
  clear hQ hS hA hx hy hz hcp hM hT hB hM3 hT3 hB3
  go_upto_region 37 with fail
  obtain ⟨W3, hW3⟩ : ∃ W3, W2.setCell ⟨p.gc, i, none⟩ (.bool true) = W3 := ⟨_, rfl⟩
  rw [hW3] at HM3 HT3 HB3
  rw [hW3]
  clear hW3 c1 f1 t0 t1 t2 t3 t4 t5 tf
  obtain ⟨t0, t1, t2, t3, t4, t5, tf⟩ := tel_row HT3.out
  go_upto_if 206 with fail
  go_cut [20] from 201 to 245 (fun s20 wx => s20 = .int .i64 (headOf (C ++ [(i : Int)])) ∧ wx = W3)
  case first =>
    by_cases hn : headOf C < 0
    · have hh := Lib.hid (show headOf (C ++ [(i : Int)]) = (i : Int) by rw [headOf_snoc, if_pos ((headOf_neg HCP.out).1.1 hn)])
      go_wp2_with fail
      go_meet
      exact ⟨by rw [hh.out], rfl⟩
    · have hh := Lib.hid (show headOf (C ++ [(i : Int)]) = headOf C by rw [headOf_snoc, if_neg (fun h => hn ((headOf_neg HCP.out).1.2 h))])
      go_wp2_with fail
      go_meet
      exact ⟨by rw [hh.out], rfl⟩
  case rest =>
    obtain ⟨rfl, rfl⟩ := hcut
    go_wp2_with fail
    have HC := Lib.hid (show Made p W H n m L (csOf m (C ++ [(i : Int)])) (avAt n lev C i 0) (rsAt n xs C i 0) wc by rw [← avAt_0, ← rsAt_0]; exact HM3.out)
    clear HM3 t0 t1 t2 t3 t4 t5 tf
    go_loopw [221] (fun r wr => ∃ k : Nat, k ≤ 3 ∧ r = .int .i64 k ∧ Made p W H n m L (csOf m (C ++ [(i : Int)])) (avAt n lev C i k) (rsAt n xs C i k) wr ∧ Below p.N wz wr ∧ wr.heap[T]? = some (.cells #[.int .i64 7, .int .i64 i, .int .i64 1, .int .i64 x, .int .i64 y, .int .i64 z] 35 (0, 0)))
      (fun r _ => 3 - (intOf r).toNat)
    case atStart => exact ⟨0, by omega, rfl, HC.out, HB3.out, HT3.out⟩
    case round =>
      obtain ⟨k, hk, rfl, hM4, hB4, hT4⟩ := hrel
      by_cases hk3 : k < 3
      · obtain ⟨v, hv⟩ : ∃ v : Int, lev[3 * i + k]?.getD 0 = v := ⟨_, rfl⟩
        have hvb := HS.out.levb (3 * i + k)
        rw [hv] at hvb
        have hidx : ∀ w, (Instr.index 46 (.agg #[.int .i64 x, .int .i64 y, .int .i64 z]) (.int .i64 (k : Int))).run Try.prog w = .ok (.int .i64 v) w := by
          have h3 : k = 0 ∨ k = 1 ∨ k = 2 := by omega
          rcases h3 with rfl | rfl | rfl
          · obtain rfl : x = v := HX.out.1.symm.trans hv
            exact fun _ => by kernel_rfl
          · obtain rfl : y = v := HX.out.2.1.symm.trans hv
            exact fun _ => by kernel_rfl
          · obtain rfl : z = v := HX.out.2.2.symm.trans hv
            exact fun _ => by kernel_rfl
        obtain ⟨t0, t1, t2, t3, t4, t5, tf⟩ := tel_row hT4
        have bb := (HS.out.keptN hB4 hgN hwN).b2
        have l1 : (k : Int) < 3 := by omega
        have l2 : IntKind.i64.wrap (3 * (i : Int)) = 3 * (i : Int) := IntWalk.i64_in _ ⟨by omega, by omega⟩
        have l3 : IntKind.i64.wrap (3 * (i : Int) + (k : Int)) = 3 * (i : Int) + (k : Int) := IntWalk.i64_in _ ⟨by omega, by omega⟩
        have l4 : IntKind.i64.wrap ((k : Int) + 1) = (k : Int) + 1 := IntWalk.i64_in _ ⟨by omega, by omega⟩
        have HV := Lib.hid hv
        clear hv
        by_cases hn3 : 3 * i + k < n
        · have l5 : 3 * (i : Int) + (k : Int) < (n : Int) := by omega
          have l6 : (3 * (i : Int) + (k : Int)).toNat = 3 * i + k := by omega
          have l7 : (0 : Int) ≤ 3 * (i : Int) + (k : Int) := by omega
          have z18 : wr.cell? ⟨p.B18, 2, none⟩ = some (.slice (some ⟨p.gA, 0, none⟩) n n) := by rw [cell_of_row wr _ 2 _ _ (0, 0) hM4.b18]; rfl
          have z19 : wr.cell? ⟨p.B19, 2, none⟩ = some (.slice (some ⟨p.gR, 0, none⟩) n p.cR) := by rw [cell_of_row wr _ 2 _ _ (0, 0) hM4.b19]; rfl
          obtain ⟨a1, a2⟩ := hM4.againAt (i := 3 * i + k) (by rw [avAt_len]; exact hn3)
          obtain ⟨r1, r2⟩ := hM4.restAt (i := 3 * i + k) (by rw [rsAt_len]; exact hn3)
          obtain ⟨q1, q2, q3, q4, q5, q6, q7, q8, q9, q10, q11, q12, q13, q14, q15, _⟩ := HA.out
          have q10' := q10.symm
          have q12' := q12.symm
          have q14' := q14.symm
          have q15' := q15.symm
          have q13' := q13.symm
          have HM4 := Lib.hid hM4
          have HB4 := Lib.hid hB4
          have HT4 := Lib.hid hT4
          have HLV := Lib.hid hvb
          clear hM4 hB4 hT4 hvb q1 q2 q3 q4 q5 q6 q7 q8 q9 q11
          have rsf := fun (w : World) (a : Addr) (m : Mode) (k : FloatKind) (x : Nat) => store_float Try.prog w a m k x
          go_upto_region 45 with fail
          go_region_held3 (fun w' => w'.cell? ⟨p.B18, 2, none⟩ = some (.slice (some ⟨p.gA, 0, none⟩) n n) ∧ w'.cell? ⟨p.B19, 2, none⟩ = some (.slice (some ⟨p.gR, 0, none⟩) n p.cR))
            (go_keep)
            ((go_at_call 10; refine (refSample_any _ (by have := HLV.out; omega) _).mono ?_; rintro e w' ⟨rfl, rfl⟩))
          all_goals
            go_wp2_with fail
            go_roundw
            case rel =>
              refine ⟨k + 1, by omega, by go_num, ?_, ?_, ?_⟩
              · rw [← avAt_set n lev C i k hk3, ← rsAt_set n xs C i k hk3, HV.out]
                first
                  | exact ((HM4.out.setAgain HA.out _ _).setRest HA.out _ _).below (Below.drew (Below.refl _ _))
                  | exact ((HM4.out.setRest HA.out _ _).setAgain HA.out _ _).below (Below.drew (Below.refl _ _))
              · exact ((HB4.out.setCell (by first | exact HA.out.2.2.1 | exact HA.out.2.2.2.2.1) _).setCell (by first | exact HA.out.2.2.1 | exact HA.out.2.2.2.2.1) _).drew
              · exact blk_drew (blk_set_other (blk_set_other HT4.out (by first | (show p.gA ≠ T; omega) | (show p.gR ≠ T; omega)) _) (by first | (show p.gA ≠ T; omega) | (show p.gR ≠ T; omega)) _)
            case measure => simp [intOf]; omega
        · have l5 : ¬ (3 * (i : Int) + (k : Int) < (n : Int)) := by omega
          have l6 : (n : Int) ≤ 3 * (i : Int) + (k : Int) := by omega
          have HM4 := Lib.hid hM4
          have HB4 := Lib.hid hB4
          have HT4 := Lib.hid hT4
          clear hM4 hB4 hT4
          go_wp2_with fail
          go_roundw
          case rel =>
            refine ⟨k + 1, by omega, by go_num, ?_, HB4.out, HT4.out⟩
            rw [avAt_over n lev C i k (by omega), rsAt_over n xs C i k (by omega)]
            exact HM4.out
          case measure => simp [intOf]; omega
      · obtain rfl : k = 3 := by omega
        rw [avAt_3, rsAt_3] at hM4
        go_wp2_with fail
        exact HQ.out _ _ _ _ _ _ _ _ _ _ _ _ _ _ _ _ _ _ _ _ _ _ _ _ _ _ _ _ _ _ _ _ _ _ _ _ _ _ _ _ _ _ _ _ _ _ _ _ _ hM4 hB4
end Go.Proofs.Ytnlbgikhkpalcaa
