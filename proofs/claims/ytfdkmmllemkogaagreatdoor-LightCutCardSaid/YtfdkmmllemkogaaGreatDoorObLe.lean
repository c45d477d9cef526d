/-
  The walk of LightCut: its round, from the checks of a part on: each sample of the part is that of the map.
-/
import Derived.Test.YtfdkmmllemkogaaGreatDoorObLd
namespace Go.Proofs.YtfdkmmllemkogaaGreatDoor
open Go.RowKit Go.Shelf
set_option linter.unusedVariables false
set_option linter.unusedSimpArgs false

theorem smp_same {x y : Nat} {k : Int} (hx : Smp x k) (hy : Smp y k) : FloatKind.f32.format.order x y = some .eq := by
  show Ieee.single.order x y = some .eq
  rw [hx.order hy, compare_self]

set_option maxRecDepth 1000000 in
set_option maxHeartbeats 25600000 in
theorem cut14 (w : World) (W H b o n c : Nat) (ks : List Int) (n0 n1 : Int) (C0 DW R0 DH N cp : Nat) (c1 r1 : Int) (P S S' : List Int) (tt tt' pk pk' : Int) (B5 B6 B10 B12 B13 g6 gp : Nat) (oc : Obj) (wr : World)
    (hN : DH * DW = N) (hn : H * W = n) (hX : C0 + DW ≤ W) (hY : R0 + DH ≤ H) (hW : W ≤ 64) (hH : H ≤ 64) (hS : S' = addK n S (placeK DW DH C0 R0 W n P)) (hSs : ∀ j, j < n → (S'[j]?.getD 0).natAbs ≤ 16384) (ht : IntKind.i64.wrap (tt + P.sum) = tt') (hpk : pk.natAbs ≤ 16384) (hp : pk' = max pk (P[pkTo P N]?.getD 0)) (hPs : (P[pkTo P N]?.getD 0).natAbs ≤ 16384)
    (h56 : B5 ≠ B6) (h6 : w.heap.size < B6)
    (hR : RM w W H n ks b o) (hP : P = pieceK W C0 DW R0 DH ks) (hD : 1 ≤ DW ∧ 1 ≤ DH) (hcw : IntKind.i64.wrap (c1 - (C0 : Int)) = (DW : Int)) (hrw : IntKind.i64.wrap (r1 - (R0 : Int)) = (DH : Int)) (hcb : ((C0 : Int) == c1) = false) (hrb : ((R0 : Int) == r1) = false) (Q : Exit → Act → World → Prop) (u4 u9 u11 u15 u16 u17 u18 u19 u20 u21 u22 u23 u24 u25 u26 u27 u28 u29 u30 u31 u32 u33 u34 u35 u36 u37 u38 u39 u40 u41 u42 u43 u44 u45 u46 u47 u48 u49 u50 u51 u52 u53 u54 u55 u56 u57 u58 u59 u60 u61 u62 u63 u64 u65 u66 u67 u68 u69 u70 u71 u72 u73 u74 u75 u76 u77 u78 u79 u80 u81 u82 u83 u84 u85 u86 u87 u88 u89 u90 u91 u92 u93 u94 u95 u96 u97 u98 u99 u100 u101 u102 u103 u104 u105 u106 u107 u108 u109 u110 u111 u112 u113 u114 u115 u116 u117 u118 u119 u120 u121 u122 u123 u124 u125 u126 u127 u128 u129 u130 u131 u132 u133 u134 u135 u136 u137 u138 u139 u140 u141 u142 u143 u144 u145 u146 u147 u148 u149 u150 u151 u152 u153 u154 u155 u156 u157 u158 u159 u160 u161 u162 u163 u164 u165 u166 u167 u168 u169 u170 u171 u172 u173 u174 u175 u176 u177 u178 u179 u180 u181 u182 u183 u184 u185 u186 u187 u188 u189 u190 u191 u192 u193 u194 u195 u196 u197 u198 u199 u200 u201 u202 u203 u204 u205 u206 u207 u208 u209 u210 u211 u212 u213 u214 u215 u216 u217 u218 u219 u220 u221 u222 u223 u224 u225 u226 u227 u228 u229 u230 u231 u232 u233 u234 u235 u236 u237 u238 u239 u240 u241 u242 u243 u244 u245 u246 u247 u248 u249 u250 u251 u252 u253 u254 u255 u256 u257 u258 u259 u260 u261 u262 u263 u264 u265 u266 u267 u268 u269 u270 u271 u272 u273 u274 u275 u276 u277 u278 u279 u280 u281 u282 u283 u284 u285 u286 u287 u288 u289 u290 u291 u292 u293 u294 u295 u296 u297 u298 u299 u300 u301 u302 u303 u304 u305 u306 u307 u308 : Value)
    (hKp : Kp w wr [(B13, (.cells #[.int .i64 (DW : Nat), .int .i64 (DH : Nat), .slice (some ⟨gp, 0, none⟩) N cp] 54 (0, 0))), (B12, (.cells #[.int .i64 (R0 : Nat), .int .i64 r1] 70 (0, 0))), (B10, (.cells #[.int .i64 (C0 : Nat), .int .i64 c1] 70 (0, 0))), (B6, (.cells #[.int .i64 W, .int .i64 H, .slice (some ⟨g6, 0, none⟩) n n] 54 (0, 0))), (B5, oc), (w.heap.size, (.cells #[.int .i64 W, .int .i64 H, .slice (some ⟨b, o, none⟩) n c] 48 (0, 0)))]) (hRP : RM wr DW DH N P gp 0) (hRS : RM wr W H n S g6 0)
    (hQ : ∀ (w' : World) (g6' : Nat) (v4 v12 v13 v14 v15 v16 v17 v18 v19 v20 v21 v22 v23 v24 v25 v26 v27 v83 v84 v85 v86 v87 v88 v89 v90 v91 v92 v93 v94 v95 v96 v97 v98 v99 v100 v101 v102 v103 v104 v105 v106 v107 v108 v109 v110 v111 v112 v113 v114 v115 v116 v117 v118 v119 v120 v121 v122 v123 v124 v125 v126 v127 v128 v129 v130 v131 v132 v133 v134 v135 v136 v137 v138 v139 v140 v141 v142 v143 v144 v145 v146 v147 v148 v149 v150 v151 v152 v153 v154 v155 v156 v157 v158 v159 v160 v161 v162 v163 v164 v165 v166 v167 v168 v169 v170 v171 v172 v173 v174 v175 v176 v177 v178 v179 v180 v181 v182 v183 v184 v185 v186 v187 v188 v189 v190 v191 v192 v193 v194 v195 v196 v197 v198 v199 v200 v201 v202 v203 v204 v205 v206 v207 v208 v209 v210 v211 v212 v213 v214 v215 v216 v217 v218 v219 v220 v221 v222 v223 v224 v225 v226 v227 v228 v229 v230 v231 : Value), Kp w w' [(B6, (.cells #[.int .i64 W, .int .i64 H, .slice (some ⟨g6', 0, none⟩) n n] 54 (0, 0))), (B10, (.cells #[.int .i64 (C0 : Nat), .int .i64 c1] 70 (0, 0))), (B5, oc), (w.heap.size, (.cells #[.int .i64 W, .int .i64 H, .slice (some ⟨b, o, none⟩) n c] 48 (0, 0)))] → RM w' W H n S' g6' 0 → Q .normal ⟨#[.agg #[.int .i64 (W : Nat), .int .i64 (H : Nat), .slice (some ⟨b, o, none⟩) n c], .agg #[.int .u8 n0, .int .u8 n1], .pointer (some ⟨w.heap.size, 0, none⟩), .pointer (some ⟨w.heap.size + 1, 0, none⟩), v4, .pointer (some ⟨B5, 0, none⟩), .pointer (some ⟨B6, 0, none⟩), .int .i64 tt', .float .f32 (smpOf pk'), u9, .pointer (some ⟨B10, 0, none⟩), u11, v12, v13, v14, v15, v16, v17, v18, v19, v20, v21, v22, v23, v24, v25, v26, v27, u28, u29, u30, u31, u32, u33, u34, u35, u36, u37, u38, u39, u40, u41, u42, u43, u44, u45, u46, u47, u48, u49, u50, u51, u52, u53, u54, u55, u56, u57, u58, u59, u60, u61, u62, u63, u64, u65, u66, u67, u68, u69, u70, u71, u72, u73, u74, u75, u76, u77, u78, u79, u80, u81, u82, v83, v84, v85, v86, v87, v88, v89, v90, v91, v92, v93, v94, v95, v96, v97, v98, v99, v100, v101, v102, v103, v104, v105, v106, v107, v108, v109, v110, v111, v112, v113, v114, v115, v116, v117, v118, v119, v120, v121, v122, v123, v124, v125, v126, v127, v128, v129, v130, v131, v132, v133, v134, v135, v136, v137, v138, v139, v140, v141, v142, v143, v144, v145, v146, v147, v148, v149, v150, v151, v152, v153, v154, v155, v156, v157, v158, v159, v160, v161, v162, v163, v164, v165, v166, v167, v168, v169, v170, v171, v172, v173, v174, v175, v176, v177, v178, v179, v180, v181, v182, v183, v184, v185, v186, v187, v188, v189, v190, v191, v192, v193, v194, v195, v196, v197, v198, v199, v200, v201, v202, v203, v204, v205, v206, v207, v208, v209, v210, v211, v212, v213, v214, v215, v216, v217, v218, v219, v220, v221, v222, v223, v224, v225, v226, v227, v228, v229, v230, v231, u232, u233, u234, u235, u236, u237, u238, u239, u240, u241, u242, u243, u244, u245, u246, u247, u248, u249, u250, u251, u252, u253, u254, u255, u256, u257, u258, u259, u260, u261, u262, u263, u264, u265, u266, u267, u268, u269, u270, u271, u272, u273, u274, u275, u276, u277, u278, u279, u280, u281, u282, u283, u284, u285, u286, u287, u288, u289, u290, u291, u292, u293, u294, u295, u296, u297, u298, u299, u300, u301, u302, u303, u304, u305, u306, u307, u308], []⟩ w') :
    Code.wp Tryz.prog (cutOf 14) Q ⟨#[.agg #[.int .i64 (W : Nat), .int .i64 (H : Nat), .slice (some ⟨b, o, none⟩) n c], .agg #[.int .u8 n0, .int .u8 n1], .pointer (some ⟨w.heap.size, 0, none⟩), .pointer (some ⟨w.heap.size + 1, 0, none⟩), u4, .pointer (some ⟨B5, 0, none⟩), .pointer (some ⟨B6, 0, none⟩), .int .i64 tt, .float .f32 (smpOf pk), u9, .pointer (some ⟨B10, 0, none⟩), u11, .pointer (some ⟨B12, 0, none⟩), .pointer (some ⟨B13, 0, none⟩), .int .i64 0, u15, u16, u17, u18, u19, u20, u21, u22, u23, u24, u25, u26, u27, u28, u29, u30, u31, u32, u33, u34, u35, u36, u37, u38, u39, u40, u41, u42, u43, u44, u45, u46, u47, u48, u49, u50, u51, u52, u53, u54, u55, u56, u57, u58, u59, u60, u61, u62, u63, u64, u65, u66, u67, u68, u69, u70, u71, u72, u73, u74, u75, u76, u77, u78, u79, u80, u81, u82, u83, u84, u85, u86, u87, u88, u89, u90, u91, u92, u93, u94, u95, u96, u97, u98, u99, u100, u101, u102, u103, u104, u105, u106, u107, u108, u109, u110, u111, u112, u113, u114, u115, u116, u117, u118, u119, u120, u121, u122, u123, u124, u125, u126, u127, u128, u129, u130, u131, u132, u133, u134, u135, u136, u137, u138, u139, u140, u141, u142, u143, u144, u145, u146, u147, u148, u149, u150, u151, u152, u153, u154, u155, u156, u157, u158, u159, u160, u161, u162, u163, u164, u165, u166, u167, u168, u169, u170, u171, u172, u173, u174, u175, u176, u177, u178, u179, u180, u181, u182, u183, u184, u185, u186, u187, u188, u189, u190, u191, u192, u193, u194, u195, u196, u197, u198, u199, u200, u201, u202, u203, u204, u205, u206, u207, u208, u209, u210, u211, u212, u213, u214, u215, u216, u217, u218, u219, u220, u221, u222, u223, u224, u225, u226, u227, u228, u229, u230, u231, u232, u233, u234, u235, u236, u237, u238, u239, u240, u241, u242, u243, u244, u245, u246, u247, u248, u249, u250, u251, u252, u253, u254, u255, u256, u257, u258, u259, u260, u261, u262, u263, u264, u265, u266, u267, u268, u269, u270, u271, u272, u273, u274, u275, u276, u277, u278, u279, u280, u281, u282, u283, u284, u285, u286, u287, u288, u289, u290, u291, u292, u293, u294, u295, u296, u297, u298, u299, u300, u301, u302, u303, u304, u305, u306, u307, u308], []⟩ wr := by
  conv => arg 2; whnf
  dsimp only
  have HQ := Lib.hid hQ
  have HK := Lib.hid hKp
  have HP := Lib.hid hRP
  have HS := Lib.hid hRS
  obtain ⟨hb0, xs, hr⟩ := hR
  have HR := Lib.hid hr
  have HB0 := Lib.hid hb0
  have HPE := Lib.hid hP
  have HREST := Lib.hid (And.intro hN (And.intro hn (And.intro hX (And.intro hY (And.intro hW (And.intro hH (And.intro hS (And.intro hSs (And.intro ht (And.intro hpk (And.intro hp (And.intro hPs (And.intro h56 h6)))))))))))))
  have HX := Lib.hid hX
  have HY := Lib.hid hY
  have HN := Lib.hid hn
  have HNN := Lib.hid hN
  have HWH := Lib.hid (And.intro hW hH)
  have HSM := Lib.hid hr.small
  have HDD := Lib.hid hD
  clear hQ hKp hRP hRS hr hb0 hP hN hn hX hY hW hH hS hSs ht hpk hp hPs h56 h6 hD
  obtain ⟨x0, x1, x2⟩ := cells3 (HK.out.2 _ (.head _))
  obtain ⟨p0, p1⟩ := cells2 (HK.out.2 _ (.tail _ (.head _)))
  obtain ⟨q0, q1⟩ := cells2 (HK.out.2 _ (.tail _ (.tail _ (.head _))))
  go_upto_region 19 with (first
    | (go_at_call 97; with_reducible refine (told_any _ _ _ _ _ _).mono ?_; rintro e w1 ⟨rfl, hb⟩;
       have K1 := Lib.hid (HK.out.call hb); have P1 := Lib.hid (HP.out.kept hb); have S1 := Lib.hid (HS.out.kept hb); clear hb)
    | (go_at_call 41; (refine Calls.mono (rm_check P1.out cp) ?_); rintro e w2 ⟨rfl, hb⟩;
       have K2 := Lib.hid (K1.out.call hb); have P2 := Lib.hid (P1.out.kept hb); have S2 := Lib.hid (S1.out.kept hb); clear hb;
       obtain ⟨v0, v1, v2⟩ := cells3 (K2.out.2 _ (.head _)); obtain ⟨y0, y1⟩ := cells2 (K2.out.2 _ (.tail _ (.head _))); obtain ⟨z0, z1⟩ := cells2 (K2.out.2 _ (.tail _ (.tail _ (.head _))))))
  clear x0 x1 x2 p0 p1 q0 q1 HK HP HS K1 P1 S1
  have hd64 : (DW : Int) ≤ 64 := by
    have := HX.out
    have := HWH.out
    omega
  have he64 : (DH : Int) ≤ 64 := by
    have := HY.out
    have := HWH.out
    omega
  go_upto_block 4 with fail
  go_cut [4, 15, 16, 17, 18] from 137 to 178 (fun s4 s15 s16 s17 s18 wc => Below w2.heap.size w2 wc)
  case first =>
    go_wp2_with fail
    clear v0 v1 v2 y0 y1 z0 z1
    go_loopw [137] (fun iv wy => ∃ k : Nat, k ≤ DH ∧ iv = .int .i64 k ∧ Below w2.heap.size w2 wy) (fun iv _ => DH - (intOf iv).toNat)
    case atStart => exact ⟨0, Nat.zero_le _, rfl, Below.refl _ _⟩
    case round =>
      obtain ⟨k, hk, rfl, hbY⟩ := hrel
      have HBY := Lib.hid hbY
      have KY := Lib.hid (K2.out.call hbY)
      have PY := Lib.hid (P2.out.kept hbY)
      clear hbY
      by_cases hlt : k < DH
      · have hltI : (k : Int) < (DH : Int) := by omega
        obtain ⟨x0, x1, x2⟩ := cells3 (KY.out.2 _ (.head _))
        go_wp2_with fail
        go_loopw [142] (fun jv wz => ∃ j : Nat, j ≤ DW ∧ jv = .int .i64 j ∧ Below w2.heap.size w2 wz) (fun jv _ => DW - (intOf jv).toNat)
        case atStart => exact ⟨0, Nat.zero_le _, rfl, HBY.out⟩
        case round =>
          obtain ⟨j, hj, rfl, hbZ⟩ := hrel
          have HBZ := Lib.hid hbZ
          have KZ := Lib.hid (K2.out.call hbZ)
          have PZ := Lib.hid (P2.out.kept hbZ)
          clear hbZ x0 x1 x2
          by_cases hlt2 : j < DW
          · have hlt2I : (j : Int) < (DW : Int) := by omega
            obtain ⟨x0, x1, x2⟩ := cells3 (KZ.out.2 _ (.head _))
            have hx := HX.out
            have hy := HY.out
            have hwh := HWH.out
            have hsm := HSM.out
            obtain ⟨q, hq⟩ : ∃ q, (R0 + k) * W = q := ⟨_, rfl⟩
            obtain ⟨ix, hix⟩ : ∃ ix, q + C0 + j = ix := ⟨_, rfl⟩
            have hixn : ix < n := by
              rw [← hix, ← hq, ← HN.out, Nat.add_assoc]
              exact place_in (by omega) (by omega)
            have hpe : P[k * DW + j]?.getD 0 = ks[ix]?.getD 0 := by
              rw [HPE.out, pieceK_at ks hlt2 hlt, ← hix, ← hq, Nat.add_assoc]
            obtain ⟨pv, hpv⟩ : ∃ pv, P[k * DW + j]?.getD 0 = pv := ⟨_, rfl⟩
            have HPV := Lib.hid hpv
            have hpvs : pv.natAbs ≤ 16384 := by rw [← hpv, hpe]; exact HR.out.sizes ix hixn
            obtain ⟨xv, hxv⟩ : ∃ xv, xs[ix]?.getD 0 = xv := ⟨_, rfl⟩
            have ho : FloatKind.f32.format.order (smpOf pv) xv = some .eq := by
              have h1 := HR.out.smps ix hixn
              rw [← hpe, hpv, hxv] at h1
              exact smp_same (smpOf_smp pv (Nat.lt_of_le_of_lt hpvs (by decide))) h1
            have f2 : IntKind.i64.wrap (((R0 : Int) + (k : Int)) * (W : Int)) = (q : Int) := by
              have e : ((R0 : Int) + (k : Int)) * (W : Int) = (((R0 + k) * W : Nat) : Int) := by push_cast; rfl
              rw [e, hq]
              exact IntWalk.i64_in _ ⟨by omega, by omega⟩
            have f3 : IntKind.i64.wrap ((q : Int) + (C0 : Int)) = (q : Int) + (C0 : Int) := IntWalk.i64_in _ ⟨by omega, by omega⟩
            have f4 : IntKind.i64.wrap ((q : Int) + (C0 : Int) + (j : Int)) = (ix : Int) := by
              rw [show (q : Int) + (C0 : Int) + (j : Int) = (ix : Int) by omega]
              exact IntWalk.i64_in _ ⟨by omega, by omega⟩
            have f1 : IntKind.i64.wrap ((R0 : Int) + (k : Int)) = (R0 : Int) + (k : Int) := IntWalk.i64_in _ ⟨by omega, by omega⟩
            have hixI : (ix : Int) < (n : Int) := by omega
            have CELL : Hid (∀ wq : World, Below w.heap.size w wq → wq.cell? ⟨b, o + ix, none⟩ = some (.float .f32 xv)) := Lib.hid fun wq h => by
              rw [← hxv]
              exact (h.cell (p := ⟨b, o + ix, none⟩) HB0.out).trans (HR.out.cells ix hixn)
            have HLT := Lib.hid (And.intro hlt hlt2)
            clear hx hy hwh hsm hq hix hpe hpv hpvs hxv
            go_wp2_with (first
              | (go_at_call 97; with_reducible refine (told_any _ _ _ _ _ _).mono ?_; rintro e w3 ⟨rfl, hb⟩;
                 have HB3 := Lib.hid (HBZ.out.trans (hb.mono HBZ.out.size)); have K3 := Lib.hid (KZ.out.call hb); have P3 := Lib.hid (PZ.out.kept hb); clear hb)
              | (go_at_call 38; (refine Calls.mono (rm_own P3.out cp) ?_); rintro e w4 ⟨g4, c4, rfl, hm, hb⟩;
                 have HB4 := Lib.hid (HB3.out.trans (hb.mono HB3.out.size)); have K4 := Lib.hid (K3.out.call hb); have M4 := Lib.hid hm; clear hb hm)
              | (go_at_call 37; (refine Calls.mono (rm_at M4.out c4 HLT.out.2 HLT.out.1) ?_); rw [HPV.out]; rintro e w5 ⟨rfl, hb⟩;
                 have HB5 := Lib.hid (HB4.out.trans (hb.mono HB4.out.size)); have K5 := Lib.hid (K4.out.call hb); clear hb;
                 obtain ⟨m0, m1, m2⟩ := cells3 (K5.out.2 _ (.tail _ (.tail _ (.tail _ (.tail _ (.tail _ (.head _))))))); obtain ⟨y0, y1⟩ := cells2 (K5.out.2 _ (.tail _ (.head _))); obtain ⟨z0, z1⟩ := cells2 (K5.out.2 _ (.tail _ (.tail _ (.head _)))); have sc := CELL.out _ K5.out.1))
            go_roundw
            case rel => exact ⟨j + 1, by omega, by go_num, HB5.out⟩
            case measure => simp [intOf]; omega
          · obtain rfl : j = DW := by omega
            go_wp2_with fail
            go_roundw
            case rel => exact ⟨k + 1, by omega, by go_num, HBZ.out⟩
            case measure => simp [intOf]; omega
      · obtain rfl : k = DH := by omega
        go_wp2_with fail
        go_meet
        exact HBY.out
  case rest =>
    rename_i hK
    refine hK _ _ ?_
    clear hK
    obtain ⟨hN, hn, hX, hY, hW, hH, hS, hSs, ht, hpk, hp, hPs, h56, h6⟩ := HREST.out
    exact cut30 w W H b o n c n0 n1 C0 DW R0 DH N cp c1 r1 P S S' tt tt' pk pk' B5 B6 B10 B12 B13 g6 gp oc _ hN hn hX hY hW hH hS hSs ht hpk hp hPs h56 h6 _ _ _ _ _ _ _ _ _ _ _ _ _ _ _ _ _ _ _ _ _ _ _ _ _ _ _ _ _ _ _ _ _ _ _ _ _ _ _ _ _ _ _ _ _ _ _ _ _ _ _ _ _ _ _ _ _ _ _ _ _ _ _ _ _ _ _ _ _ _ _ _ _ _ _ _ _ _ _ _ _ _ _ _ _ _ _ _ _ _ _ _ _ _ _ _ _ _ _ _ _ _ _ _ _ _ _ _ _ _ _ _ _ _ _ _ _ _ _ _ _ _ _ _ _ _ _ _ _ _ _ _ _ _ _ _ _ _ _ _ _ _ _ _ _ _ _ _ _ _ _ _ _ _ _ _ _ _ _ _ _ _ _ _ _ _ _ _ _ _ _ _ _ _ _ _ _ _ _ _ _ _ _ _ _ _ _ _ _ _ _ _ _ _ _ _ _ _ _ _ _ _ _ _ _ _ _ _ _ _ _ _ _ _ _ _ _ _ _ _ _ _ _ _ _ _ _ _ _ _ _ _ _ _ _ _ _ _ _ _ _ _ _ _ _ _ _ _ _ _ _ _ _ _ _ _ _ _ _ _ _ _ _ _ _ _ _ _ _ _ _ _ _ _ _ _ _ _ _ _ _ _ _ _ _ _ _ _ _ _ _ _ _ _ _ _ _ _ (K2.out.call hcut) (P2.out.kept hcut) (S2.out.kept hcut) HQ.out
end Go.Proofs.YtfdkmmllemkogaaGreatDoor
