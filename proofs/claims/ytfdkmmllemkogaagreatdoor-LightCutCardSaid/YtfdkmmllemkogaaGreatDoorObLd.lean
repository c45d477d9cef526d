/-
  The walk of LightCut: its round, from the sums of a part on.
-/
import Derived.Deep.CutBlock
import Derived.Deep.DeepCutAuto
import Derived.Test.YtfdkmmllemkogaaGreatDoorObDb
import Derived.Test.YtfdkmmllemkogaaGreatDoorObKb
namespace Go.Proofs.YtfdkmmllemkogaaGreatDoor
open Go.RowKit Go.Shelf
set_option linter.unusedVariables false
set_option linter.unusedSimpArgs false

noncomputable def cutOf (n : Nat) : Code := ((Tryz.f13.body.bind (tailC n)).getD .skip)

theorem RM.others {w w' : World} {W H n g : Nat} {L : List Int} (h : RM w W H n L g 0) (hb : w'.heap[g]? = w.heap[g]?) (hz : w.heap.size ≤ w'.heap.size) : RM w' W H n L g 0 := by
  obtain ⟨h1, xs, h2⟩ := h
  exact ⟨Nat.lt_of_lt_of_le h1 hz, xs, ⟨⟨h2.len, h2.lenk, h2.small, fun j hj => (World.cell?_of_block hb).trans (h2.cells j hj), h2.words, h2.smps, h2.sizes⟩, h2.wid, h2.hei, h2.area⟩⟩
/-- A map's samples do not lie where a map's own cells do. -/
theorem RM.nes {w : World} {W H n g B : Nat} {L : List Int} {x : Int} {y z : Value} {T : TypeId} (h : RM w W H n L g 0) (hB : w.heap[B]? = some (.cells #[.int .i64 x, y, z] T (0, 0))) : g ≠ B := by
  rintro rfl
  obtain ⟨_, xs, h2⟩ := h
  have hn : 1 ≤ n := by
    have h3 := h2.wid
    have h4 := h2.hei
    have h5 := h2.area
    have := Int.mul_le_mul h3.1 h4.1 (by omega) (by omega)
    omega
  have h6 := h2.cells 0 (by omega)
  rw [cell_of_row w g (0 + 0) _ _ (0, 0) hB] at h6
  simp at h6
theorem max_smp (k l : Int) (hk : k.natAbs ≤ 16384) (hl : l.natAbs ≤ 16384) : ∀ (ts : Array TypeId) (t : TypeId) (w : World), (Builtin.max_ ts t #[.float .f32 (smpOf k), .float .f32 (smpOf l)]).run Tryz.prog w = .ok (.float .f32 (smpOf (max k l))) w := fun ts t w => by
  have h1 := smpOf_smp k (Nat.lt_of_le_of_lt hk (by decide))
  have h2 := smpOf_smp l (Nat.lt_of_le_of_lt hl (by decide))
  have ho : FloatKind.f32.format.order (smpOf k) (smpOf l) = some (compare k l) := h1.order h2
  rcases Int.lt_trichotomy k l with h | h | h
  · have e : compare k l = .lt := by
      show compareOfLessAndEq _ _ = _
      unfold compareOfLessAndEq; rw [if_pos h]
    have e2 : max k l = l := Int.max_eq_right (by omega)
    rw [e] at ho
    rw [e2]
    simp [Builtin.max_, Builtin.max2, ho]
  · subst h
    have e : compare k k = .eq := by
      show compareOfLessAndEq _ _ = _
      unfold compareOfLessAndEq; rw [if_neg (by omega), if_pos rfl]
    rw [e] at ho
    rw [Int.max_eq_right (Int.le_refl k)]
    simp [Builtin.max_, Builtin.max2, ho]
  · have e : compare k l = .gt := by
      show compareOfLessAndEq _ _ = _
      unfold compareOfLessAndEq; rw [if_neg (by omega), if_neg (by omega)]
    have e2 : max k l = k := Int.max_eq_left (by omega)
    rw [e] at ho
    rw [e2]
    simp [Builtin.max_, Builtin.max2, ho]

/-- A box that holds a right map. -/
theorem ResBox.rm {w : World} {B : Nat} {T : TypeId} {W H N : Nat} {L : List Int} (h : ResBox w B T 0 (W : Int) (H : Int) L) (hl : L.length = N) (hN : H * W = N) (hW : 1 ≤ W ∧ W ≤ 64) (hH : 1 ≤ H ∧ H ≤ 64) :
    ∃ g c, w.heap[B]? = some (.cells #[.int .i64 W, .int .i64 H, .slice (some ⟨g, 0, none⟩) N c] T (0, 0)) ∧ RM w W H N L g 0 := by
  obtain ⟨X, Y, a, m, c, h1, h2⟩ := h
  obtain ⟨rfl, rfl, h3, h4, h5, g, rfl, h7, h8⟩ := h2.ok rfl
  obtain rfl : m = N := by omega
  exact ⟨g, c, h1, RM.of_cells h3 h4 h5 hW hH hN h7 h8⟩

set_option maxRecDepth 1000000 in
set_option maxHeartbeats 25600000 in
theorem cut30 (w : World) (W H b o n c : Nat) (n0 n1 : Int) (C0 DW R0 DH N cp : Nat) (c1 r1 : Int) (P S S' : List Int) (tt tt' pk pk' : Int) (B5 B6 B10 B12 B13 g6 gp : Nat) (oc : Obj) (wr : World)
    (hN : DH * DW = N) (hn : H * W = n) (hX : C0 + DW ≤ W) (hY : R0 + DH ≤ H) (hW : W ≤ 64) (hH : H ≤ 64) (hS : S' = addK n S (placeK DW DH C0 R0 W n P)) (hSs : ∀ j, j < n → (S'[j]?.getD 0).natAbs ≤ 16384) (ht : IntKind.i64.wrap (tt + P.sum) = tt') (hpk : pk.natAbs ≤ 16384) (hp : pk' = max pk (P[pkTo P N]?.getD 0)) (hPs : (P[pkTo P N]?.getD 0).natAbs ≤ 16384)
    (h56 : B5 ≠ B6) (h6 : w.heap.size < B6) (Q : Exit → Act → World → Prop) (u4 u9 u11 u15 u16 u17 u18 u19 u20 u21 u22 u23 u24 u25 u26 u27 u28 u29 u30 u31 u32 u33 u34 u35 u36 u37 u38 u39 u40 u41 u42 u43 u44 u45 u46 u47 u48 u49 u50 u51 u52 u53 u54 u55 u56 u57 u58 u59 u60 u61 u62 u63 u64 u65 u66 u67 u68 u69 u70 u71 u72 u73 u74 u75 u76 u77 u78 u79 u80 u81 u82 u83 u84 u85 u86 u87 u88 u89 u90 u91 u92 u93 u94 u95 u96 u97 u98 u99 u100 u101 u102 u103 u104 u105 u106 u107 u108 u109 u110 u111 u112 u113 u114 u115 u116 u117 u118 u119 u120 u121 u122 u123 u124 u125 u126 u127 u128 u129 u130 u131 u132 u133 u134 u135 u136 u137 u138 u139 u140 u141 u142 u143 u144 u145 u146 u147 u148 u149 u150 u151 u152 u153 u154 u155 u156 u157 u158 u159 u160 u161 u162 u163 u164 u165 u166 u167 u168 u169 u170 u171 u172 u173 u174 u175 u176 u177 u178 u179 u180 u181 u182 u183 u184 u185 u186 u187 u188 u189 u190 u191 u192 u193 u194 u195 u196 u197 u198 u199 u200 u201 u202 u203 u204 u205 u206 u207 u208 u209 u210 u211 u212 u213 u214 u215 u216 u217 u218 u219 u220 u221 u222 u223 u224 u225 u226 u227 u228 u229 u230 u231 u232 u233 u234 u235 u236 u237 u238 u239 u240 u241 u242 u243 u244 u245 u246 u247 u248 u249 u250 u251 u252 u253 u254 u255 u256 u257 u258 u259 u260 u261 u262 u263 u264 u265 u266 u267 u268 u269 u270 u271 u272 u273 u274 u275 u276 u277 u278 u279 u280 u281 u282 u283 u284 u285 u286 u287 u288 u289 u290 u291 u292 u293 u294 u295 u296 u297 u298 u299 u300 u301 u302 u303 u304 u305 u306 u307 u308 : Value)
    (hKp : Kp w wr [(B13, (.cells #[.int .i64 (DW : Nat), .int .i64 (DH : Nat), .slice (some ⟨gp, 0, none⟩) N cp] 54 (0, 0))), (B12, (.cells #[.int .i64 (R0 : Nat), .int .i64 r1] 70 (0, 0))), (B10, (.cells #[.int .i64 (C0 : Nat), .int .i64 c1] 70 (0, 0))), (B6, (.cells #[.int .i64 W, .int .i64 H, .slice (some ⟨g6, 0, none⟩) n n] 54 (0, 0))), (B5, oc), (w.heap.size, (.cells #[.int .i64 W, .int .i64 H, .slice (some ⟨b, o, none⟩) n c] 48 (0, 0)))]) (hRP : RM wr DW DH N P gp 0) (hRS : RM wr W H n S g6 0)
    (hQ : ∀ (w' : World) (g6' : Nat) (v4 v12 v13 v14 v15 v16 v17 v18 v19 v20 v21 v22 v23 v24 v25 v26 v27 v83 v84 v85 v86 v87 v88 v89 v90 v91 v92 v93 v94 v95 v96 v97 v98 v99 v100 v101 v102 v103 v104 v105 v106 v107 v108 v109 v110 v111 v112 v113 v114 v115 v116 v117 v118 v119 v120 v121 v122 v123 v124 v125 v126 v127 v128 v129 v130 v131 v132 v133 v134 v135 v136 v137 v138 v139 v140 v141 v142 v143 v144 v145 v146 v147 v148 v149 v150 v151 v152 v153 v154 v155 v156 v157 v158 v159 v160 v161 v162 v163 v164 v165 v166 v167 v168 v169 v170 v171 v172 v173 v174 v175 v176 v177 v178 v179 v180 v181 v182 v183 v184 v185 v186 v187 v188 v189 v190 v191 v192 v193 v194 v195 v196 v197 v198 v199 v200 v201 v202 v203 v204 v205 v206 v207 v208 v209 v210 v211 v212 v213 v214 v215 v216 v217 v218 v219 v220 v221 v222 v223 v224 v225 v226 v227 v228 v229 v230 v231 : Value), Kp w w' [(B6, (.cells #[.int .i64 W, .int .i64 H, .slice (some ⟨g6', 0, none⟩) n n] 54 (0, 0))), (B10, (.cells #[.int .i64 (C0 : Nat), .int .i64 c1] 70 (0, 0))), (B5, oc), (w.heap.size, (.cells #[.int .i64 W, .int .i64 H, .slice (some ⟨b, o, none⟩) n c] 48 (0, 0)))] → RM w' W H n S' g6' 0 → Q .normal ⟨#[.agg #[.int .i64 (W : Nat), .int .i64 (H : Nat), .slice (some ⟨b, o, none⟩) n c], .agg #[.int .u8 n0, .int .u8 n1], .pointer (some ⟨w.heap.size, 0, none⟩), .pointer (some ⟨w.heap.size + 1, 0, none⟩), v4, .pointer (some ⟨B5, 0, none⟩), .pointer (some ⟨B6, 0, none⟩), .int .i64 tt', .float .f32 (smpOf pk'), u9, .pointer (some ⟨B10, 0, none⟩), u11, v12, v13, v14, v15, v16, v17, v18, v19, v20, v21, v22, v23, v24, v25, v26, v27, u28, u29, u30, u31, u32, u33, u34, u35, u36, u37, u38, u39, u40, u41, u42, u43, u44, u45, u46, u47, u48, u49, u50, u51, u52, u53, u54, u55, u56, u57, u58, u59, u60, u61, u62, u63, u64, u65, u66, u67, u68, u69, u70, u71, u72, u73, u74, u75, u76, u77, u78, u79, u80, u81, u82, v83, v84, v85, v86, v87, v88, v89, v90, v91, v92, v93, v94, v95, v96, v97, v98, v99, v100, v101, v102, v103, v104, v105, v106, v107, v108, v109, v110, v111, v112, v113, v114, v115, v116, v117, v118, v119, v120, v121, v122, v123, v124, v125, v126, v127, v128, v129, v130, v131, v132, v133, v134, v135, v136, v137, v138, v139, v140, v141, v142, v143, v144, v145, v146, v147, v148, v149, v150, v151, v152, v153, v154, v155, v156, v157, v158, v159, v160, v161, v162, v163, v164, v165, v166, v167, v168, v169, v170, v171, v172, v173, v174, v175, v176, v177, v178, v179, v180, v181, v182, v183, v184, v185, v186, v187, v188, v189, v190, v191, v192, v193, v194, v195, v196, v197, v198, v199, v200, v201, v202, v203, v204, v205, v206, v207, v208, v209, v210, v211, v212, v213, v214, v215, v216, v217, v218, v219, v220, v221, v222, v223, v224, v225, v226, v227, v228, v229, v230, v231, u232, u233, u234, u235, u236, u237, u238, u239, u240, u241, u242, u243, u244, u245, u246, u247, u248, u249, u250, u251, u252, u253, u254, u255, u256, u257, u258, u259, u260, u261, u262, u263, u264, u265, u266, u267, u268, u269, u270, u271, u272, u273, u274, u275, u276, u277, u278, u279, u280, u281, u282, u283, u284, u285, u286, u287, u288, u289, u290, u291, u292, u293, u294, u295, u296, u297, u298, u299, u300, u301, u302, u303, u304, u305, u306, u307, u308], []⟩ w') :
    Code.wp Tryz.prog (cutOf 30) Q ⟨#[.agg #[.int .i64 (W : Nat), .int .i64 (H : Nat), .slice (some ⟨b, o, none⟩) n c], .agg #[.int .u8 n0, .int .u8 n1], .pointer (some ⟨w.heap.size, 0, none⟩), .pointer (some ⟨w.heap.size + 1, 0, none⟩), u4, .pointer (some ⟨B5, 0, none⟩), .pointer (some ⟨B6, 0, none⟩), .int .i64 tt, .float .f32 (smpOf pk), u9, .pointer (some ⟨B10, 0, none⟩), u11, .pointer (some ⟨B12, 0, none⟩), .pointer (some ⟨B13, 0, none⟩), .int .i64 0, u15, u16, u17, u18, u19, u20, u21, u22, u23, u24, u25, u26, u27, u28, u29, u30, u31, u32, u33, u34, u35, u36, u37, u38, u39, u40, u41, u42, u43, u44, u45, u46, u47, u48, u49, u50, u51, u52, u53, u54, u55, u56, u57, u58, u59, u60, u61, u62, u63, u64, u65, u66, u67, u68, u69, u70, u71, u72, u73, u74, u75, u76, u77, u78, u79, u80, u81, u82, u83, u84, u85, u86, u87, u88, u89, u90, u91, u92, u93, u94, u95, u96, u97, u98, u99, u100, u101, u102, u103, u104, u105, u106, u107, u108, u109, u110, u111, u112, u113, u114, u115, u116, u117, u118, u119, u120, u121, u122, u123, u124, u125, u126, u127, u128, u129, u130, u131, u132, u133, u134, u135, u136, u137, u138, u139, u140, u141, u142, u143, u144, u145, u146, u147, u148, u149, u150, u151, u152, u153, u154, u155, u156, u157, u158, u159, u160, u161, u162, u163, u164, u165, u166, u167, u168, u169, u170, u171, u172, u173, u174, u175, u176, u177, u178, u179, u180, u181, u182, u183, u184, u185, u186, u187, u188, u189, u190, u191, u192, u193, u194, u195, u196, u197, u198, u199, u200, u201, u202, u203, u204, u205, u206, u207, u208, u209, u210, u211, u212, u213, u214, u215, u216, u217, u218, u219, u220, u221, u222, u223, u224, u225, u226, u227, u228, u229, u230, u231, u232, u233, u234, u235, u236, u237, u238, u239, u240, u241, u242, u243, u244, u245, u246, u247, u248, u249, u250, u251, u252, u253, u254, u255, u256, u257, u258, u259, u260, u261, u262, u263, u264, u265, u266, u267, u268, u269, u270, u271, u272, u273, u274, u275, u276, u277, u278, u279, u280, u281, u282, u283, u284, u285, u286, u287, u288, u289, u290, u291, u292, u293, u294, u295, u296, u297, u298, u299, u300, u301, u302, u303, u304, u305, u306, u307, u308], []⟩ wr := by
  conv => arg 2; whnf
  dsimp only
  have HQ := Lib.hid hQ
  have HK := Lib.hid hKp
  have HP := Lib.hid hRP
  have HS := Lib.hid hRS
  obtain ⟨ps, hps⟩ : ∃ ps, P.sum = ps := ⟨_, rfl⟩
  rw [hps] at ht
  have HPS := Lib.hid hps
  obtain ⟨pp, hpp⟩ : ∃ pp, P[pkTo P N]?.getD 0 = pp := ⟨_, rfl⟩
  rw [hpp] at hp hPs
  have HPP := Lib.hid hpp
  have hmx := max_smp pk pp hpk hPs
  rw [← hp] at hmx
  have HSE := Lib.hid hS
  have HSS := Lib.hid hSs
  have HX := Lib.hid hX
  have HY := Lib.hid hY
  have HN := Lib.hid hn
  have HNN := Lib.hid hN
  have HWH := Lib.hid (And.intro hW hH)
  have H56 := Lib.hid h56
  have H6 := Lib.hid h6
  clear hQ hKp hRP hRS hps hpp hp hPs hpk hS hSs hX hY hn hN hW hH h56 h6
  obtain ⟨x0, x1, x2⟩ := cells3 (HK.out.2 _ (.head _))
  go_upto_region 31 with (first
    | (go_at_call 97; with_reducible refine (told_any _ _ _ _ _ _).mono ?_; rintro e w1 ⟨rfl, hb⟩;
       have K1 := Lib.hid (HK.out.call hb); have P1 := Lib.hid (HP.out.kept hb); have S1 := Lib.hid (HS.out.kept hb); clear hb)
    | (go_at_call 38; (refine Calls.mono (rm_own P1.out cp) ?_); rintro e w2 ⟨g2, c2, rfl, hm, hb⟩;
       have K2 := Lib.hid (K1.out.call hb); have P2 := Lib.hid (P1.out.kept hb); have S2 := Lib.hid (S1.out.kept hb); have M2 := Lib.hid hm; clear hb hm)
    | (go_at_call 39; (refine Calls.mono (rm_total M2.out c2) ?_); rw [HPS.out]; rintro e w3 ⟨rfl, hb⟩;
       have K3 := Lib.hid (K2.out.call hb); have P3 := Lib.hid (P2.out.kept hb); have S3 := Lib.hid (S2.out.kept hb); clear hb))
  clear x0 x1 x2 K1 P1 S1 K2 P2 S2 M2 HK HP HS
  obtain ⟨x0, x1, x2⟩ := cells3 (K3.out.2 _ (.head _))
  go_upto_region 32 with (first
    | (go_at_call 97; with_reducible refine (told_any _ _ _ _ _ _).mono ?_; rintro e w4 ⟨rfl, hb⟩;
       have K4 := Lib.hid (K3.out.call hb); have P4 := Lib.hid (P3.out.kept hb); have S4 := Lib.hid (S3.out.kept hb); clear hb)
    | (go_at_call 38; (refine Calls.mono (rm_own P4.out cp) ?_); rintro e w5 ⟨g5, c5, rfl, hm, hb⟩;
       have K5 := Lib.hid (K4.out.call hb); have P5 := Lib.hid (P4.out.kept hb); have S5 := Lib.hid (S4.out.kept hb); have M5 := Lib.hid hm; clear hb hm)
    | (go_at_call 40; (refine Calls.mono (rm_peak M5.out c5) ?_); rw [HPP.out]; rintro e w6 ⟨rfl, hb⟩;
       have K6 := Lib.hid (K5.out.call hb); have P6 := Lib.hid (P5.out.kept hb); have S6 := Lib.hid (S5.out.kept hb); clear hb))
  clear x0 x1 x2 K4 P4 S4 K5 P5 S5 M5 K3 P3 S3
  obtain ⟨wx, hwx⟩ : ∃ wx, w6.alloc (.cells #[.int .i64 (((pkTo P N : Nat) : Int) % ((DW : Nat) : Int)), .int .i64 (((pkTo P N : Nat) : Int) / ((DW : Nat) : Int))] 50) = wx := ⟨_, rfl⟩
  have k7 := K6.out.alloc (.cells #[.int .i64 (((pkTo P N : Nat) : Int) % ((DW : Nat) : Int)), .int .i64 (((pkTo P N : Nat) : Int) / ((DW : Nat) : Int))] 50)
  have q7 := (Below.refl w6.heap.size w6).alloc (Nat.le_refl _) (.cells #[.int .i64 (((pkTo P N : Nat) : Int) % ((DW : Nat) : Int)), .int .i64 (((pkTo P N : Nat) : Int) / ((DW : Nat) : Int))] 50)
  rw [hwx] at k7 q7 ⊢
  have K7 := Lib.hid (k7.subs (fun p hp => .tail _ hp) : Kp w wx [(B13, (.cells #[.int .i64 (DW : Nat), .int .i64 (DH : Nat), .slice (some ⟨gp, 0, none⟩) N cp] 54 (0, 0))), (B12, (.cells #[.int .i64 (R0 : Nat), .int .i64 r1] 70 (0, 0))), (B10, (.cells #[.int .i64 (C0 : Nat), .int .i64 c1] 70 (0, 0))), (B6, (.cells #[.int .i64 W, .int .i64 H, .slice (some ⟨g6, 0, none⟩) n n] 54 (0, 0))), (B5, oc), (w.heap.size, (.cells #[.int .i64 W, .int .i64 H, .slice (some ⟨b, o, none⟩) n c] 48 (0, 0)))])
  have P7 := Lib.hid (P6.out.kept q7)
  have S7 := Lib.hid (S6.out.kept q7)
  clear hwx k7 q7 K6 P6 S6
  go_cut [24, 25] from 194 to 209 (fun s24 s25 wr => (∃ B, s24 = .pointer (some ⟨B, 0, none⟩) ∧ wx.heap.size ≤ B ∧ ResBox wr B 54 0 (W : Int) (H : Int) (placeK DW DH C0 R0 W n P)) ∧ s25 = .int .i64 0 ∧ Below wx.heap.size wx wr)
  case first =>
    obtain ⟨x0, x1, x2⟩ := cells3 (K7.out.2 _ (.head _))
    obtain ⟨y0, y1⟩ := cells2 (K7.out.2 _ (.tail _ (.head _)))
    obtain ⟨z0, z1⟩ := cells2 (K7.out.2 _ (.tail _ (.tail _ (.head _))))
    obtain ⟨m0, m1, m2⟩ := cells3 (K7.out.2 _ (.tail _ (.tail _ (.tail _ (.tail _ (.tail _ (.head _)))))))
    have l13 := lt_of_blk (K7.out.2 _ (.head _))
    have l12 := lt_of_blk (K7.out.2 _ (.tail _ (.head _)))
    have l10 := lt_of_blk (K7.out.2 _ (.tail _ (.tail _ (.head _))))
    have l2 := lt_of_blk (K7.out.2 _ (.tail _ (.tail _ (.tail _ (.tail _ (.tail _ (.head _)))))))
    have KT : Hid (∀ w1 : World, Blw wx.heap.size wx w1 → Calls Tryz.prog 97 #[.agg #[.int .i64 (DW : Nat), .int .i64 (DH : Nat), .slice (some ⟨gp, 0, none⟩) N cp]] w1 fun e w' => e = .returned (.agg #[.int .i64 (DW : Nat), .int .i64 (DH : Nat), .slice (some ⟨gp, 0, none⟩) N cp]) ∧ Below w1.heap.size w1 w' ∧ Below wx.heap.size wx w') :=
      Lib.hid fun w1 (h : Below wx.heap.size wx w1) => (told_any _ _ _ _ _ w1).mono fun e w' ⟨he, hb⟩ => ⟨he, hb, h.trans (hb.mono h.size)⟩
    have KO : Hid (∀ w1 : World, Blw wx.heap.size wx w1 → Calls Tryz.prog 38 #[.agg #[.int .i64 (DW : Nat), .int .i64 (DH : Nat), .slice (some ⟨gp, 0, none⟩) N cp]] w1 fun e w' =>
        ∃ g c', e = .returned (.agg #[.int .i64 (DW : Nat), .int .i64 (DH : Nat), .slice (some ⟨g, 0, none⟩) N c']) ∧ RM w' DW DH N P g 0 ∧ Below w1.heap.size w1 w' ∧ Below wx.heap.size wx w') :=
      Lib.hid fun w1 (h : Below wx.heap.size wx w1) => (rm_own (P7.out.kept h) cp).mono fun e w' ⟨g, c', he, hm, hb⟩ => ⟨g, c', he, hm, hb, h.trans (hb.mono h.size)⟩
    have KA : Hid (∀ (w1 : World) (g c' : Nat), RM w1 DW DH N P g 0 → Blw wx.heap.size wx w1 → Calls Tryz.prog 50 #[.agg #[.int .i64 (DW : Nat), .int .i64 (DH : Nat), .slice (some ⟨g, 0, none⟩) N c'], .int .i64 W, .int .i64 H, .agg #[.int .i64 (C0 : Nat), .int .i64 (R0 : Nat)]] w1 fun e w' =>
        ∃ g', e = .returned (.tuple #[.agg #[.int .i64 W, .int .i64 H, .slice (some ⟨g', 0, none⟩) n n], .int .i64 0]) ∧ ResV w' 0 (W : Int) (H : Int) (placeK DW DH C0 R0 W n P) (W : Int) (H : Int) (some ⟨g', 0, none⟩) n n ∧ Below w1.heap.size w1 w' ∧ Below wx.heap.size wx w') :=
      Lib.hid fun w1 g c' h1 (h : Below wx.heap.size wx w1) => (rm_placed_res h1 c' HX.out HY.out HWH.out.1 HWH.out.2 HN.out).mono fun e w' ⟨g', he, hv, hb⟩ => ⟨g', he, hv, hb, h.trans (hb.mono h.size)⟩
    have hR : Blw wx.heap.size wx wx.drew := show Below _ _ _ from (Below.refl wx.heap.size wx).drew
    clear K7 P7 S7
    go_region_held3 (fun w' => w'.cell? ⟨B13, 0, none⟩ = some (.int .i64 (DW : Nat)) ∧ w'.cell? ⟨B13, 1, none⟩ = some (.int .i64 (DH : Nat)) ∧ w'.cell? ⟨B13, 2, none⟩ = some (.slice (some ⟨gp, 0, none⟩) N cp) ∧ w'.cell? ⟨B12, 0, none⟩ = some (.int .i64 (R0 : Nat)) ∧ w'.cell? ⟨B10, 0, none⟩ = some (.int .i64 (C0 : Nat)) ∧
        w'.cell? ⟨w.heap.size, 0, none⟩ = some (.int .i64 W) ∧ w'.cell? ⟨w.heap.size, 1, none⟩ = some (.int .i64 H) ∧ Blw wx.heap.size wx w')
      (first
        | (go_split_ands; refine ⟨?_, ?_, ?_, ?_, ?_, ?_, ?_, ?_⟩ <;> first | (with_reducible assumption) | exact hb2 | ((rw [hb2.cell (by simp; try omega)]; assumption)))
        | (go_split_ands; refine ⟨?_, ?_, ?_, ?_, ?_, ?_, ?_, ?_⟩ <;> first | ((rw [(hb2.alloc hb2.size _).cell (by simp; try omega)]; assumption)) | exact (hb2.alloc hb2.size _ : Below _ _ _))
        | (go_split_ands; refine ⟨?_, ?_, ?_, ?_, ?_, ?_, ?_, ?_⟩ <;> first | ((refine Eq.trans (Below.cell (B := wx.heap.size) (w := wx) (below_set3 hb2 ?_ _ _ _) ?_) ?_ <;> first | assumption | omega | (simp; done) | (simp; omega)); done) | ((refine (below_set3 hb2 ?_ _ _ _ : Below _ _ _) <;> first | omega | (simp; done) | (simp; omega)); done))
        | (go_split_ands; refine ⟨?_, ?_, ?_, ?_, ?_, ?_, ?_, ?_⟩ <;> first | ((rw [((Below.refl wx.heap.size wx).alloc (Nat.le_refl _) _).drew.cell (by simp; try omega)]; assumption)) | exact (((Below.refl wx.heap.size wx).alloc (Nat.le_refl _) _).drew : Below _ _ _))
        | (go_keep; done))
      (first
        | (go_at_call 97; refine (KT.out _ ?_).mono ?_; rotate_left 1; rintro e wT ⟨rfl, hbT, hb2⟩; (obtain ⟨hcT, hfT⟩ := bcell hbT); (have hsT := hbT.size); (try simp at hsT); (try have hq0 : wx.heap.size < wT.heap.size := by omega); rotate_left 1; (simp [*]))
        | (go_at_call 38; refine (KO.out _ (by first | exact (hb2 : Below _ _ _) | exact (hb2.alloc hb2.size _ : Below _ _ _))).mono ?_; rintro e wA ⟨ga, ca, rfl, hmA, hbA, hb2⟩; (obtain ⟨hcA, hfA⟩ := bcell hbA); (have hsA := hbA.size); (try simp at hsA); (try have hq1 : wx.heap.size < wA.heap.size := by omega); (try have hq2 : wT.heap.size < wA.heap.size := by omega))
        | (go_at_call 50; refine (KA.out _ _ _ (by first | exact hmA | exact hmA.kept ((Below.refl _ wA).alloc (Nat.le_refl _) _)) (by first | exact (hb2 : Below _ _ _) | exact (hb2.alloc hb2.size _ : Below _ _ _))).mono ?_; rintro e wC ⟨gc, rfl, hres, hbC, hb2⟩; (obtain ⟨hcC, hfC⟩ := bcell hbC); (have hsC := hbC.size); (try simp at hsC); (try have hq3 : wx.heap.size < wC.heap.size := by omega); (try have hq4 : wT.heap.size < wC.heap.size := by omega); (try have hq5 : wA.heap.size < wC.heap.size := by omega)))
    all_goals go_wp2_with fail
    all_goals go_meet
    all_goals first
      | exact ⟨⟨_, rfl, hb2.size, ResBox.new hres⟩, rfl, hb2.alloc hb2.size _⟩
      | (have z := (hbC.block wA.heap.size (by simp)).trans (blk_alloc_new wA _); exact ⟨⟨_, rfl, by omega, ResBox.put z hres⟩, rfl, below_set3 hb2 (by omega) _ _ _⟩)
      | (have z := (hbC.block wT.heap.size (by omega)).trans ((hbA.block wT.heap.size (by simp)).trans (blk_alloc_new wT _)); exact ⟨⟨_, rfl, by omega, ResBox.put z hres⟩, rfl, below_set3 hb2 (by omega) _ _ _⟩)
      | (have z := (hbC.block wx.heap.size (by omega)).trans ((hbA.block wx.heap.size (by omega)).trans ((hbT.block wx.heap.size (by simp)).trans (blk_alloc_new wx _))); exact ⟨⟨_, rfl, by omega, ResBox.put z hres⟩, rfl, below_set3 hb2 (by omega) _ _ _⟩)
  case rest =>
    rename_i hK
    obtain ⟨⟨B24, rfl, hB24, hbx⟩, rfl, hb⟩ := hcut
    refine hK _ _ ?_
    clear hK
    obtain ⟨gq, cq, hq, hPL⟩ := hbx.rm (by simp [placeK]) HN.out S7.out.wid S7.out.hei
    have K8 := Lib.hid (K7.out.call hb)
    have S8 := Lib.hid (S7.out.kept hb)
    have A8 := Lib.hid hPL
    have Q8 := Lib.hid hq
    clear hb hPL hq hbx K7 P7 S7
    obtain ⟨x0, x1, x2⟩ := cells3 (K8.out.2 _ (.tail _ (.tail _ (.tail _ (.head _)))))
    obtain ⟨y0, y1, y2⟩ := cells3 Q8.out
    have HAD : Hid (∀ j, j < n → (S[j]?.getD 0 + (placeK DW DH C0 R0 W n P)[j]?.getD 0 : Int).natAbs ≤ 16384) := Lib.hid fun j hj => by
      have h := HSS.out j hj
      rw [HSE.out, addK_get hj] at h
      exact h
    go_upto_region 36 with (first
      | (go_at_call 58; (refine Calls.mono (rm_added S8.out A8.out n cq HAD.out) ?_); rw [← HSE.out]; rintro e w9 ⟨g9, rfl, hm, hb⟩;
         have K9 := Lib.hid ((K8.out.call hb).alloc (.cells #[.int .i64 0, .int .i64 0, .slice none 0 0] 54));
         have K10 := Lib.hid ((K8.out.call hb).stored #[.int .i64 0, .int .i64 0, .slice none 0 0] #[.int .i64 W, .int .i64 H, .slice (some ⟨g9, 0, none⟩) n n] 54);
         have S10 := Lib.hid (hm.kept ((Kp.none w9).stored #[.int .i64 0, .int .i64 0, .slice none 0 0] #[.int .i64 W, .int .i64 H, .slice (some ⟨g9, 0, none⟩) n n] 54).1); clear hb hm)
      | (refine wpList_store_row rfl 54 (.tmp 26) (.tmp 220) rfl w9.heap.size rfl #[.int .i64 W, .int .i64 H, .slice (some ⟨g9, 0, none⟩) n n] rfl 54 #[.int .i64 0, .int .i64 0, .slice none 0 0] (K9.out.2 _ (.head _)) (by rfl) (by kernel_rfl) (by simp [Value.oneCell']) ?_))
    obtain ⟨W10, hW10⟩ : ∃ W10, (w9.alloc (.cells #[.int .i64 0, .int .i64 0, .slice none 0 0] 54)).setRow w9.heap.size #[.int .i64 W, .int .i64 H, .slice (some ⟨g9, 0, none⟩) n n] = W10 := ⟨_, rfl⟩
    obtain ⟨B26, hB26⟩ : ∃ B26, w9.heap.size = B26 := ⟨_, rfl⟩
    have k10 := K10.out
    have s10 := S10.out
    rw [hW10] at k10 s10 ⊢
    rw [hB26] at k10 ⊢
    have J := Lib.hid k10
    have SJ := Lib.hid s10
    clear hW10 hB26 k10 s10 K8 S8 A8 Q8 K9 K10 S10 HAD x0 x1 x2 y0 y1 y2
    obtain ⟨x0, x1, x2⟩ := cells3 (J.out.2 _ (.head _))
    go_wp2_with (refine wpList_store_row rfl 54 (.tmp 6) (.tmp 224) rfl B6 rfl #[.int .i64 W, .int .i64 H, .slice (some ⟨g9, 0, none⟩) n n] rfl 54 #[.int .i64 W, .int .i64 H, .slice (some ⟨g6, 0, none⟩) n n] (J.out.2 _ (.tail _ (.tail _ (.tail _ (.tail _ (.head _)))))) (by rfl) (by kernel_rfl) (by simp [Value.oneCell']) ?_)
    have hne := RM.nes SJ.out (J.out.2 _ (.tail _ (.tail _ (.tail _ (.tail _ (.head _))))))
    have ob := OnlyBlk.setRow W10 B6 #[.int .i64 W, .int .i64 H, .slice (some ⟨g9, 0, none⟩) n n]
    have fS := RM.others SJ.out (ob.1.block _ SJ.out.1 (fun e => hne (Option.some.inj e))) ob.1.size
    have h10 : B10 ≠ B6 := fun e => by
      have h1 := J.out.2 _ (.tail _ (.tail _ (.tail _ (.head _))))
      have h2 := J.out.2 _ (.tail _ (.tail _ (.tail _ (.tail _ (.head _)))))
      simp only [e] at h1
      rw [h2] at h1
      simp at h1
    have fK := Kp.setHead (J.out.subs (m := [(B6, (.cells #[.int .i64 W, .int .i64 H, .slice (some ⟨g6, 0, none⟩) n n] 54 (0, 0))), (B10, (.cells #[.int .i64 (C0 : Nat), .int .i64 c1] 70 (0, 0))), (B5, oc), (w.heap.size, (.cells #[.int .i64 W, .int .i64 H, .slice (some ⟨b, o, none⟩) n c] 48 (0, 0)))]) (fun p hp => .tail _ (.tail _ (.tail _ (by
      rcases List.mem_cons.1 hp with rfl | hp
      · exact .tail _ (.head _)
      · rcases List.mem_cons.1 hp with rfl | hp
        · exact .head _
        · exact .tail _ (.tail _ hp)))))) #[.int .i64 W, .int .i64 H, .slice (some ⟨g9, 0, none⟩) n n] (Nat.le_of_lt H6.out) (fun p hp => by
      rcases List.mem_cons.1 hp with rfl | hp
      · exact h10
      · rcases List.mem_cons.1 hp with rfl | hp
        · exact H56.out
        · rcases List.mem_cons.1 hp with rfl | hp
          · exact Nat.ne_of_lt H6.out
          · nomatch hp)
    exact HQ.out _ _ _ _ _ _ _ _ _ _ _ _ _ _ _ _ _ _ _ _ _ _ _ _ _ _ _ _ _ _ _ _ _ _ _ _ _ _ _ _ _ _ _ _ _ _ _ _ _ _ _ _ _ _ _ _ _ _ _ _ _ _ _ _ _ _ _ _ _ _ _ _ _ _ _ _ _ _ _ _ _ _ _ _ _ _ _ _ _ _ _ _ _ _ _ _ _ _ _ _ _ _ _ _ _ _ _ _ _ _ _ _ _ _ _ _ _ _ _ _ _ _ _ _ _ _ _ _ _ _ _ _ _ _ _ _ _ _ _ _ _ _ _ _ _ _ _ _ _ _ _ _ _ _ _ _ _ _ _ _ _ _ _ _ _ _ _ _ fK fS
end Go.Proofs.YtfdkmmllemkogaaGreatDoor
