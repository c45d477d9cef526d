/-
  The walk of awake, chapter 1's fixed examples: the whole of it.
-/
import Derived.Test.YthfiilfekofimaaGreatDoorDVj
import Derived.Deep.CutBlock
import Derived.Deep.DeepCutAuto
import Derived.Test.YthfiilfekofimaaGreatDoorDBc
import Derived.Test.YthfiilfekofimaaGreatDoorDBv
namespace Go.Proofs.YthfiilfekofimaaGreatDoor
open Go.RowKit Go.Shelf
set_option linter.unusedVariables false
set_option linter.unusedSimpArgs false

set_option maxRecDepth 1000000 in
set_option maxHeartbeats 12800000 in
theorem awk19 (w : World) : Awk19 w := by
  unfold Awk19
  intro wx B16 B18 B20 B22 B24 B26 B28 a32 c32 u1 u2 u3 u4 u5 u6 u7 u8 u9 u10 u11 u12 u13 u14 u15 u34 u35 u36 u37 u38 u39 u40 u41 u42 u43 u44 u45 u46 u47 u48 u49 u50 u51 u52 u53 u54 u55 u56 u57 u58 u59 u60 u61 u62 u63 u64 u65 u66 u67 u68 u69 u70 u71 u72 u73 u74 u75 u76 u77 u78 u79 u80 u81 u82 u83 u84 u85 u86 u87 u88 u89 u90 u91 u92 u93 u94 u95 u96 u97 u98 u99 u100 u101 u102 u103 u104 u105 u106 u107 u108 u109 u110 u111 u112 u113 u114 u115 u116 u117 u118 u119 u120 u121 u122 u123 u124 u125 u126 u127 u128 u129 u130 u131 u132 u133 u134 u135 u136 u137 u138 u139 u140 u141 u142 u143 u144 u145 u146 u147 u148 u149 u150 u151 u152 u153 u154 u155 u156 u157 u158 u159 u160 u161 u162 u163 u164 u165 u166 u167 u168 u169 u170 u171 u172 u173 u174 u175 u176 u177 u178 u179 u180 u181 u182 u183 u184 u185 u186 u187 u188 u189 u190 u191 u192 u193 u194 u195 u196 u197 u198 u199 u200 u201 u202 u203 u204 u205 u206 u207 u208 u209 u210 u211 u212 u213 u214 u215 u216 u217 u218 u219 u220 u221 u222 u223 u224 u225 u226 u227 u228 u229 u230 u231 u232 u233 u234 u235 u236 u237 u238 u239 u240 u241 u242 u243 u244 u245 u246 u247 u248 u249 u250 u251 u252 u253 u254 u255 u256 hB f16 f18 f20 f22 f24 f26 f28
  conv => arg 2; whnf
  dsimp only
  have K := Lib.hid (draw_lit wx)
  go_wp2_with (go_at_call 65; refine K.out.mono ?_; rintro e w1 ⟨gd, cd, rfl, hgd, hcd, hb1⟩)
  replace f16 := f16.kept hb1
  replace f18 := f18.kept hb1
  replace f20 := f20.kept hb1
  replace f22 := f22.kept hb1
  replace f24 := f24.kept hb1
  replace f26 := f26.kept hb1
  replace f28 := f28.kept hb1
  obtain ⟨g16, b16, h16⟩ := f16
  obtain ⟨g18, b18, h18⟩ := f18
  obtain ⟨g20, b20, h20⟩ := f20
  obtain ⟨g22, b22, h22⟩ := f22
  have hmix : Tryz.prog.follows Departure.mixedOrders = true := by kernel_rfl
  refine (wpIn_wide (n := 6)).1 ?_
  refine wpIn_region_heldI (S20 w1) hmix ?_
  change wpAnyHIn _ _ _ _ _ _ _ 72 _ _ w1.drew
  have hBw := hB.trans (hb1.mono hB.size)
  refine r20a _ (fun c a d v w h => by cases d <;> exact h) w1 _ (Below.refl w1.heap.size w1).drew a32 c32 B16 g16 b16 h16 B18 g18 b18 h18 B20 g20 b20 h20 B22 g22 b22 h22 B24 f24 B26 f26 B28 f28 gd cd hgd hcd ?_ _ (by kernel_rfl) _ _ _ _ _ _ _ _ _ _ _ _ _ _ _ _ _ _ _ _ _ _ _ _ _ _ _ _ _ _ _ _ _ _ _ _ _ _ _ _ _ _ _ _ _ _ _ _ _ _ _ _ _ _ _ _ _ _ _ _ _ _ _ _ _ _ _ _ _ _ _ _ _ _ _ _ _ _ _ _ _ _ _ _ _ _ _ _ _ _ _ _ _ _ _ _ _ _ _ _ _ _ _ _ _ _ _ _ _ _ _ _ _ _ _ _ _ _ _ _ _ _ _ _ _ _ _ _ _ _ _ _ _ _ _ _ _ _ _ _ _ _ _ _ _ _ _ _ _ _ _ _ _ _ _ _ _ _ _ _ _ _ _ _ _ _ _ _ _ _ _ _ _ _ _ _ _ _ _ _ _ _ _ _ _ _ _ _ _ _ _ _ _ _ _ _ _ _ _ _ _ _ _ _ _ _ _ _ _ _ _ _ _ _ _ _ _ _ _ _ _ _ _ _ _ _ _ _ _ _ _ _ _ _ _ _ _
  unfold End20
  intro V v1 v2 v3 v4 v5 v6 v7 v8 v9 v10 v11 v12 v13 v14 v15 v16 v17 v18 v19 v20 v21 v22 v23 v24 v25 v26 v27 v28 v29 v30 v31 v32 v33 v34 v35 v36 v37 v38 v39 v40 v41 v42 v43 v44 v45 v46 v47 v48 v49 v50 v51 v52 v53 v54 v55 v56 v57 v58 v59 v60 v61 v62 v63 v64 v65 v66 v67 v68 v69 v70 v71 v72 v73 v74 v75 v76 v77 v78 v79 v80 v81 v82 v83 v84 v85 v86 v87 v88 v89 v90 v91 v92 v93 v94 v95 v96 v97 v98 v99 v100 v101 v102 v103 v104 v105 v106 v107 v108 v109 v110 v111 v112 v113 v114 v115 v116 v117 v118 v119 v120 v121 v122 v123 v124 v125 v126 v127 v128 v129 v130 v131 v132 v133 v134 v135 v136 v137 v138 v139 v140 v141 v142 v143 v144 v145 v146 v147 v148 v149 v150 v151 v152 v153 v154 v155 v156 v157 v158 v159 v160 v161 v162 v163 v164 v165 v166 v167 v168 v169 v170 v171 v172 v173 v174 v175 v176 v177 v178 v179 v180 v181 v182 v183 v184 v185 v186 v187 v188 v189 v190 v191 v192 v193 v194 v195 v196 v197 v198 v199 v200 v201 v202 v203 v204 v205 v206 v207 v208 v209 v210 v211 v212 v213 v214 v215 v216 v217 v218 v219 v220 v221 v222 v223 v224 v225 v226 v227 v228 v229 v230 v231 v232 v233 v234 v235 v236 v237 v238 v239 v240 v241 v242 v243 v244 v245 v246 v247 v248 v249 v250 v251 v252 v253 v254 v255 v256 hV
  go_wp2
  go_ret
  exact ⟨rfl, hBw.trans (hV.mono hBw.size)⟩

theorem awk1_any (w : World) (ht : TabAt w) : Awk1 w :=
  awk1 w (awk2 w (awk3 w (awk4 w (awk5 w (awk6 w (awk7 w (awk8 w (awk10 w (awk11 w (awk12 w (awk13 w (awk14 w (awk15 w (awk16 w (awk17 w ht (awk18 w (awk19 w)))))))))))))))))

set_option maxRecDepth 1000000 in
set_option maxHeartbeats 12800000 in
/-- The fixed examples of chapter 1 hold. -/
theorem awake_any (w : World) (ht : TabAt w) : Calls Tryz.prog 15 #[] w fun e w' => e = .returned (.bool true) ∧ Below w.heap.size w w' := by
  have hT := awk1_any w ht
  show Calls Tryz.prog 15 #[] w (TruePost w)
  go_enter Tryz.func15, Tryz.ntmps15
  go_upto_region 0 with fail
  go_cut [0] (fun s0 wr => s0 = .bool false ∧ wr = w)
  case first =>
    go_wp2_with fail
    go_meet
    exact ⟨rfl, rfl⟩
  case rest =>
    rename_i hK
    obtain ⟨rfl, rfl⟩ := hcut
    refine hK _ _ ?_
    clear hK
    unfold Awk1 at hT
    exact hT _ _ _ _ _ _ _ _ _ _ _ _ _ _ _ _ _ _ _ _ _ _ _ _ _ _ _ _ _ _ _ _ _ _ _ _ _ _ _ _ _ _ _ _ _ _ _ _ _ _ _ _ _ _ _ _ _ _ _ _ _ _ _ _ _ _ _ _ _ _ _ _ _ _ _ _ _ _ _ _ _ _ _ _ _ _ _ _ _ _ _ _ _ _ _ _ _ _ _ _ _ _ _ _ _ _ _ _ _ _ _ _ _ _ _ _ _ _ _ _ _ _ _ _ _ _ _ _ _ _ _ _ _ _ _ _ _ _ _ _ _ _ _ _ _ _ _ _ _ _ _ _ _ _ _ _ _ _ _ _ _ _ _ _ _ _ _ _ _ _ _ _ _ _ _ _ _ _ _ _ _ _ _ _ _ _ _ _ _ _ _ _ _ _ _ _ _ _ _ _ _ _ _ _ _ _ _ _ _ _ _ _ _ _ _ _ _ _ _ _ _ _ _ _ _ _ _ _ _ _ _ _ _ _ _ _ _ _ _ _ _ _ _ _ _ _ _ _ _ _ _ _ _ _ _ _ _ (Below.refl _ _)

end Go.Proofs.YthfiilfekofimaaGreatDoor

/-
  What the walks of chapter 1's rows share: the cells of a map's variable, a map's own copy.
-/
namespace Go.Proofs.YthfiilfekofimaaGreatDoor
open Go.RowKit
set_option linter.unusedVariables false
set_option linter.unusedSimpArgs false

theorem map_cells {w : World} {B : Nat} {W H : Int} {a : Option Addr} {n c : Nat} (h : w.heap[B]? = some (.cells #[.int .i64 W, .int .i64 H, .slice a n c] 41 (0, 0))) :
    w.cell? ⟨B, 0, none⟩ = some (.int .i64 W) ∧ w.cell? ⟨B, 1, none⟩ = some (.int .i64 H) ∧ w.cell? ⟨B, 2, none⟩ = some (.slice a n c) :=
  ⟨by rw [cell_of_row w _ 0 _ _ (0, 0) h]; rfl, by rw [cell_of_row w _ 1 _ _ (0, 0) h]; rfl, by rw [cell_of_row w _ 2 _ _ (0, 0) h]; rfl⟩
theorem own_of (W H : Int) (a : Option Addr) (n c : Nat) (xs : List Nat) (hm : n ≤ 100000) (wx : World) (hM : AnyMap wx a n c xs) : Calls Tryz.prog 18 #[.agg #[.int .i64 W, .int .i64 H, .slice a n c]] wx fun e w' =>
    ∃ g c', e = .returned (.agg #[.int .i64 W, .int .i64 H, .slice (some ⟨g, 0, none⟩) n c']) ∧ AnyMap w' (some ⟨g, 0, none⟩) n c' xs ∧ Below wx.heap.size wx w' :=
  (lawOwn_all W H a n c xs hm hM).mono fun e w' h => h.map hM.len hM.words
end Go.Proofs.YthfiilfekofimaaGreatDoor

/-
  The errors of spans; what Part and Placed answer for a map, a span, a side or a place with an error.
-/
namespace Go.Proofs.YthfiilfekofimaaGreatDoor
open Go.RowKit
set_option linter.unusedVariables false
set_option linter.unusedSimpArgs false

/-- The error of a span that must not be empty. -/
def spanErr (f t l : Int) : Int := if f < 0 ∨ t ≤ f ∨ l < t then 14 else 0

set_option maxHeartbeats 1600000 in
theorem checkSpan_all (f t l : Int) (w : World) :
    Calls Tryz.prog 86 #[.agg #[.int .i64 f, .int .i64 t], .int .i64 l] w fun e w' => e = .returned (.int .i64 (spanErr f t l)) ∧ Below w.heap.size w w' := by
  unfold spanErr
  by_cases h1 : f < 0
  · rw [if_pos (.inl h1)]
    go_enter Tryz.func86, Tryz.ntmps86
    go_wp2
    go_ret
    exact ⟨rfl, (Below.refl _ w).alloc (Nat.le_refl _) _⟩
  by_cases h2 : t ≤ f
  · rw [if_pos (.inr (.inl h2))]
    go_enter Tryz.func86, Tryz.ntmps86
    go_wp2
    go_ret
    exact ⟨rfl, (Below.refl _ w).alloc (Nat.le_refl _) _⟩
  by_cases h3 : l < t
  · rw [if_pos (.inr (.inr h3))]
    go_enter Tryz.func86, Tryz.ntmps86
    go_wp2
    go_ret
    exact ⟨rfl, (Below.refl _ w).alloc (Nat.le_refl _) _⟩
  · rw [if_neg (by omega)]
    go_enter Tryz.func86, Tryz.ntmps86
    go_wp2
    go_ret
    exact ⟨rfl, (Below.refl _ w).alloc (Nat.le_refl _) _⟩

set_option maxRecDepth 100000 in
set_option maxHeartbeats 6400000 in
theorem part_bad (W H : Int) (a : Option Addr) (n c : Nat) (cf ct rf rt : Int) (r : Int) (hr0 : r ≠ 0) (w : World)
    (hC : ∀ w1 : World, Below w.heap.size w w1 → Calls Tryz.prog 67 #[.agg #[.int .i64 W, .int .i64 H, .slice a n c]] w1 fun e w' => e = .returned (.int .i64 r) ∧ Below w1.heap.size w1 w') :
    Calls Tryz.prog 25 #[.agg #[.int .i64 W, .int .i64 H, .slice a n c], .agg #[.int .i64 cf, .int .i64 ct], .agg #[.int .i64 rf, .int .i64 rt]] w fun e w' =>
      e = .returned (.tuple #[.agg #[.int .i64 0, .int .i64 0, .slice none 0 0], .int .i64 r]) ∧ Below w.heap.size w w' := by
  have e0 : (r != 0) = true := by simp [hr0]
  obtain ⟨W0, hW0⟩ : ∃ W0, ((((w.alloc (.cells #[.int .i64 W, .int .i64 H, .slice a n c] 45)).alloc (.cells #[.int .i64 cf, .int .i64 ct] 59)).alloc (.cells #[.int .i64 rf, .int .i64 rt] 59)).alloc (.cells #[.int .i64 0, .int .i64 0, .slice none 0 0] 45)) = W0 := ⟨_, rfl⟩
  have hB0 : Below w.heap.size w W0 := by rw [← hW0]; exact (((((Below.refl _ w).alloc (Nat.le_refl _) _).alloc (by simp) _).alloc (by simp <;> omega) _).alloc (by simp <;> omega) _)
  have hS0 : W0.heap.size = w.heap.size + 4 := by rw [← hW0]; simp
  have b0c0 : W0.cell? ⟨w.heap.size, 0, none⟩ = some (.int .i64 W) := by rw [← hW0]; simp [go_sem]
  have b0c1 : W0.cell? ⟨w.heap.size, 1, none⟩ = some (.int .i64 H) := by rw [← hW0]; simp [go_sem]
  have b0c2 : W0.cell? ⟨w.heap.size, 2, none⟩ = some (.slice a n c) := by rw [← hW0]; simp [go_sem]
  have b1c0 : W0.cell? ⟨w.heap.size + 1, 0, none⟩ = some (.int .i64 cf) := by rw [← hW0]; simp [go_sem]
  have b1c1 : W0.cell? ⟨w.heap.size + 1, 1, none⟩ = some (.int .i64 ct) := by rw [← hW0]; simp [go_sem]
  have b2c0 : W0.cell? ⟨w.heap.size + 1 + 1, 0, none⟩ = some (.int .i64 rf) := by rw [← hW0]; simp [go_sem]
  have b2c1 : W0.cell? ⟨w.heap.size + 1 + 1, 1, none⟩ = some (.int .i64 rt) := by rw [← hW0]; simp [go_sem]
  have bz0 : W0.heap[w.heap.size + 1 + 1 + 1]? = some (.cells #[.int .i64 0, .int .i64 0, .slice none 0 0] 45 (0, 0)) := by rw [← hW0]; have h := blk_alloc_new (((w.alloc (.cells #[.int .i64 W, .int .i64 H, .slice a n c] 45)).alloc (.cells #[.int .i64 cf, .int .i64 ct] 59)).alloc (.cells #[.int .i64 rf, .int .i64 rt] 59)) (.cells #[.int .i64 0, .int .i64 0, .slice none 0 0] 45); simpa using h
  have HC := Lib.hid (hC W0 hB0)
  have HB0 := Lib.hid hB0
  have HZB := Lib.hid bz0
  clear hr0 hC hB0 bz0
  go_enter Tryz.func25, Tryz.ntmps25
  go_upto_region 1 with fail
  try rw [hW0]
  clear hW0
  go_wp2_with (first
    | ((go_at_call 67; refine HC.out.mono ?_; rintro e w1 ⟨rfl, hb1⟩
        have bP := (hb1.block (w.heap.size + 1 + 1 + 1) (by omega)).trans HZB.out
        have q0 : w1.frozen? ⟨w.heap.size + 1 + 1 + 1, 0, none⟩ = false := by simp [World.frozen?, bP]
        have q1 : w1.frozen? ⟨w.heap.size + 1 + 1 + 1, 1, none⟩ = false := by simp [World.frozen?, bP]
        have q2 : w1.frozen? ⟨w.heap.size + 1 + 1 + 1, 2, none⟩ = false := by simp [World.frozen?, bP]
        have p0 : w1.cell? ⟨w.heap.size + 1 + 1 + 1, 0, none⟩ = some (.int .i64 0) := by rw [cell_of_row w1 _ 0 _ _ (0, 0) bP]; rfl
        have p1 : w1.cell? ⟨w.heap.size + 1 + 1 + 1, 1, none⟩ = some (.int .i64 0) := by rw [cell_of_row w1 _ 1 _ _ (0, 0) bP]; rfl
        have p2 : w1.cell? ⟨w.heap.size + 1 + 1 + 1, 2, none⟩ = some (.slice none 0 0) := by rw [cell_of_row w1 _ 2 _ _ (0, 0) bP]; rfl
        have HBP := Lib.hid bP
        clear bP)))
  obtain ⟨WF, hWF⟩ : ∃ WF, (((w1.setCell ⟨w.heap.size + 1 + 1 + 1, 0, none⟩ (.int .i64 0)).setCell ⟨w.heap.size + 1 + 1 + 1, 1, none⟩ (.int .i64 0)).setCell ⟨w.heap.size + 1 + 1 + 1, 2, none⟩ (.slice none 0 0)) = WF := ⟨_, rfl⟩
  have rF : WF.heap[w.heap.size + 1 + 1 + 1]? = some (.cells #[.int .i64 0, .int .i64 0, .slice none 0 0] 45 (0, 0)) := by rw [← hWF]; exact blk_set3 HBP.out _ _ _
  have bF : Below w.heap.size w WF := by rw [← hWF]; exact below_set3 (HB0.out.trans (hb1.mono (by omega))) (by omega) _ _ _
  rw [hWF]
  exact bodyPost_ret (v := .tuple #[.agg #[.int .i64 0, .int .i64 0, .slice none 0 0], .int .i64 r]) (results_row_tmp Tryz.results25 _ _ (w.heap.size + 1 + 1 + 1) 45 _ (0, 0) _ rfl rF Tryz.underlying45 rfl (by kernel_rfl)) rfl ⟨rfl, bF⟩

set_option maxRecDepth 100000 in
set_option maxHeartbeats 6400000 in
theorem part_span (W H : Int) (a : Option Addr) (n c : Nat) (cf ct rf rt : Int) (r : Int) (hr : firstNZ [spanErr cf ct W, spanErr rf rt H] = r) (hr0 : r ≠ 0) (w : World)
    (hC : ∀ w1 : World, Below w.heap.size w w1 → Calls Tryz.prog 67 #[.agg #[.int .i64 W, .int .i64 H, .slice a n c]] w1 fun e w' => e = .returned (.int .i64 0) ∧ Below w1.heap.size w1 w') :
    Calls Tryz.prog 25 #[.agg #[.int .i64 W, .int .i64 H, .slice a n c], .agg #[.int .i64 cf, .int .i64 ct], .agg #[.int .i64 rf, .int .i64 rt]] w fun e w' =>
      e = .returned (.tuple #[.agg #[.int .i64 0, .int .i64 0, .slice none 0 0], .int .i64 r]) ∧ Below w.heap.size w w' := by
  have e0 : (r != 0) = true := by simp [hr0]
  obtain ⟨W0, hW0⟩ : ∃ W0, ((((w.alloc (.cells #[.int .i64 W, .int .i64 H, .slice a n c] 45)).alloc (.cells #[.int .i64 cf, .int .i64 ct] 59)).alloc (.cells #[.int .i64 rf, .int .i64 rt] 59)).alloc (.cells #[.int .i64 0, .int .i64 0, .slice none 0 0] 45)) = W0 := ⟨_, rfl⟩
  have hB0 : Below w.heap.size w W0 := by rw [← hW0]; exact (((((Below.refl _ w).alloc (Nat.le_refl _) _).alloc (by simp) _).alloc (by simp <;> omega) _).alloc (by simp <;> omega) _)
  have hS0 : W0.heap.size = w.heap.size + 4 := by rw [← hW0]; simp
  have b0c0 : W0.cell? ⟨w.heap.size, 0, none⟩ = some (.int .i64 W) := by rw [← hW0]; simp [go_sem]
  have b0c1 : W0.cell? ⟨w.heap.size, 1, none⟩ = some (.int .i64 H) := by rw [← hW0]; simp [go_sem]
  have b0c2 : W0.cell? ⟨w.heap.size, 2, none⟩ = some (.slice a n c) := by rw [← hW0]; simp [go_sem]
  have b1c0 : W0.cell? ⟨w.heap.size + 1, 0, none⟩ = some (.int .i64 cf) := by rw [← hW0]; simp [go_sem]
  have b1c1 : W0.cell? ⟨w.heap.size + 1, 1, none⟩ = some (.int .i64 ct) := by rw [← hW0]; simp [go_sem]
  have b2c0 : W0.cell? ⟨w.heap.size + 1 + 1, 0, none⟩ = some (.int .i64 rf) := by rw [← hW0]; simp [go_sem]
  have b2c1 : W0.cell? ⟨w.heap.size + 1 + 1, 1, none⟩ = some (.int .i64 rt) := by rw [← hW0]; simp [go_sem]
  have bz0 : W0.heap[w.heap.size + 1 + 1 + 1]? = some (.cells #[.int .i64 0, .int .i64 0, .slice none 0 0] 45 (0, 0)) := by rw [← hW0]; have h := blk_alloc_new (((w.alloc (.cells #[.int .i64 W, .int .i64 H, .slice a n c] 45)).alloc (.cells #[.int .i64 cf, .int .i64 ct] 59)).alloc (.cells #[.int .i64 rf, .int .i64 rt] 59)) (.cells #[.int .i64 0, .int .i64 0, .slice none 0 0] 45); simpa using h
  have HC := Lib.hid (hC W0 hB0)
  have HB0 := Lib.hid hB0
  have HS0 := Lib.hid hS0
  have HZB := Lib.hid bz0
  have HR := Lib.hid hr
  have KC : Hid (∀ w1 : World, Blw (w.heap.size + 4) W0 w1 → Calls Tryz.prog 86 #[.agg #[.int .i64 cf, .int .i64 ct], .int .i64 W] w1 fun e w' => e = .returned (.int .i64 (spanErr cf ct W)) ∧ Below (w.heap.size + 4) W0 w') := Lib.hid fun w1 (h : Below (w.heap.size + 4) W0 w1) => by
    have h1 := h.size
    exact (checkSpan_all cf ct W w1).mono fun e w' ⟨he, hw⟩ => ⟨he, h.trans (hw.mono (by omega))⟩
  have KR : Hid (∀ w1 : World, Blw (w.heap.size + 4) W0 w1 → Calls Tryz.prog 86 #[.agg #[.int .i64 rf, .int .i64 rt], .int .i64 H] w1 fun e w' => e = .returned (.int .i64 (spanErr rf rt H)) ∧ Below (w.heap.size + 4) W0 w') := Lib.hid fun w1 (h : Below (w.heap.size + 4) W0 w1) => by
    have h1 := h.size
    exact (checkSpan_all rf rt H w1).mono fun e w' ⟨he, hw⟩ => ⟨he, h.trans (hw.mono (by omega))⟩
  clear hr0 hr hC hB0 bz0
  go_enter Tryz.func25, Tryz.ntmps25
  go_upto_region 1 with fail
  try rw [hW0]
  clear hW0
  go_upto_region 4 with (go_at_call 67; refine HC.out.mono ?_; rintro e w1 ⟨rfl, hb1⟩)
  have hb0 : Below (w.heap.size + 4) W0 w1 := hb1.mono (by omega)
  have hR : Blw (w.heap.size + 4) W0 w1.drew := show Below _ _ _ from hb0.drew
  have hRR : Blw (w.heap.size + 4) W0 w1 := hb0
  have u0 := (hb0.cell (p := ⟨w.heap.size, 0, none⟩) (by show w.heap.size < _; omega)).trans b0c0
  have u1 := (hb0.cell (p := ⟨w.heap.size, 1, none⟩) (by show w.heap.size < _; omega)).trans b0c1
  have u2 := (hb0.cell (p := ⟨w.heap.size + 1, 0, none⟩) (by show w.heap.size + 1 < _; omega)).trans b1c0
  have u3 := (hb0.cell (p := ⟨w.heap.size + 1, 1, none⟩) (by show w.heap.size + 1 < _; omega)).trans b1c1
  have u4 := (hb0.cell (p := ⟨w.heap.size + 1 + 1, 0, none⟩) (by show w.heap.size + 1 + 1 < _; omega)).trans b2c0
  have u5 := (hb0.cell (p := ⟨w.heap.size + 1 + 1, 1, none⟩) (by show w.heap.size + 1 + 1 < _; omega)).trans b2c1
  clear hb1
  go_region_held3 (fun w' => w'.cell? ⟨w.heap.size, 0, none⟩ = some (.int .i64 W) ∧ w'.cell? ⟨w.heap.size, 1, none⟩ = some (.int .i64 H) ∧ w'.cell? ⟨w.heap.size + 1, 0, none⟩ = some (.int .i64 cf) ∧ w'.cell? ⟨w.heap.size + 1, 1, none⟩ = some (.int .i64 ct) ∧ w'.cell? ⟨w.heap.size + 1 + 1, 0, none⟩ = some (.int .i64 rf) ∧ w'.cell? ⟨w.heap.size + 1 + 1, 1, none⟩ = some (.int .i64 rt) ∧ Blw (w.heap.size + 4) W0 w')
    (first
      | (go_split_ands; refine ⟨?_, ?_, ?_, ?_, ?_, ?_, ?_⟩ <;> first | (with_reducible assumption) | exact hb2 | ((rw [hb2.cell (by simp; try omega)]; assumption)))
      | (go_split_ands; refine ⟨?_, ?_, ?_, ?_, ?_, ?_, ?_⟩ <;> first | ((rw [(hb2.alloc (by have := hb2.size; have := HS0.out; omega) _).cell (by simp; try omega)]; assumption)) | exact (hb2.alloc (by have := hb2.size; have := HS0.out; omega) _ : Below _ _ _))
      | go_keep)
    (first
      | (go_at_call_of 86 (Value.agg #[.int .i64 cf, .int .i64 ct]); refine (KC.out _ ?_).mono ?_; rotate_left 1; rintro e w' ⟨rfl, hb2⟩; rotate_left 1; (simp [*]))
      | (go_at_call_of 86 (Value.agg #[.int .i64 rf, .int .i64 rt]); refine (KR.out _ ?_).mono ?_; rotate_left 1; rintro e w' ⟨rfl, hb2⟩; rotate_left 1; (simp [*]))
      | ((go_at_call 47; refine (first_any _ 0 2 2 [spanErr cf ct W, spanErr rf rt H] rfl (by omega) _ ?_).mono ?_; rotate_left 1; rintro e w' ⟨rfl, rfl⟩; rw [HR.out]; rotate_left 1; (intro j hj; match j, hj with | 0, _ => simp [go_sem] | 1, _ => simp [go_sem]))))
  obtain ⟨W1, hW1⟩ : ∃ W1, w'.alloc (.cells #[.int .i64 (spanErr cf ct W), .int .i64 (spanErr rf rt H)] 27) = W1 := ⟨_, rfl⟩
  have hb3 : Below (w.heap.size + 4) W0 W1 := by rw [← hW1]; exact hb2.alloc (by have := hb2.size; have := HS0.out; omega) _
  rw [hW1]
  clear hW1
  have hHS := HS0.out
  have bP := (hb3.block (w.heap.size + 1 + 1 + 1) (by omega)).trans HZB.out
  have q0 : W1.frozen? ⟨w.heap.size + 1 + 1 + 1, 0, none⟩ = false := by simp [World.frozen?, bP]
  have q1 : W1.frozen? ⟨w.heap.size + 1 + 1 + 1, 1, none⟩ = false := by simp [World.frozen?, bP]
  have q2 : W1.frozen? ⟨w.heap.size + 1 + 1 + 1, 2, none⟩ = false := by simp [World.frozen?, bP]
  have p0 : W1.cell? ⟨w.heap.size + 1 + 1 + 1, 0, none⟩ = some (.int .i64 0) := by rw [cell_of_row W1 _ 0 _ _ (0, 0) bP]; rfl
  have p1 : W1.cell? ⟨w.heap.size + 1 + 1 + 1, 1, none⟩ = some (.int .i64 0) := by rw [cell_of_row W1 _ 1 _ _ (0, 0) bP]; rfl
  have p2 : W1.cell? ⟨w.heap.size + 1 + 1 + 1, 2, none⟩ = some (.slice none 0 0) := by rw [cell_of_row W1 _ 2 _ _ (0, 0) bP]; rfl
  have HBP := Lib.hid bP
  clear bP
  clear u0 u1 u2 u3 u4 u5
  go_wp2_with fail
  obtain ⟨WF, hWF⟩ : ∃ WF, (((W1.setCell ⟨w.heap.size + 1 + 1 + 1, 0, none⟩ (.int .i64 0)).setCell ⟨w.heap.size + 1 + 1 + 1, 1, none⟩ (.int .i64 0)).setCell ⟨w.heap.size + 1 + 1 + 1, 2, none⟩ (.slice none 0 0)) = WF := ⟨_, rfl⟩
  have rF : WF.heap[w.heap.size + 1 + 1 + 1]? = some (.cells #[.int .i64 0, .int .i64 0, .slice none 0 0] 45 (0, 0)) := by rw [← hWF]; exact blk_set3 HBP.out _ _ _
  have bF : Below w.heap.size w WF := by rw [← hWF]; exact below_set3 (HB0.out.trans (hb3.mono (by omega))) (by omega) _ _ _
  rw [hWF]
  exact bodyPost_ret (v := .tuple #[.agg #[.int .i64 0, .int .i64 0, .slice none 0 0], .int .i64 r]) (results_row_tmp Tryz.results25 _ _ (w.heap.size + 1 + 1 + 1) 45 _ (0, 0) _ rfl rF Tryz.underlying45 rfl (by kernel_rfl)) rfl ⟨rfl, bF⟩

set_option maxRecDepth 100000 in
set_option maxHeartbeats 6400000 in
theorem placed_bad (W H : Int) (a : Option Addr) (n c : Nat) (ww hh px py : Int) (r1 r : Int) (hr : firstNZ [r1, rangeErr ww 1 64, rangeErr hh 1 64] = r) (hr0 : r ≠ 0) (w : World)
    (hC : ∀ w1 : World, Below w.heap.size w w1 → Calls Tryz.prog 67 #[.agg #[.int .i64 W, .int .i64 H, .slice a n c]] w1 fun e w' => e = .returned (.int .i64 r1) ∧ Below w1.heap.size w1 w') :
    Calls Tryz.prog 30 #[.agg #[.int .i64 W, .int .i64 H, .slice a n c], .int .i64 ww, .int .i64 hh, .agg #[.int .i64 px, .int .i64 py]] w fun e w' =>
      e = .returned (.tuple #[.agg #[.int .i64 0, .int .i64 0, .slice none 0 0], .int .i64 r]) ∧ Below w.heap.size w w' := by
  obtain ⟨W0, hW0⟩ : ∃ W0, (((w.alloc (.cells #[.int .i64 W, .int .i64 H, .slice a n c] 45)).alloc (.cells #[.int .i64 px, .int .i64 py] 67)).alloc (.cells #[.int .i64 0, .int .i64 0, .slice none 0 0] 45)) = W0 := ⟨_, rfl⟩
  have hB0 : Below w.heap.size w W0 := by rw [← hW0]; exact ((((Below.refl _ w).alloc (Nat.le_refl _) _).alloc (by simp) _).alloc (by simp <;> omega) _)
  have hS0 : W0.heap.size = w.heap.size + 3 := by rw [← hW0]; simp
  have b0c0 : W0.cell? ⟨w.heap.size, 0, none⟩ = some (.int .i64 W) := by rw [← hW0]; simp [go_sem]
  have b0c1 : W0.cell? ⟨w.heap.size, 1, none⟩ = some (.int .i64 H) := by rw [← hW0]; simp [go_sem]
  have b0c2 : W0.cell? ⟨w.heap.size, 2, none⟩ = some (.slice a n c) := by rw [← hW0]; simp [go_sem]
  have b1c0 : W0.cell? ⟨w.heap.size + 1, 0, none⟩ = some (.int .i64 px) := by rw [← hW0]; simp [go_sem]
  have b1c1 : W0.cell? ⟨w.heap.size + 1, 1, none⟩ = some (.int .i64 py) := by rw [← hW0]; simp [go_sem]
  have bz0 : W0.heap[w.heap.size + 1 + 1]? = some (.cells #[.int .i64 0, .int .i64 0, .slice none 0 0] 45 (0, 0)) := by rw [← hW0]; have h := blk_alloc_new ((w.alloc (.cells #[.int .i64 W, .int .i64 H, .slice a n c] 45)).alloc (.cells #[.int .i64 px, .int .i64 py] 67)) (.cells #[.int .i64 0, .int .i64 0, .slice none 0 0] 45); simpa using h
  have HC := Lib.hid (hC W0 hB0)
  have HB0 := Lib.hid hB0
  have HZB := Lib.hid bz0
  have HR := Lib.hid hr
  clear hr hC hB0 bz0
  have e0 : (r != 0) = true := by simp [hr0]
  clear hr0
  go_enter Tryz.func30, Tryz.ntmps30
  go_upto_region 1 with fail
  try rw [hW0]
  clear hW0
  go_upto_region 2 with (first
    | ((go_at_call 67; refine HC.out.mono ?_; rintro e w1 ⟨rfl, hb1⟩
        have hs1 := hb1.size))
    | (go_at_call 94; refine (checkSide_any _ _).mono ?_; rintro e w2 ⟨rfl, rfl⟩)
    | ((go_at_call 47; refine (first_any _ 0 3 3 [r1, rangeErr ww 1 64, rangeErr hh 1 64] rfl (by omega) _ ?_).mono ?_; rotate_left 1; rintro e w3 ⟨rfl, rfl⟩; rw [HR.out]; rotate_left 1; (intro j hj; match j, hj with | 0, _ => simp [go_sem] | 1, _ => simp [go_sem] | 2, _ => simp [go_sem]))))
  obtain ⟨W1, hW1⟩ : ∃ W1, w1.alloc (.cells #[.int .i64 r1, .int .i64 (rangeErr ww 1 64), .int .i64 (rangeErr hh 1 64)] 27) = W1 := ⟨_, rfl⟩
  have hb3 : Below W0.heap.size W0 W1 := by rw [← hW1]; exact hb1.alloc hs1 _
  rw [hW1]
  clear hW1 hb1
  have bP := (hb3.block (w.heap.size + 1 + 1) (by omega)).trans HZB.out
  have q0 : W1.frozen? ⟨w.heap.size + 1 + 1, 0, none⟩ = false := by simp [World.frozen?, bP]
  have q1 : W1.frozen? ⟨w.heap.size + 1 + 1, 1, none⟩ = false := by simp [World.frozen?, bP]
  have q2 : W1.frozen? ⟨w.heap.size + 1 + 1, 2, none⟩ = false := by simp [World.frozen?, bP]
  have p0 : W1.cell? ⟨w.heap.size + 1 + 1, 0, none⟩ = some (.int .i64 0) := by rw [cell_of_row W1 _ 0 _ _ (0, 0) bP]; rfl
  have p1 : W1.cell? ⟨w.heap.size + 1 + 1, 1, none⟩ = some (.int .i64 0) := by rw [cell_of_row W1 _ 1 _ _ (0, 0) bP]; rfl
  have p2 : W1.cell? ⟨w.heap.size + 1 + 1, 2, none⟩ = some (.slice none 0 0) := by rw [cell_of_row W1 _ 2 _ _ (0, 0) bP]; rfl
  have HBP := Lib.hid bP
  clear bP
  go_wp2_with fail
  obtain ⟨WF, hWF⟩ : ∃ WF, (((W1.setCell ⟨w.heap.size + 1 + 1, 0, none⟩ (.int .i64 0)).setCell ⟨w.heap.size + 1 + 1, 1, none⟩ (.int .i64 0)).setCell ⟨w.heap.size + 1 + 1, 2, none⟩ (.slice none 0 0)) = WF := ⟨_, rfl⟩
  have rF : WF.heap[w.heap.size + 1 + 1]? = some (.cells #[.int .i64 0, .int .i64 0, .slice none 0 0] 45 (0, 0)) := by rw [← hWF]; exact blk_set3 HBP.out _ _ _
  have bF : Below w.heap.size w WF := by rw [← hWF]; exact below_set3 (HB0.out.trans (hb3.mono (by omega))) (by omega) _ _ _
  rw [hWF]
  exact bodyPost_ret (v := .tuple #[.agg #[.int .i64 0, .int .i64 0, .slice none 0 0], .int .i64 r]) (results_row_tmp Tryz.results30 _ _ (w.heap.size + 1 + 1) 45 _ (0, 0) _ rfl rF Tryz.underlying45 rfl (by kernel_rfl)) rfl ⟨rfl, bF⟩

set_option maxRecDepth 100000 in
set_option maxHeartbeats 6400000 in
theorem placed_span (W H : Int) (a : Option Addr) (n c : Nat) (ww hh px py : Int) (r1 r : Int) (hr : firstNZ [r1, rangeErr ww 1 64, rangeErr hh 1 64] = r) (hr0 : r = 0) (hw : 1 ≤ W ∧ W ≤ 64) (hh' : 1 ≤ H ∧ H ≤ 64) (hww : 1 ≤ ww ∧ ww ≤ 64) (hhh : 1 ≤ hh ∧ hh ≤ 64) (hp : ¬ (0 ≤ px ∧ px ≤ ww - W ∧ 0 ≤ py ∧ py ≤ hh - H)) (w : World)
    (hC : ∀ w1 : World, Below w.heap.size w w1 → Calls Tryz.prog 67 #[.agg #[.int .i64 W, .int .i64 H, .slice a n c]] w1 fun e w' => e = .returned (.int .i64 r1) ∧ Below w1.heap.size w1 w') :
    Calls Tryz.prog 30 #[.agg #[.int .i64 W, .int .i64 H, .slice a n c], .int .i64 ww, .int .i64 hh, .agg #[.int .i64 px, .int .i64 py]] w fun e w' =>
      e = .returned (.tuple #[.agg #[.int .i64 0, .int .i64 0, .slice none 0 0], .int .i64 14]) ∧ Below w.heap.size w w' := by
  obtain ⟨W0, hW0⟩ : ∃ W0, (((w.alloc (.cells #[.int .i64 W, .int .i64 H, .slice a n c] 45)).alloc (.cells #[.int .i64 px, .int .i64 py] 67)).alloc (.cells #[.int .i64 0, .int .i64 0, .slice none 0 0] 45)) = W0 := ⟨_, rfl⟩
  have hB0 : Below w.heap.size w W0 := by rw [← hW0]; exact ((((Below.refl _ w).alloc (Nat.le_refl _) _).alloc (by simp) _).alloc (by simp <;> omega) _)
  have hS0 : W0.heap.size = w.heap.size + 3 := by rw [← hW0]; simp
  have b0c0 : W0.cell? ⟨w.heap.size, 0, none⟩ = some (.int .i64 W) := by rw [← hW0]; simp [go_sem]
  have b0c1 : W0.cell? ⟨w.heap.size, 1, none⟩ = some (.int .i64 H) := by rw [← hW0]; simp [go_sem]
  have b0c2 : W0.cell? ⟨w.heap.size, 2, none⟩ = some (.slice a n c) := by rw [← hW0]; simp [go_sem]
  have b1c0 : W0.cell? ⟨w.heap.size + 1, 0, none⟩ = some (.int .i64 px) := by rw [← hW0]; simp [go_sem]
  have b1c1 : W0.cell? ⟨w.heap.size + 1, 1, none⟩ = some (.int .i64 py) := by rw [← hW0]; simp [go_sem]
  have bz0 : W0.heap[w.heap.size + 1 + 1]? = some (.cells #[.int .i64 0, .int .i64 0, .slice none 0 0] 45 (0, 0)) := by rw [← hW0]; have h := blk_alloc_new ((w.alloc (.cells #[.int .i64 W, .int .i64 H, .slice a n c] 45)).alloc (.cells #[.int .i64 px, .int .i64 py] 67)) (.cells #[.int .i64 0, .int .i64 0, .slice none 0 0] 45); simpa using h
  have HC := Lib.hid (hC W0 hB0)
  have HB0 := Lib.hid hB0
  have HZB := Lib.hid bz0
  have HR := Lib.hid hr
  clear hr hC hB0 bz0
  subst hr0
  go_enter Tryz.func30, Tryz.ntmps30
  go_upto_region 1 with fail
  try rw [hW0]
  clear hW0
  go_upto_region 4 with (first
    | ((go_at_call 67; refine HC.out.mono ?_; rintro e w1 ⟨rfl, hb1⟩
        have hs1 := hb1.size))
    | (go_at_call 94; refine (checkSide_any _ _).mono ?_; rintro e w2 ⟨rfl, rfl⟩)
    | ((go_at_call 47; refine (first_any _ 0 3 3 [r1, rangeErr ww 1 64, rangeErr hh 1 64] rfl (by omega) _ ?_).mono ?_; rotate_left 1; rintro e w3 ⟨rfl, rfl⟩; rw [HR.out]; rotate_left 1; (intro j hj; match j, hj with | 0, _ => simp [go_sem] | 1, _ => simp [go_sem] | 2, _ => simp [go_sem]))))
  obtain ⟨W1, hW1⟩ : ∃ W1, w1.alloc (.cells #[.int .i64 r1, .int .i64 (rangeErr ww 1 64), .int .i64 (rangeErr hh 1 64)] 27) = W1 := ⟨_, rfl⟩
  have hb3 : Below W0.heap.size W0 W1 := by rw [← hW1]; exact hb1.alloc hs1 _
  rw [hW1]
  clear hW1 hb1
  have bP := (hb3.block (w.heap.size + 1 + 1) (by omega)).trans HZB.out
  have q0 : W1.frozen? ⟨w.heap.size + 1 + 1, 0, none⟩ = false := by simp [World.frozen?, bP]
  have q1 : W1.frozen? ⟨w.heap.size + 1 + 1, 1, none⟩ = false := by simp [World.frozen?, bP]
  have q2 : W1.frozen? ⟨w.heap.size + 1 + 1, 2, none⟩ = false := by simp [World.frozen?, bP]
  have p0 : W1.cell? ⟨w.heap.size + 1 + 1, 0, none⟩ = some (.int .i64 0) := by rw [cell_of_row W1 _ 0 _ _ (0, 0) bP]; rfl
  have p1 : W1.cell? ⟨w.heap.size + 1 + 1, 1, none⟩ = some (.int .i64 0) := by rw [cell_of_row W1 _ 1 _ _ (0, 0) bP]; rfl
  have p2 : W1.cell? ⟨w.heap.size + 1 + 1, 2, none⟩ = some (.slice none 0 0) := by rw [cell_of_row W1 _ 2 _ _ (0, 0) bP]; rfl
  have HBP := Lib.hid bP
  clear bP
  have u0 := (hb3.cell (p := ⟨w.heap.size, 0, none⟩) (by show w.heap.size < _; omega)).trans b0c0
  have u1 := (hb3.cell (p := ⟨w.heap.size, 1, none⟩) (by show w.heap.size < _; omega)).trans b0c1
  have u2 := (hb3.cell (p := ⟨w.heap.size + 1, 0, none⟩) (by show w.heap.size + 1 < _; omega)).trans b1c0
  have u3 := (hb3.cell (p := ⟨w.heap.size + 1, 1, none⟩) (by show w.heap.size + 1 < _; omega)).trans b1c1
  by_cases h1 : px < 0
  · go_wp2_with fail
    obtain ⟨WF, hWF⟩ : ∃ WF, (((W1.setCell ⟨w.heap.size + 1 + 1, 0, none⟩ (.int .i64 0)).setCell ⟨w.heap.size + 1 + 1, 1, none⟩ (.int .i64 0)).setCell ⟨w.heap.size + 1 + 1, 2, none⟩ (.slice none 0 0)) = WF := ⟨_, rfl⟩
    have rF : WF.heap[w.heap.size + 1 + 1]? = some (.cells #[.int .i64 0, .int .i64 0, .slice none 0 0] 45 (0, 0)) := by rw [← hWF]; exact blk_set3 HBP.out _ _ _
    have bF : Below w.heap.size w WF := by rw [← hWF]; exact below_set3 (HB0.out.trans (hb3.mono (by omega))) (by omega) _ _ _
    rw [hWF]
    exact bodyPost_ret (v := .tuple #[.agg #[.int .i64 0, .int .i64 0, .slice none 0 0], .int .i64 14]) (results_row_tmp Tryz.results30 _ _ (w.heap.size + 1 + 1) 45 _ (0, 0) _ rfl rF Tryz.underlying45 rfl (by kernel_rfl)) rfl ⟨rfl, bF⟩
  by_cases h2 : ww - W < px
  · go_wp2_with fail
    obtain ⟨WF, hWF⟩ : ∃ WF, (((W1.setCell ⟨w.heap.size + 1 + 1, 0, none⟩ (.int .i64 0)).setCell ⟨w.heap.size + 1 + 1, 1, none⟩ (.int .i64 0)).setCell ⟨w.heap.size + 1 + 1, 2, none⟩ (.slice none 0 0)) = WF := ⟨_, rfl⟩
    have rF : WF.heap[w.heap.size + 1 + 1]? = some (.cells #[.int .i64 0, .int .i64 0, .slice none 0 0] 45 (0, 0)) := by rw [← hWF]; exact blk_set3 HBP.out _ _ _
    have bF : Below w.heap.size w WF := by rw [← hWF]; exact below_set3 (HB0.out.trans (hb3.mono (by omega))) (by omega) _ _ _
    rw [hWF]
    exact bodyPost_ret (v := .tuple #[.agg #[.int .i64 0, .int .i64 0, .slice none 0 0], .int .i64 14]) (results_row_tmp Tryz.results30 _ _ (w.heap.size + 1 + 1) 45 _ (0, 0) _ rfl rF Tryz.underlying45 rfl (by kernel_rfl)) rfl ⟨rfl, bF⟩
  by_cases h3 : py < 0
  · go_wp2_with fail
    obtain ⟨WF, hWF⟩ : ∃ WF, (((W1.setCell ⟨w.heap.size + 1 + 1, 0, none⟩ (.int .i64 0)).setCell ⟨w.heap.size + 1 + 1, 1, none⟩ (.int .i64 0)).setCell ⟨w.heap.size + 1 + 1, 2, none⟩ (.slice none 0 0)) = WF := ⟨_, rfl⟩
    have rF : WF.heap[w.heap.size + 1 + 1]? = some (.cells #[.int .i64 0, .int .i64 0, .slice none 0 0] 45 (0, 0)) := by rw [← hWF]; exact blk_set3 HBP.out _ _ _
    have bF : Below w.heap.size w WF := by rw [← hWF]; exact below_set3 (HB0.out.trans (hb3.mono (by omega))) (by omega) _ _ _
    rw [hWF]
    exact bodyPost_ret (v := .tuple #[.agg #[.int .i64 0, .int .i64 0, .slice none 0 0], .int .i64 14]) (results_row_tmp Tryz.results30 _ _ (w.heap.size + 1 + 1) 45 _ (0, 0) _ rfl rF Tryz.underlying45 rfl (by kernel_rfl)) rfl ⟨rfl, bF⟩
  · have h4 : hh - H < py := by omega
    go_wp2_with fail
    obtain ⟨WF, hWF⟩ : ∃ WF, (((W1.setCell ⟨w.heap.size + 1 + 1, 0, none⟩ (.int .i64 0)).setCell ⟨w.heap.size + 1 + 1, 1, none⟩ (.int .i64 0)).setCell ⟨w.heap.size + 1 + 1, 2, none⟩ (.slice none 0 0)) = WF := ⟨_, rfl⟩
    have rF : WF.heap[w.heap.size + 1 + 1]? = some (.cells #[.int .i64 0, .int .i64 0, .slice none 0 0] 45 (0, 0)) := by rw [← hWF]; exact blk_set3 HBP.out _ _ _
    have bF : Below w.heap.size w WF := by rw [← hWF]; exact below_set3 (HB0.out.trans (hb3.mono (by omega))) (by omega) _ _ _
    rw [hWF]
    exact bodyPost_ret (v := .tuple #[.agg #[.int .i64 0, .int .i64 0, .slice none 0 0], .int .i64 14]) (results_row_tmp Tryz.results30 _ _ (w.heap.size + 1 + 1) 45 _ (0, 0) _ rfl rF Tryz.underlying45 rfl (by kernel_rfl)) rfl ⟨rfl, bF⟩
end Go.Proofs.YthfiilfekofimaaGreatDoor
