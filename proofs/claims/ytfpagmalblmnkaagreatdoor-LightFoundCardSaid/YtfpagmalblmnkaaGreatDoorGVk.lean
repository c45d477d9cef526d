/-
  The walk of awake, chapter 1's fixed examples: the whole of it.
-/
import Derived.Test.YtfpagmalblmnkaaGreatDoorGVj
import Derived.Deep.CutBlock
import Derived.Deep.DeepCutAuto
import Derived.Test.YtfpagmalblmnkaaGreatDoorGFi
import Derived.Test.YtfpagmalblmnkaaGreatDoorGLm
import Derived.Test.YtfpagmalblmnkaaGreatDoorGXg
import Derived.Laws.StructEq
import Derived.Test.YtfpagmalblmnkaaGreatDoorGWq
namespace Go.Proofs.YtfpagmalblmnkaaGreatDoor
open Go.RowKit Go.Shelf
set_option linter.unusedVariables false
set_option linter.unusedSimpArgs false

set_option maxRecDepth 1000000 in
set_option maxHeartbeats 12800000 in
theorem awk19 (w : World) : Awk19 w := by
  unfold Awk19
  intro wx B16 B18 B20 B22 B24 B26 B28 a32 c32 u1 u2 u3 u4 u5 u6 u7 u8 u9 u10 u11 u12 u13 u14 u15 u34 u35 u36 u37 u38 u39 u40 u41 u42 u43 u44 u45 u46 u47 u48 u49 u50 u51 u52 u53 u54 u55 u56 u57 u58 u59 u60 u61 u62 u63 u64 u65 u66 u67 u68 u69 u70 u71 u72 u73 u74 u75 u76 u77 u78 u79 u80 u81 u82 u83 u84 u85 u86 u87 u88 u89 u90 u91 u92 u93 u94 u95 u96 u97 u98 u99 u100 u101 u102 u103 u104 u105 u106 u107 u108 u109 u110 u111 u112 u113 u114 u115 u116 u117 u118 u119 u120 u121 u122 u123 u124 u125 u126 u127 u128 u129 u130 u131 u132 u133 u134 u135 u136 u137 u138 u139 u140 u141 u142 u143 u144 u145 u146 u147 u148 u149 u150 u151 u152 u153 u154 u155 u156 u157 u158 u159 u160 u161 u162 u163 u164 u165 u166 u167 u168 u169 u170 u171 u172 u173 u174 u175 u176 u177 u178 u179 u180 u181 u182 u183 u184 u185 u186 u187 u188 u189 u190 u191 u192 u193 u194 u195 u196 u197 u198 u199 u200 u201 u202 u203 u204 u205 u206 u207 u208 u209 u210 u211 u212 u213 u214 u215 u216 u217 u218 u219 u220 u221 u222 u223 u224 u225 u226 u227 u228 u229 u230 u231 u232 u233 u234 u235 u236 u237 u238 u239 u240 u241 u242 u243 u244 u245 u246 u247 u248 u249 u250 u251 u252 u253 u254 u255 u256 hB f16 f18 f20 f22 f24 f26 f28
  conv => arg 2; whnf
  dsimp only
  have K := Lib.hid (draw_lit wx)
  go_wp2_with (go_at_call 63; refine K.out.mono ?_; rintro e w1 ⟨gd, cd, rfl, hgd, hcd, hb1⟩)
  replace f16 := f16.kept hb1
  replace f18 := f18.kept hb1
  replace f20 := f20.kept hb1
  replace f22 := f22.kept hb1
  replace f24 := f24.kept hb1
  replace f26 := f26.kept hb1
  replace f28 := f28.kept hb1
  obtain ⟨g16, b16, h16⟩ := f16
  obtain ⟨g18, b18, h18⟩ := f18
  obtain ⟨g20, b20, h20⟩ := f20
  obtain ⟨g22, b22, h22⟩ := f22
  have hmix : Tryz.prog.follows Departure.mixedOrders = true := by kernel_rfl
  refine (wpIn_wide (n := 6)).1 ?_
  refine wpIn_region_heldI (S20 w1) hmix ?_
  change wpAnyHIn _ _ _ _ _ _ _ 72 _ _ w1.drew
  have hBw := hB.trans (hb1.mono hB.size)
  refine r20a _ (fun c a d v w h => by cases d <;> exact h) w1 _ (Below.refl w1.heap.size w1).drew a32 c32 B16 g16 b16 h16 B18 g18 b18 h18 B20 g20 b20 h20 B22 g22 b22 h22 B24 f24 B26 f26 B28 f28 gd cd hgd hcd ?_ _ (by kernel_rfl) _ _ _ _ _ _ _ _ _ _ _ _ _ _ _ _ _ _ _ _ _ _ _ _ _ _ _ _ _ _ _ _ _ _ _ _ _ _ _ _ _ _ _ _ _ _ _ _ _ _ _ _ _ _ _ _ _ _ _ _ _ _ _ _ _ _ _ _ _ _ _ _ _ _ _ _ _ _ _ _ _ _ _ _ _ _ _ _ _ _ _ _ _ _ _ _ _ _ _ _ _ _ _ _ _ _ _ _ _ _ _ _ _ _ _ _ _ _ _ _ _ _ _ _ _ _ _ _ _ _ _ _ _ _ _ _ _ _ _ _ _ _ _ _ _ _ _ _ _ _ _ _ _ _ _ _ _ _ _ _ _ _ _ _ _ _ _ _ _ _ _ _ _ _ _ _ _ _ _ _ _ _ _ _ _ _ _ _ _ _ _ _ _ _ _ _ _ _ _ _ _ _ _ _ _ _ _ _ _ _ _ _ _ _ _ _ _ _ _ _ _ _ _ _ _ _ _ _ _ _ _ _ _ _ _ _ _
  unfold End20
  intro V v1 v2 v3 v4 v5 v6 v7 v8 v9 v10 v11 v12 v13 v14 v15 v16 v17 v18 v19 v20 v21 v22 v23 v24 v25 v26 v27 v28 v29 v30 v31 v32 v33 v34 v35 v36 v37 v38 v39 v40 v41 v42 v43 v44 v45 v46 v47 v48 v49 v50 v51 v52 v53 v54 v55 v56 v57 v58 v59 v60 v61 v62 v63 v64 v65 v66 v67 v68 v69 v70 v71 v72 v73 v74 v75 v76 v77 v78 v79 v80 v81 v82 v83 v84 v85 v86 v87 v88 v89 v90 v91 v92 v93 v94 v95 v96 v97 v98 v99 v100 v101 v102 v103 v104 v105 v106 v107 v108 v109 v110 v111 v112 v113 v114 v115 v116 v117 v118 v119 v120 v121 v122 v123 v124 v125 v126 v127 v128 v129 v130 v131 v132 v133 v134 v135 v136 v137 v138 v139 v140 v141 v142 v143 v144 v145 v146 v147 v148 v149 v150 v151 v152 v153 v154 v155 v156 v157 v158 v159 v160 v161 v162 v163 v164 v165 v166 v167 v168 v169 v170 v171 v172 v173 v174 v175 v176 v177 v178 v179 v180 v181 v182 v183 v184 v185 v186 v187 v188 v189 v190 v191 v192 v193 v194 v195 v196 v197 v198 v199 v200 v201 v202 v203 v204 v205 v206 v207 v208 v209 v210 v211 v212 v213 v214 v215 v216 v217 v218 v219 v220 v221 v222 v223 v224 v225 v226 v227 v228 v229 v230 v231 v232 v233 v234 v235 v236 v237 v238 v239 v240 v241 v242 v243 v244 v245 v246 v247 v248 v249 v250 v251 v252 v253 v254 v255 v256 hV
  go_wp2
  go_ret
  exact ⟨rfl, hBw.trans (hV.mono hBw.size)⟩

theorem awk1_any (w : World) (ht : TabAt w) : Awk1 w :=
  awk1 w (awk2 w (awk3 w (awk4 w (awk5 w (awk6 w (awk7 w (awk8 w (awk10 w (awk11 w (awk12 w (awk13 w (awk14 w (awk15 w (awk16 w (awk17 w ht (awk18 w (awk19 w)))))))))))))))))

set_option maxRecDepth 1000000 in
set_option maxHeartbeats 12800000 in
/-- The fixed examples of chapter 1 hold. -/
theorem awake_any (w : World) (ht : TabAt w) : Calls Tryz.prog 14 #[] w fun e w' => e = .returned (.bool true) ∧ Below w.heap.size w w' := by
  have hT := awk1_any w ht
  show Calls Tryz.prog 14 #[] w (TruePost w)
  go_enter Tryz.func14, Tryz.ntmps14
  go_upto_region 0 with fail
  go_cut [0] (fun s0 wr => s0 = .bool false ∧ wr = w)
  case first =>
    go_wp2_with fail
    go_meet
    exact ⟨rfl, rfl⟩
  case rest =>
    rename_i hK
    obtain ⟨rfl, rfl⟩ := hcut
    refine hK _ _ ?_
    clear hK
    unfold Awk1 at hT
    exact hT _ _ _ _ _ _ _ _ _ _ _ _ _ _ _ _ _ _ _ _ _ _ _ _ _ _ _ _ _ _ _ _ _ _ _ _ _ _ _ _ _ _ _ _ _ _ _ _ _ _ _ _ _ _ _ _ _ _ _ _ _ _ _ _ _ _ _ _ _ _ _ _ _ _ _ _ _ _ _ _ _ _ _ _ _ _ _ _ _ _ _ _ _ _ _ _ _ _ _ _ _ _ _ _ _ _ _ _ _ _ _ _ _ _ _ _ _ _ _ _ _ _ _ _ _ _ _ _ _ _ _ _ _ _ _ _ _ _ _ _ _ _ _ _ _ _ _ _ _ _ _ _ _ _ _ _ _ _ _ _ _ _ _ _ _ _ _ _ _ _ _ _ _ _ _ _ _ _ _ _ _ _ _ _ _ _ _ _ _ _ _ _ _ _ _ _ _ _ _ _ _ _ _ _ _ _ _ _ _ _ _ _ _ _ _ _ _ _ _ _ _ _ _ _ _ _ _ _ _ _ _ _ _ _ _ _ _ _ _ _ _ _ _ _ _ _ _ _ _ _ _ _ _ _ _ _ _ (Below.refl _ _)

end Go.Proofs.YtfpagmalblmnkaaGreatDoor

/-
  LightFound: its walk from the counters that are lost on.
-/
namespace Go.Proofs.YtfpagmalblmnkaaGreatDoor
open Go.RowKit Go.Shelf
set_option linter.unusedVariables false
set_option linter.unusedSimpArgs false

noncomputable def cutF (n : Nat) : Code := ((Tryz.f6.body.bind (tailC n)).getD .skip)

section
variable {P : Program} {w : World}
theorem step_append_none {ops : Array Oper} {o : Oper} {a : Act} {K : Act → World → Prop} {Q : Exit → Act → World → Prop} {E : Prop} (hgd : o.guard = none) (s x : Operand) (t : TypeId)
    (ho : o.op = .call { callee := .builtin .append, args := #[s, x], argTypes := #[t, t] })
    (base : Nat) (e : TypeId) (i : TypeInfo) (size : Nat) (ht : P.underlying t = some (.slice e)) (hi : P.info? e = some i)
    (v : Value) (n : Nat) (xs : List Value) (hs : a.eval s = v) (hown : w.ownsRow base e size v n xs) (hx : a.eval x = .slice none 0 0)
    (h : K (a.put o.dst v) w) :
    if Region.wanted o (yielded ops a.tmps) = true then Oper.wp P o a w K Q else E := by
  have hw : Region.wanted o (yielded ops a.tmps) = true := by simp [Region.wanted, hgd]
  rw [if_pos hw]
  have hrun := run_append_owned_none (P := P) (w := w) base t o.type e i size ht hi v n xs hown
  unfold Oper.wp
  simp [execOp, ho, resolve, invoke, builtin, hs, hx, hrun, Result.andThen]
  exact h
theorem step_append_own {ops : Array Oper} {o : Oper} {a : Act} {K : Act → World → Prop} {Q : Exit → Act → World → Prop} {E : Prop} (hgd : o.guard = none) (s x : Operand) (t : TypeId)
    (ho : o.op = .call { callee := .builtin .append, args := #[s, x], argTypes := #[t, t] })
    (base : Nat) (e : TypeId) (i : TypeInfo) (z : Value) (size bytes : Nat) (ht : P.underlying t = some (.slice e)) (hi : P.info? e = some i) (hz : i.zero = some z)
    (hsize : i.size = size) (hby : i.bytes = bytes) (hzs : z.cells.size = size) (hsz : 0 < size)
    (v : Value) (n : Nat) (xs : List Value) (hs : a.eval s = v) (hown : w.ownsRow base e size v n xs)
    (ad : Addr) (m c : Nat) (news : List Value) (hx : a.eval x = .slice (some ad) m c) (hl : news.length = m * size) (hnews : ∀ j u, news[j]? = some u → w.cell? (ad.add j) = some u) (h1 : ∀ u ∈ news, u.oneCell' = true)
    (h63 : n + m ≤ maxLen) (hbytes : (n + m) * bytes ≤ 140737488355328) (hbase : base ≤ w.heap.size)
    (h : ∀ v' w', w'.ownsRow base e size v' (n + m) (xs ++ news) → w.grownBy w' v.ownBlock → K (a.put o.dst v') w') :
    if Region.wanted o (yielded ops a.tmps) = true then Oper.wp P o a w K Q else E := by
  have hw : Region.wanted o (yielded ops a.tmps) = true := by simp [Region.wanted, hgd]
  rw [if_pos hw]
  obtain ⟨v', w', hr, h2, h3, _, _⟩ := run_append_own_at (P := P) w base t o.type e i z size bytes ht hi hz hsize hby hzs hsz v n xs hown ad m c news hl hnews h1 h63 hbytes hbase
  unfold Oper.wp execOp
  simp only [ho, resolve, invoke, builtin, Sem.run_bind, Sem.run_pure, Result.andThen_ok, List.map_toArray, List.map_cons, List.map_nil, hs, hx, hr]
  exact h v' w' h2 h3
end

theorem one_val (t : Tel) : ∀ u ∈ t.val, u.oneCell' = true := by
  intro u hu; simp [Tel.val] at hu; rcases hu with rfl | rfl | rfl | rfl | rfl | rfl <;> rfl
theorem one_vals (L : List Tel) : ∀ u ∈ L.flatMap Tel.val, u.oneCell' = true := by
  intro u hu
  obtain ⟨t, _, ht⟩ := List.mem_flatMap.1 hu
  exact one_val t u ht
theorem vals_len (L : List Tel) : (L.flatMap Tel.val).length = L.length * 6 := by
  induction L with
  | nil => rfl
  | cons t L ih => rw [List.flatMap_cons, List.length_append, ih, List.length_cons, Tel.val_len]; omega

/-- The cells of telegrams, one behind the other. -/
theorem AnyTels.flat {w w' : World} {ad : Addr} {n : Nat} {L : List Tel} (h : AnyTels w (some ad) n L) (hb : Below w.heap.size w w') : ∀ j u, (L.flatMap Tel.val)[j]? = some u → w'.cell? (ad.add j) = some u := by
  intro j u hu
  have hj : j < L.length * 6 := by have := (List.getElem?_eq_some_iff.1 hu).1; rwa [vals_len] at this
  have hk : j / 6 < L.length := (Nat.div_lt_iff_lt_mul (by omega)).2 hj
  obtain ⟨b, q, e, hlt, hc⟩ := h.2 0 (by have := h.1; omega)
  cases e
  have hr : j % 6 < 6 := Nat.mod_lt _ (by omega)
  obtain ⟨v, hv⟩ : ∃ v, (L[j / 6]?.getD tel0).val[j % 6]? = some v := ⟨_, List.getElem?_eq_getElem (by rw [Tel.val_len]; exact hr)⟩
  have e1 := flat_val_at L (j / 6) (j % 6) v hk hv
  rw [show 6 * (j / 6) + j % 6 = j from Nat.div_add_mod j 6, hu] at e1
  obtain rfl := Option.some.inj e1
  have e2 := hc (j / 6) hk (j % 6) u hv
  rw [Addr.add_mid, hb.cell (p := ⟨b, q + j, none⟩) hlt]
  rw [show q + j / 6 * 6 + j % 6 = q + j by have := Nat.div_add_mod j 6; omega] at e2
  exact e2

/-- The telegrams that are sent: of one station, with ascending counters, in their ranges. -/
structure SentL (m : Nat) (n1 : Int) (ts : List Tel) : Prop where
  len : ts.length = m
  good : ∀ t ∈ ts, t.Good
  st : ∀ t ∈ ts, t.s = n1
  ct : ∀ i, i < m → (ts[i]?.getD tel0).c = ctr i
/-- All of them but one. -/
def cutL (m k : Nat) (ts : List Tel) : List Tel := (keptI m k).map fun i => ts[i]?.getD tel0
theorem keptI_lt {m k i : Nat} (h : i ∈ keptI m k) : i < m := by
  unfold keptI at h
  exact List.mem_range.1 (List.mem_filter.1 h).1
theorem SentL.mem {m : Nat} {n1 : Int} {ts : List Tel} (h : SentL m n1 ts) {i : Nat} (hi : i < m) : ts[i]?.getD tel0 ∈ ts := by
  rw [List.getElem?_eq_getElem (by rw [h.len]; exact hi)]; exact List.getElem_mem _
theorem SentL.cut_mem {m k : Nat} {n1 : Int} {ts : List Tel} (h : SentL m n1 ts) : ∀ t ∈ cutL m k ts, t ∈ ts := by
  intro t ht
  obtain ⟨i, hi, rfl⟩ := List.mem_map.1 ht
  exact h.mem (keptI_lt hi)
theorem SentL.counts {m k : Nat} {n1 : Int} {ts : List Tel} (h : SentL m n1 ts) : countsOf (cutL m k ts) n1 = (keptI m k).map ctr := by
  unfold countsOf
  rw [List.filter_eq_self.2 (fun t ht => by rw [h.st t (h.cut_mem t ht)]; simp)]
  unfold cutL
  rw [List.map_map]
  exact List.map_congr_left fun i hi => h.ct i (keptI_lt hi)
theorem SentL.lost {m k : Nat} {n1 : Int} {ts : List Tel} (h : SentL m n1 ts) (hm : m < 9) (hk : k < m) (hn : 0 ≤ n1 ∧ n1 ≤ 255) : lostErr (cutL m k ts) n1 = 0 ∧ lostN (cutL m k ts) n1 = (gapOf m k).length ∧ lostL (cutL m k ts) n1 = gapOf m k ∧ (cutL m k ts).length = m - 1 := by
  have hg := lost_gap m hm k hk
  have e1 : lostL (cutL m k ts) n1 = gapOf m k := by unfold lostL; rw [h.counts]; exact hg.1
  have e2 : argErr (cutL m k ts) n1 = 0 := by
    unfold argErr
    have e3 : telsErr (cutL m k ts) = 0 := by
      unfold telsErr
      refine firstNZ_zeros fun x hx => ?_
      obtain ⟨t, ht, rfl⟩ := List.mem_map.1 hx
      exact telErr_good (h.good t (h.cut_mem t ht))
    rw [e3, rangeErr_in hn.1 hn.2]; rfl
  have e4 : (gapOf m k).length ≤ 1 := by unfold gapOf; split <;> simp
  have e5 : lostErr (cutL m k ts) n1 = 0 := by
    unfold lostErr; rw [if_neg (by simp [e2]), e1, if_neg (by omega)]
  refine ⟨e5, ?_, e1, by unfold cutL; rw [List.length_map]; exact hg.2⟩
  unfold lostN; rw [if_pos e5, e1]

set_option maxRecDepth 1000000 in
set_option maxHeartbeats 25600000 in
theorem found43 (w : World) (m k : Nat) (hm : m < 9) (hk : k < m) (n0 n1 n2 n3 : Int) (hn : 0 ≤ n1 ∧ n1 ≤ 255) (Bn : Nat) (ts : List Tel) (hS : SentL m n1 ts) (g13 c13 : Nat) (a28 : Option Addr) (nc c28 : Nat) (hnc : (cutL m k ts).length = nc) (wr : World) (ht : TabAt w) (u0 u1 u2 u3 u4 u6 u7 u8 u9 u10 u11 u14 u15 u16 u17 u18 u19 u20 u21 u22 u23 u24 u25 u26 u27 u29 u30 u31 u32 u33 u34 u35 u36 u37 u38 u39 u40 u41 u42 u43 u44 u45 u46 u47 u48 u49 u50 u51 u52 u53 u54 u55 u56 u57 u58 u59 u60 u61 u62 u63 u64 u65 u66 u67 u68 u69 u70 u71 u72 u73 u74 u75 u76 u77 u78 u79 u80 u81 u82 u83 u84 u85 u86 u87 u88 u89 u90 u91 u92 u93 u94 u95 u96 u97 u98 u99 u100 u101 u102 u103 u104 u105 u106 u107 u108 u109 u110 u111 u112 u113 u114 u115 u116 u117 u118 u119 u120 u121 u122 u123 u124 u125 u126 u127 u128 u129 u130 u131 u132 u133 u134 u135 u136 u137 u138 u139 u140 u141 u142 u143 u144 u145 u146 u147 u148 u149 u150 u151 u152 u153 u154 u155 u156 u157 u158 u159 u160 u161 u162 u163 u164 u165 u166 u167 u168 u169 u170 u171 u172 u173 u174 u175 u176 u177 u178 u179 u180 u181 u182 u183 u184 u185 u186 u187 u188 u189 u190 u191 u192 u193 u194 u195 u196 u197 u198 u199 u200 u201 u202 u203 u204 u205 u206 u207 u208 u209 u210 u211 u212 u213 u214 u215 u216 u217 u218 u219 u220 u221 u222 u223 u224 u225 u226 u227 u228 u229 u230 u231 u232 u233 u234 u235 u236 u237 u238 u239 u240 u241 u242 u243 u244 u245 u246 u247 u248 u249 u250 u251 u252 u253 u254 u255 u256 u257 u258 u259 u260 u261 u262 u263 u264 u265 u266 u267 u268 u269 u270 : Value)
    (hKp : Kp w wr [(Bn, (.cells #[.int .u8 n0, .int .u8 n1, .int .u8 n2, .int .u8 n3] 72 (0, 0)))]) (hT : AnyTels wr (some ⟨g13, 0, none⟩) m ts) (hC : AnyTels wr a28 nc (cutL m k ts)) (hnil : a28 = none → nc = 0 ∧ c28 = 0) :
    Code.wp Tryz.prog (cutF 43) (bodyPost Tryz.prog Tryz.f6 (TruePost w)) ⟨#[u0, u1, u2, u3, u4, .pointer (some ⟨Bn, 0, none⟩), u6, u7, u8, u9, u10, u11, .int .i64 (k : Nat), .slice (some ⟨g13, 0, none⟩) m c13, u14, u15, u16, u17, u18, u19, u20, u21, u22, u23, u24, u25, u26, u27, .slice a28 nc c28, u29, u30, u31, u32, u33, u34, u35, u36, u37, u38, u39, u40, u41, u42, u43, u44, u45, u46, u47, u48, u49, u50, u51, u52, u53, u54, u55, u56, u57, u58, u59, u60, u61, u62, u63, u64, u65, u66, u67, u68, u69, u70, u71, u72, u73, u74, u75, u76, u77, u78, u79, u80, u81, u82, u83, u84, u85, u86, u87, u88, u89, u90, u91, u92, u93, u94, u95, u96, u97, u98, u99, u100, u101, u102, u103, u104, u105, u106, u107, u108, u109, u110, u111, u112, u113, u114, u115, u116, u117, u118, u119, u120, u121, u122, u123, u124, u125, u126, u127, u128, u129, u130, u131, u132, u133, u134, u135, u136, u137, u138, u139, u140, u141, u142, u143, u144, u145, u146, u147, u148, u149, u150, u151, u152, u153, u154, u155, u156, u157, u158, u159, u160, u161, u162, u163, u164, u165, u166, u167, u168, u169, u170, u171, u172, u173, u174, u175, u176, u177, u178, u179, u180, u181, u182, u183, u184, u185, u186, u187, u188, u189, u190, u191, u192, u193, u194, u195, u196, u197, u198, u199, u200, u201, u202, u203, u204, u205, u206, u207, u208, u209, u210, u211, u212, u213, u214, u215, u216, u217, u218, u219, u220, u221, u222, u223, u224, u225, u226, u227, u228, u229, u230, u231, u232, u233, u234, u235, u236, u237, u238, u239, u240, u241, u242, u243, u244, u245, u246, u247, u248, u249, u250, u251, u252, u253, u254, u255, u256, u257, u258, u259, u260, u261, u262, u263, u264, u265, u266, u267, u268, u269, u270], []⟩ wr := by
  conv => arg 2; whnf
  dsimp only
  obtain ⟨i0, hi, hz0, hz1, hz2⟩ := info_parts Tryz.infoTel
  obtain ⟨i1, hj, hy0, hy1, hy2⟩ := info_parts Tryz.infoInt
  have KW : Hid (∀ w1 : World, Below w.heap.size w w1 → Calls Tryz.prog 14 #[] w1 fun e w' => e = .returned (.bool true) ∧ Below w.heap.size w w') :=
    Lib.hid fun w1 h => (awake_any w1 (ht.on h)).mono fun e w' ⟨he, hb⟩ => ⟨he, h.trans (hb.mono h.size)⟩
  obtain ⟨l1, l2, l3, l4⟩ := hS.lost hm hk hn
  have hct := hS.ct k hk
  obtain ⟨G, hG⟩ : ∃ G, gapOf m k = G := ⟨_, rfl⟩
  have hG1 : G.length ≤ 1 := by rw [← hG]; unfold gapOf; split <;> simp
  rw [hG] at l2 l3
  obtain ⟨cs, hcs⟩ : ∃ cs, cutL m k ts = cs := ⟨_, rfl⟩
  rw [hcs] at l1 l2 l3 l4 hC hnc
  have hnc9 : nc < 9 := by omega
  have KL : Hid (∀ (w1 : World) (a' : Option Addr) (c' : Nat), AnyTels w1 a' nc cs → Calls Tryz.prog 36 #[.slice a' nc c', .int .i64 n1] w1 fun e w' => ∃ v, e = .returned (.tuple #[v, .int .i64 0]) ∧ IntsV w' v G.length G ∧ Below w1.heap.size w1 w') := Lib.hid fun w1 a' c' h1 => by
    have k1 := lost_all cs a' nc c' n1 (by omega) w1 h1
    rw [l1, l2, l3] at k1
    exact k1
  have wn : IntKind.i64.wrap n1 = n1 := IntWalk.i64_in _ ⟨by omega, by omega⟩
  have HK := Lib.hid hKp
  have HT := Lib.hid hT
  have HC := Lib.hid hC
  have HGP := Lib.hid hG
  have HCT := Lib.hid hct
  have HTL := Lib.hid hS.len
  have HCL := Lib.hid hnc
  clear hKp hT hC hS hG hct hn hcs l1 l2 l3 l4 ht hnc
  obtain ⟨b0, b1, b2, b3⟩ := cells4 (HK.out.2 _ (.head _))
  have lb := lt_of_blk (HK.out.2 _ (.head _))
  go_upto_region 43 with fail
  go_cut [33, 34] (fun s33 s34 wc => IntsV wc s33 G.length G ∧ s34 = .int .i64 0 ∧ Below wr.heap.size wr wc)
  case first =>
    have hBw : Blw wr.heap.size wr wr := show Below _ _ _ from Below.refl _ _
    have hBd : Blw wr.heap.size wr wr.drew := show Below _ _ _ from (Below.refl wr.heap.size wr).drew
    have hBa : Blw wr.heap.size wr (wr.alloc (.cells #[] 79)).drew := show Below _ _ _ from ((Below.refl wr.heap.size wr).alloc (Nat.le_refl _) _).drew
    have hC0 : (wr.alloc (.cells #[] 79)).drew.ownsRow wr.heap.size 79 6 (.slice (some ⟨wr.heap.size, 0, none⟩) 0 0) 0 [] := by
      have h := World.ownsRow_made (base := wr.heap.size) (e := 79) (size := 6) wr #[] 0 (by simp) (by unfold maxLen; omega) rfl
      simpa using h.drew
    have HC0 := Lib.hid hC0
    clear hC0
    cases a28 with
    | none =>
      obtain ⟨rfl, rfl⟩ := hnil rfl
      have hAB : AnyTels (wr.alloc (.cells #[] 79)).drew (some ⟨wr.heap.size, 0, none⟩) 0 cs := ⟨HCL.out, fun j hj => absurd hj (Nat.not_lt_zero j)⟩
      have HAB := Lib.hid hAB
      clear hAB HT HC
      go_region_held3 (fun w' => w'.cell? ⟨Bn, 1, none⟩ = some (.int .u8 n1) ∧ Blw wr.heap.size wr w')
        (first
          | (go_split_ands; refine ⟨?_, ?_⟩ <;> with_reducible assumption)
          | (go_split_ands; refine ⟨?_, ?_⟩ <;> first | (with_reducible assumption) | (rw [Below.cell (w := wr) (by assumption : Blw wr.heap.size wr _) (by assumption)]; assumption))
          | (go_keep; done))
        (first
          | (refine step_append_none (by rfl) (.tmp 235) (.tmp 236) 73 (by rfl) wr.heap.size 79 i0 6 Tryz.underlying73 hi (.slice (some ⟨wr.heap.size, 0, none⟩) 0 0) 0 [] (by rfl) HC0.out (by rfl) ?_)
          | (go_at_call 36; refine (KL.out _ _ _ HAB.out).mono ?_; rintro e w7 ⟨v7, rfl, hv7, hb7⟩; have hb8 : Blw wr.heap.size wr w7 := Below.trans hBa (Below.mono hb7 (Below.size hBa))))
      all_goals
        go_wp2_with fail
        go_meet
        exact ⟨hv7, rfl, hb8⟩
    | some ad =>
      have hln : (cs.flatMap Tel.val).length = nc * 6 := by rw [vals_len, HCL.out]
      have hnw := AnyTels.flat HC.out (hBa : Below wr.heap.size wr _)
      have HLN := Lib.hid hln
      have HNW := Lib.hid hnw
      clear hln hnw HT HC
      go_region_held3 (fun w' => w'.cell? ⟨Bn, 1, none⟩ = some (.int .u8 n1) ∧ Blw wr.heap.size wr w')
        (first
          | (go_split_ands; refine ⟨?_, ?_⟩ <;> with_reducible assumption)
          | (go_split_ands; refine ⟨?_, ?_⟩ <;> first | (with_reducible assumption) | (rw [Below.cell (w := wr) (by assumption : Blw wr.heap.size wr _) (by assumption)]; assumption))
          | (go_keep; done))
        (first
          | (refine step_append_own (by rfl) (.tmp 235) (.tmp 236) 73 (by rfl) wr.heap.size 79 i0 (.agg #[.int .i64 0, .int .i64 0, .int .i64 0, .int .i64 0, .int .i64 0, .int .i64 0]) 6 48 Tryz.underlying73 hi hz0 hz1 hz2 (by rfl) (by omega) (.slice (some ⟨wr.heap.size, 0, none⟩) 0 0) 0 [] (by rfl) HC0.out ad nc c28 (cs.flatMap Tel.val) (by rfl) HLN.out HNW.out (one_vals cs) (by unfold maxLen; omega) (by omega) (by simp) ?_; intro v6 w6 hO6 hG6;
             have hb6 : Blw wr.heap.size wr w6 := show Below _ _ _ from Below.grown hBa hG6 (by simp) (fun q hq => by cases hq; exact Nat.le_refl _);
             rw [Nat.zero_add, List.nil_append] at hO6;
             obtain ⟨a6, c6, rfl, hA6⟩ := AnyTels.of_row HCL.out hO6)
          | (go_at_call 36; refine (KL.out _ _ _ hA6).mono ?_; rintro e w7 ⟨v7, rfl, hv7, hb7⟩; have hb8 : Blw wr.heap.size wr w7 := Below.trans hb6 (Below.mono hb7 (Below.size hb6))))
      all_goals
        go_wp2_with fail
        go_meet
        exact ⟨hv7, rfl, hb8⟩
  case rest =>
    rename_i hK
    obtain ⟨⟨av, cv, rfl, hv⟩, rfl, hb⟩ := hcut
    refine hK _ _ ?_
    clear hK
    have K1 := Lib.hid (HK.out.call hb)
    have T1 := Lib.hid (HT.out.kept hb)
    have HV := Lib.hid hv
    clear hb hv KL HK HT HC HCL b0 b1 b2 b3 lb
    have wm : IntKind.i64.wrap ((m : Int) - 1) = (m : Int) - 1 := IntWalk.i64_in _ ⟨by omega, by omega⟩
    by_cases hg : 0 < k ∧ k + 1 < m
    · obtain rfl : G = [ctr k] := by rw [← HGP.out]; unfold gapOf; rw [if_pos hg]
      have g1 : (0 : Int) < (k : Int) := by omega
      have g2 : (k : Int) < (m : Int) - 1 := by omega
      have g3 : (k : Int) < (m : Int) := by omega
      obtain ⟨b', q', e', lt', tc⟩ := T1.out.2 k hk
      cases e'
      have hc := tc k (by rw [HTL.out]; exact hk) 1 (.int .i64 (ctr k)) (by rw [← HCT.out]; rfl)
      have hc1 : wc.cell? ⟨g13, k * 6 + 1, none⟩ = some (.int .i64 (ctr k)) := by rw [← hc]; simp
      have hN0 : (wc.alloc (.cells #[.int .i64 (ctr k)] 3)).ownsRow w.heap.size 3 1 (.slice none 0 0) 0 [] := ⟨rfl, .inl ⟨rfl, rfl⟩⟩
      have hsz := K1.out.1.size
      have hB1 : Below wc.heap.size wc (wc.alloc (.cells #[.int .i64 (ctr k)] 3)) := (Below.refl _ _).alloc (Nat.le_refl _) _
      clear tc hc
      go_wp2_with (first
        | (at_builtin; refine wpList_append_own _ rfl (.tmp 253) (.tmp 259) 91 rfl w.heap.size 3 i1 (.int .i64 0) 1 8 Tryz.underlying91 hj hy0 hy1 hy2 rfl (by decide) _ 0 [] rfl hN0 ⟨wc.heap.size, 0, none⟩ 1 1 [.int .i64 (ctr k)] rfl rfl (cell_one_new _ _ _) (by intro u hu; simp at hu; subst hu; rfl) (by unfold maxLen; omega) (by omega) (by simp; omega) ?_; intro v' w3 hown3 hgrow3 _; (obtain ⟨gw, cw, rfl, _, _⟩ := owns_some hown3 (by omega));
           have hb3 : Below wc.heap.size wc w3 := hB1.grown hgrow3 (by simp) (fun q hq => by cases hq))
        | (go_at_call 37; refine (sameInts_any av (some ⟨gw, 0, none⟩) 1 cv cw [ctr k] (by decide) (fun j hj => ?_) (fun j hj => ⟨gw, 0, rfl, ?_, ?_⟩)).mono ?_; rotate_left 3; rintro e w4 ⟨rfl, hb4⟩;
           have hb5 : Below w.heap.size w w4 := K1.out.1.trans (Below.mono (Below.trans hb3 (Below.mono hb4 hb3.size)) hsz))
        | (go_at_call 14; refine (KW.out _ hb5).mono ?_; rintro e w16 ⟨rfl, hb16⟩))
      · go_ret
        exact ⟨rfl, hb16⟩
      · obtain ⟨b2, o2, e2, l2, c2⟩ := HV.out j hj
        have hbx : Below wc.heap.size wc w3 := hb3
        exact ⟨b2, o2, e2, Nat.lt_of_lt_of_le l2 hbx.size, (hbx.cell (p := ⟨b2, o2 + j, none⟩) l2).trans c2⟩
      · exact (hown3.lt gw rfl).2
      · obtain rfl : j = 0 := by omega
        exact owns_cell hown3 rfl
    · obtain rfl : G = [] := by rw [← HGP.out]; unfold gapOf; rw [if_neg hg]
      have hsz := K1.out.1.size
      by_cases g0 : 0 < k
      · have g1 : (0 : Int) < (k : Int) := by omega
        have g2 : ¬ (k : Int) < (m : Int) - 1 := by omega
        go_wp2_with (first
          | (go_at_call 37; refine (sameInts_any av none 0 cv 0 [] (by decide) (fun j hj => absurd hj (Nat.not_lt_zero j)) (fun j hj => absurd hj (Nat.not_lt_zero j))).mono ?_; rintro e w4 ⟨rfl, hb4⟩;
             have hb5 : Below w.heap.size w w4 := K1.out.1.trans (Below.mono hb4 hsz))
          | (go_at_call 14; refine (KW.out _ hb5).mono ?_; rintro e w16 ⟨rfl, hb16⟩))
        go_ret
        exact ⟨rfl, hb16⟩
      · have g1 : ¬ (0 : Int) < (k : Int) := by omega
        go_wp2_with (first
          | (go_at_call 37; refine (sameInts_any av none 0 cv 0 [] (by decide) (fun j hj => absurd hj (Nat.not_lt_zero j)) (fun j hj => absurd hj (Nat.not_lt_zero j))).mono ?_; rintro e w4 ⟨rfl, hb4⟩;
             have hb5 : Below w.heap.size w w4 := K1.out.1.trans (Below.mono hb4 hsz))
          | (go_at_call 14; refine (KW.out _ hb5).mono ?_; rintro e w16 ⟨rfl, hb16⟩))
        go_ret
        exact ⟨rfl, hb16⟩
end Go.Proofs.YtfpagmalblmnkaaGreatDoor

/-
  Contracts of the comparisons of telegrams and of spans, for equal lists.
-/
namespace Go.Proofs.YtfpagmalblmnkaaGreatDoor
open Go.RowKit
set_option linter.unusedVariables false
set_option linter.unusedSimpArgs false

/-- A slice, nil or not, of spans. -/
def AnySpans (w : World) (a : Option Addr) (n : Nat) (L : List (Int × Int)) : Prop := L.length = n ∧ ∀ j, j < n → ∃ b q, a = some ⟨b, q, none⟩ ∧ b < w.heap.size ∧
  ∀ k, k < n → w.cell? ⟨b, q + k * 2, none⟩ = some (.int .i64 (L[k]?.getD (0, 0)).1) ∧ w.cell? ⟨b, q + k * 2 + 1, none⟩ = some (.int .i64 (L[k]?.getD (0, 0)).2)
theorem AnySpans.kept {w w' : World} {a : Option Addr} {n : Nat} {L : List (Int × Int)} (h : AnySpans w a n L) (hb : Below w.heap.size w w') : AnySpans w' a n L :=
  ⟨h.1, fun j hj => by
    obtain ⟨b, q, e, h1, h2⟩ := h.2 j hj
    exact ⟨b, q, e, Nat.lt_of_lt_of_le h1 hb.size, fun k hk => ⟨(hb.cell (p := ⟨b, q + k * 2, none⟩) h1).trans (h2 k hk).1, (hb.cell (p := ⟨b, q + k * 2 + 1, none⟩) h1).trans (h2 k hk).2⟩⟩⟩
theorem AnySpans.of_row {w : World} {B : Nat} {v : Value} {L : List (Int × Int)} (h : w.ownsRow B 90 2 v L.length (L.flatMap qval)) : ∃ a c, v = .slice a L.length c ∧ AnySpans w a L.length L := by
  rcases h.2 with ⟨rfl, h0⟩ | ⟨g, cap, cur, rfl, hb, hg, _⟩
  · exact ⟨none, 0, by rw [h0], rfl, fun j hj => absurd hj (by omega)⟩
  · refine ⟨_, _, rfl, rfl, fun j hj => ⟨g, 0, rfl, lt_of_blk hg, fun k hk => ?_⟩⟩
    obtain ⟨h1, h2⟩ := flat_at2 L k hk
    have e1 := h.cells (g := g) rfl (k * 2) _ h1
    have e2 := h.cells (g := g) rfl (k * 2 + 1) _ h2
    rw [Addr.add_mid] at e1 e2
    exact ⟨e1, by rw [Nat.add_assoc]; exact e2⟩
set_option maxRecDepth 100000 in
set_option maxHeartbeats 6400000 in
theorem sameSpans_any (L : List (Int × Int)) (a a' : Option Addr) (n c c' : Nat) (w : World) (hm : n ≤ 13000) (h1 : AnySpans w a n L) (h2 : AnySpans w a' n L) :
    Calls Tryz.prog 35 #[.slice a n c, .slice a' n c'] w fun e w' => e = .returned (.bool true) ∧ Below w.heap.size w w' := by
  have HA := Lib.hid h1.2
  have HA' := Lib.hid h2.2
  have HN := Lib.hid h1.1
  have e0 : ((n : Int) != n) = false := by simp
  have i1 : (n : Int) ≤ 13000 := by omega
  clear h1 h2
  go_enter Tryz.func35, Tryz.ntmps35
  go_wp2
  go_loopw [5] (fun i wr => ∃ k : Nat, k ≤ n ∧ i = .int .i64 k ∧ Below w.heap.size w wr) (fun i _ => n - (intOf i).toNat)
  case atStart => exact ⟨0, Nat.zero_le _, rfl, Below.refl _ _⟩
  case round =>
    obtain ⟨k, hk, rfl, hnx⟩ := hrel
    by_cases hlt : k < n
    · obtain ⟨b, q, rfl, hb, hc⟩ := HA.out k hlt
      obtain ⟨b', q', rfl, hb', hc'⟩ := HA'.out k hlt
      have p0 := (hnx.cell (p := ⟨b, q + k * 2, none⟩) hb).trans (hc k hlt).1
      have p1 := (hnx.cell (p := ⟨b, q + k * 2 + 1, none⟩) hb).trans (hc k hlt).2
      have r0 := (hnx.cell (p := ⟨b', q' + k * 2, none⟩) hb').trans (hc' k hlt).1
      have r1 := (hnx.cell (p := ⟨b', q' + k * 2 + 1, none⟩) hb').trans (hc' k hlt).2
      obtain ⟨p, hp⟩ : ∃ p, L[k]?.getD (0, 0) = p := ⟨_, rfl⟩
      rw [hp] at p0 p1 r0 r1
      clear hp
      have h4 : (k : Int) < (n : Int) := by omega
      have h5 : (0 : Int) ≤ (k : Int) := by omega
      clear HA HA' hc hc' HN
      go_wp2_with fail
      go_quiet (fail)
      go_wp2
      go_roundw
      case rel => exact ⟨k + 1, by omega, by go_num, below_drewN hnx _⟩
      case measure => simp [intOf]; omega
    · go_wp2
      go_ret
      exact ⟨rfl, hnx⟩

end Go.Proofs.YtfpagmalblmnkaaGreatDoor

/-
  LightFound: its walk from what is received on.
-/
namespace Go.Proofs.YtfpagmalblmnkaaGreatDoor
open Go.RowKit Go.Shelf
set_option linter.unusedVariables false
set_option linter.unusedSimpArgs false

theorem one_byts (L : List Int) : ∀ u ∈ L.map (Value.int .u8), u.oneCell' = true := by
  intro u hu
  obtain ⟨x, _, rfl⟩ := List.mem_map.1 hu
  rfl
theorem Tryz.infoByteX : (Tryz.prog.info? 5).map (fun i => (i.zero, i.size, i.bytes)) = some (some (.int .u8 0), 1, 1) := by kernel_rfl
/-- The cells of bytes. -/
theorem AnyBytes.news {w w' : World} {ad : Addr} {n : Nat} {S : List Int} (h : AnyBytes w (some ad) n S) (hb : Below w.heap.size w w') : ∀ j u, (S.map (Value.int .u8))[j]? = some u → w'.cell? (ad.add j) = some u := by
  intro j u hu
  have hj : j < n := by have := (List.getElem?_eq_some_iff.1 hu).1; rw [List.length_map, h.1.1] at this; exact this
  obtain ⟨b, q, e, hlt, hc⟩ := h.2 j hj
  cases e
  rw [Addr.add_mid, hb.cell (p := ⟨b, q + j, none⟩) hlt]
  exact hc j u hu
theorem AnyTels.of_row' {w : World} {B : Nat} {v : Value} {n : Nat} {L : List Tel} (hl : L.length = n) (h : w.ownsRow B 79 6 v n (L.flatMap Tel.val)) : ∃ a c, v = .slice a n c ∧ AnyTels w a n L ∧ (a = none → n = 0 ∧ c = 0) := by
  obtain ⟨a, c, rfl, hA⟩ := AnyTels.of_row hl h
  refine ⟨a, c, rfl, hA, fun e => ?_⟩
  subst e
  rcases h.2 with ⟨e1, e2⟩ | ⟨g, cap, cur, e1, _⟩
  · cases e1; exact ⟨rfl, rfl⟩
  · cases e1
/-- What is received of frames behind bytes that are no marks. -/
theorem received_found (B : List Int) (ts : List Tel) (hB : ∀ v ∈ B, v ≠ 77) (hg : ∀ t ∈ ts, t.Good) (n : Nat) (hn : (B ++ joined ts).length = n) (hm : n ≤ 12288) (nt sl : Nat) (hnt : ts.length = nt) (hsl : (ahead1 B.length).length = sl) (a : Option Addr) (cp : Nat) (w : World) (hcp : n ≤ cp) (hcq : cp ≤ 9223372036854775807) (hA : AnyBytes w a n (B ++ joined ts)) :
    Calls Tryz.prog 34 #[.slice a n cp] w fun e w' => ∃ a1 c1 a2 c2, e = .returned (.tuple #[.slice a1 nt c1, .slice a2 sl c2, .int .i64 0]) ∧ AnyTels w' a1 nt ts ∧ (a1 = none → nt = 0 ∧ c1 = 0) ∧ AnySpans w' a2 sl (ahead1 B.length) ∧ Below w.heap.size w w' := by
  obtain ⟨e1, e2⟩ := rcv_found hB hg hn
  refine (received_all _ a n cp hm hcp hcq w hA).mono ?_
  rintro e w' ⟨v1, v2, rfl, h1, h2, hb⟩
  rw [e1] at h1
  rw [e2] at h2
  rw [hnt] at h1
  obtain ⟨a1, c1, rfl, h3, h4⟩ := AnyTels.of_row' hnt h1
  obtain ⟨a2, c2, rfl, h5⟩ := AnySpans.of_row h2
  rw [hsl] at h5
  exact ⟨a1, c1, a2, c2, by rw [hsl], h3, h4, h5, hb⟩


set_option maxRecDepth 1000000 in
set_option maxHeartbeats 25600000 in
theorem found38 (w : World) (m k : Nat) (hm : m < 9) (hk : k < m) (n0 n1 n2 n3 : Int) (hn : 0 ≤ n1 ∧ n1 ≤ 255) (Bn : Nat) (ts : List Tel) (hS : SentL m n1 ts) (g13 c13 : Nat) (a25 : Option Addr) (c25 : Nat) (a28 : Option Addr) (nc c28 : Nat) (hcl : (cutL m k ts).length = nc) (wr0 : World) (ht : TabAt w) (u0 u1 u2 u3 u4 u6 u7 u8 u9 u10 u11 u14 u15 u16 u17 u18 u19 u20 u21 u22 u23 u24 u26 u27 u29 u30 u31 u32 u33 u34 u35 u36 u37 u38 u39 u40 u41 u42 u43 u44 u45 u46 u47 u48 u49 u50 u51 u52 u53 u54 u55 u56 u57 u58 u59 u60 u61 u62 u63 u64 u65 u66 u67 u68 u69 u70 u71 u72 u73 u74 u75 u76 u77 u78 u79 u80 u81 u82 u83 u84 u85 u86 u87 u88 u89 u90 u91 u92 u93 u94 u95 u96 u97 u98 u99 u100 u101 u102 u103 u104 u105 u106 u107 u108 u109 u110 u111 u112 u113 u114 u115 u116 u117 u118 u119 u120 u121 u122 u123 u124 u125 u126 u127 u128 u129 u130 u131 u132 u133 u134 u135 u136 u137 u138 u139 u140 u141 u142 u143 u144 u145 u146 u147 u148 u149 u150 u151 u152 u153 u154 u155 u156 u157 u158 u159 u160 u161 u162 u163 u164 u165 u166 u167 u168 u169 u170 u171 u172 u173 u174 u175 u176 u177 u178 u179 u180 u181 u182 u183 u184 u185 u186 u187 u188 u189 u190 u191 u192 u193 u194 u195 u196 u197 u198 u199 u200 u201 u202 u203 u204 u205 u206 u207 u208 u209 u210 u211 u212 u213 u214 u215 u216 u217 u218 u219 u220 u221 u222 u223 u224 u225 u226 u227 u228 u229 u230 u231 u232 u233 u234 u235 u236 u237 u238 u239 u240 u241 u242 u243 u244 u245 u246 u247 u248 u249 u250 u251 u252 u253 u254 u255 u256 u257 u258 u259 u260 u261 u262 u263 u264 u265 u266 u267 u268 u269 u270 : Value)
    (hKp : Kp w wr0 [(Bn, (.cells #[.int .u8 n0, .int .u8 n1, .int .u8 n2, .int .u8 n3] 72 (0, 0)))]) (hT : AnyTels wr0 (some ⟨g13, 0, none⟩) m ts) (hT25 : AnyTels wr0 a25 m ts) (hT28 : AnyTels wr0 a28 nc (cutL m k ts)) (hN28 : a28 = none → nc = 0 ∧ c28 = 0) :
    Code.wp Tryz.prog (cutF 37) (bodyPost Tryz.prog Tryz.f6 (TruePost w)) ⟨#[u0, u1, u2, u3, u4, .pointer (some ⟨Bn, 0, none⟩), u6, u7, u8, u9, u10, u11, .int .i64 (k : Nat), .slice (some ⟨g13, 0, none⟩) m c13, u14, u15, u16, u17, u18, u19, u20, u21, u22, u23, u24, .slice a25 m c25, u26, u27, .slice a28 nc c28, u29, u30, u31, u32, u33, u34, u35, u36, u37, u38, u39, u40, u41, u42, u43, u44, u45, u46, u47, u48, u49, u50, u51, u52, u53, u54, u55, u56, u57, u58, u59, u60, u61, u62, u63, u64, u65, u66, u67, u68, u69, u70, u71, u72, u73, u74, u75, u76, u77, u78, u79, u80, u81, u82, u83, u84, u85, u86, u87, u88, u89, u90, u91, u92, u93, u94, u95, u96, u97, u98, u99, u100, u101, u102, u103, u104, u105, u106, u107, u108, u109, u110, u111, u112, u113, u114, u115, u116, u117, u118, u119, u120, u121, u122, u123, u124, u125, u126, u127, u128, u129, u130, u131, u132, u133, u134, u135, u136, u137, u138, u139, u140, u141, u142, u143, u144, u145, u146, u147, u148, u149, u150, u151, u152, u153, u154, u155, u156, u157, u158, u159, u160, u161, u162, u163, u164, u165, u166, u167, u168, u169, u170, u171, u172, u173, u174, u175, u176, u177, u178, u179, u180, u181, u182, u183, u184, u185, u186, u187, u188, u189, u190, u191, u192, u193, u194, u195, u196, u197, u198, u199, u200, u201, u202, u203, u204, u205, u206, u207, u208, u209, u210, u211, u212, u213, u214, u215, u216, u217, u218, u219, u220, u221, u222, u223, u224, u225, u226, u227, u228, u229, u230, u231, u232, u233, u234, u235, u236, u237, u238, u239, u240, u241, u242, u243, u244, u245, u246, u247, u248, u249, u250, u251, u252, u253, u254, u255, u256, u257, u258, u259, u260, u261, u262, u263, u264, u265, u266, u267, u268, u269, u270], []⟩ wr0 := by
  conv => arg 2; whnf
  dsimp only
  have KD := Lib.hid hKp
  have TD := Lib.hid hT
  have T25D := Lib.hid hT25
  have T28D := Lib.hid hT28
  have N28 := Lib.hid hN28
  have HS := Lib.hid hS
  have HCL := Lib.hid hcl
  have HTB := Lib.hid ht
  have HN := Lib.hid hn
  clear hKp hT hT25 hT28 hN28 hS hcl ht hn
  go_upto_block 4 with fail
  go_cut [] from 31 to 233 (fun we => Below wr0.heap.size wr0 we)
  case first =>
    go_wp2_with fail
    go_loopw [222] (fun s222 wy => ∃ i : Nat, i ≤ m ∧ s222 = .int .i64 i ∧ Below wr0.heap.size wr0 wy) (fun i _ => m - (intOf i).toNat)
    case atStart => exact ⟨0, by omega, rfl, Below.refl _ _⟩
    case round =>
      obtain ⟨i, him, rfl, hbi⟩ := hrel
      have HBI := Lib.hid hbi
      by_cases hlt : i < m
      · have hltI : (i : Int) < (m : Int) := by omega
        obtain ⟨b25, q25, e25, l25, tc25⟩ := (T25D.out.kept hbi).2 i hlt
        subst e25
        obtain ⟨b', q', e', lg, tcB⟩ := (TD.out.kept hbi).2 i hlt
        cases e'
        have hil : i < ts.length := by rw [HS.out.len]; exact hlt
        obtain ⟨t, ht'⟩ : ∃ t, ts[i]?.getD tel0 = t := ⟨_, rfl⟩
        have tA := tc25 i hil
        have tB := tcB i hil
        have K4 : Hid (Kp wr ((wr.alloc (.cells #[.int .i64 0, .int .i64 0, .int .i64 0, .int .i64 0, .int .i64 0, .int .i64 0] 79)).setRow wr.heap.size #[.int .i64 t.s, .int .i64 t.c, .int .i64 t.o, .int .i64 t.x, .int .i64 t.y, .int .i64 t.z]) [(wr.heap.size, .cells #[.int .i64 t.s, .int .i64 t.c, .int .i64 t.o, .int .i64 t.x, .int .i64 t.y, .int .i64 t.z] 79 (0, 0))]) := Lib.hid ((Kp.none wr).stored #[.int .i64 0, .int .i64 0, .int .i64 0, .int .i64 0, .int .i64 0, .int .i64 0] #[.int .i64 t.s, .int .i64 t.c, .int .i64 t.o, .int .i64 t.x, .int .i64 t.y, .int .i64 t.z] 79)
        have K3 : Hid (Kp wr (wr.alloc (.cells #[.int .i64 0, .int .i64 0, .int .i64 0, .int .i64 0, .int .i64 0, .int .i64 0] 79)) [(wr.heap.size, .cells #[.int .i64 0, .int .i64 0, .int .i64 0, .int .i64 0, .int .i64 0, .int .i64 0] 79 (0, 0))]) := Lib.hid ((Kp.none wr).alloc _)
        have a0 : wr.cell? ⟨b25, q25 + i * 6, none⟩ = some (.int .i64 t.s) := by have h := tA 0 (.int .i64 t.s) (by rw [← ht']; rfl); simpa using h
        have a1 : wr.cell? ⟨b25, q25 + i * 6 + 1, none⟩ = some (.int .i64 t.c) := by have h := tA 1 (.int .i64 t.c) (by rw [← ht']; rfl); simpa using h
        have a2 : wr.cell? ⟨b25, q25 + i * 6 + 2, none⟩ = some (.int .i64 t.o) := by have h := tA 2 (.int .i64 t.o) (by rw [← ht']; rfl); simpa using h
        have a3 : wr.cell? ⟨b25, q25 + i * 6 + 3, none⟩ = some (.int .i64 t.x) := by have h := tA 3 (.int .i64 t.x) (by rw [← ht']; rfl); simpa using h
        have a4 : wr.cell? ⟨b25, q25 + i * 6 + 4, none⟩ = some (.int .i64 t.y) := by have h := tA 4 (.int .i64 t.y) (by rw [← ht']; rfl); simpa using h
        have a5 : wr.cell? ⟨b25, q25 + i * 6 + 5, none⟩ = some (.int .i64 t.z) := by have h := tA 5 (.int .i64 t.z) (by rw [← ht']; rfl); simpa using h
        have d0 : wr.cell? ⟨g13, i * 6, none⟩ = some (.int .i64 t.s) := by have h := tB 0 (.int .i64 t.s) (by rw [← ht']; rfl); simpa using h
        have d1 : wr.cell? ⟨g13, i * 6 + 1, none⟩ = some (.int .i64 t.c) := by have h := tB 1 (.int .i64 t.c) (by rw [← ht']; rfl); simpa using h
        have d2 : wr.cell? ⟨g13, i * 6 + 2, none⟩ = some (.int .i64 t.o) := by have h := tB 2 (.int .i64 t.o) (by rw [← ht']; rfl); simpa using h
        have d3 : wr.cell? ⟨g13, i * 6 + 3, none⟩ = some (.int .i64 t.x) := by have h := tB 3 (.int .i64 t.x) (by rw [← ht']; rfl); simpa using h
        have d4 : wr.cell? ⟨g13, i * 6 + 4, none⟩ = some (.int .i64 t.y) := by have h := tB 4 (.int .i64 t.y) (by rw [← ht']; rfl); simpa using h
        have d5 : wr.cell? ⟨g13, i * 6 + 5, none⟩ = some (.int .i64 t.z) := by have h := tB 5 (.int .i64 t.z) (by rw [← ht']; rfl); simpa using h
        clear tc25 tcB tA tB hbi ht' l25
        go_upto_region 40 with (refine wpList_store_row rfl 79 (.tmp 32) (.tmp 226) rfl wr.heap.size rfl #[.int .i64 t.s, .int .i64 t.c, .int .i64 t.o, .int .i64 t.x, .int .i64 t.y, .int .i64 t.z] rfl 79 #[.int .i64 0, .int .i64 0, .int .i64 0, .int .i64 0, .int .i64 0, .int .i64 0] (K3.out.2 _ (.head _)) (by rfl) (by kernel_rfl) (by simp [Value.oneCell']) ?_)
        obtain ⟨W4, hW4⟩ : ∃ W4, (wr.alloc (.cells #[.int .i64 0, .int .i64 0, .int .i64 0, .int .i64 0, .int .i64 0, .int .i64 0] 79)).setRow wr.heap.size #[.int .i64 t.s, .int .i64 t.c, .int .i64 t.o, .int .i64 t.x, .int .i64 t.y, .int .i64 t.z] = W4 := ⟨_, rfl⟩
        have k4 := K4.out
        rw [hW4] at k4 ⊢
        clear K4 K3 a0 a1 a2 a3 a4 a5
        have K4 := Lib.hid k4
        have e0 : W4.cell? ⟨wr.heap.size, 0, none⟩ = some (.int .i64 t.s) := by rw [cell_of_row _ _ 0 _ _ (0, 0) (K4.out.2 _ (.head _))]; rfl
        have e1 : W4.cell? ⟨wr.heap.size, 1, none⟩ = some (.int .i64 t.c) := by rw [cell_of_row _ _ 1 _ _ (0, 0) (K4.out.2 _ (.head _))]; rfl
        have e2 : W4.cell? ⟨wr.heap.size, 2, none⟩ = some (.int .i64 t.o) := by rw [cell_of_row _ _ 2 _ _ (0, 0) (K4.out.2 _ (.head _))]; rfl
        have e3 : W4.cell? ⟨wr.heap.size, 3, none⟩ = some (.int .i64 t.x) := by rw [cell_of_row _ _ 3 _ _ (0, 0) (K4.out.2 _ (.head _))]; rfl
        have e4 : W4.cell? ⟨wr.heap.size, 4, none⟩ = some (.int .i64 t.y) := by rw [cell_of_row _ _ 4 _ _ (0, 0) (K4.out.2 _ (.head _))]; rfl
        have e5 : W4.cell? ⟨wr.heap.size, 5, none⟩ = some (.int .i64 t.z) := by rw [cell_of_row _ _ 5 _ _ (0, 0) (K4.out.2 _ (.head _))]; rfl
        have f0 : W4.cell? ⟨g13, i * 6, none⟩ = some (.int .i64 t.s) := (K4.out.1.cell (p := ⟨g13, i * 6, none⟩) lg).trans d0
        have f1 : W4.cell? ⟨g13, i * 6 + 1, none⟩ = some (.int .i64 t.c) := (K4.out.1.cell (p := ⟨g13, i * 6 + 1, none⟩) lg).trans d1
        have f2 : W4.cell? ⟨g13, i * 6 + 2, none⟩ = some (.int .i64 t.o) := (K4.out.1.cell (p := ⟨g13, i * 6 + 2, none⟩) lg).trans d2
        have f3 : W4.cell? ⟨g13, i * 6 + 3, none⟩ = some (.int .i64 t.x) := (K4.out.1.cell (p := ⟨g13, i * 6 + 3, none⟩) lg).trans d3
        have f4 : W4.cell? ⟨g13, i * 6 + 4, none⟩ = some (.int .i64 t.y) := (K4.out.1.cell (p := ⟨g13, i * 6 + 4, none⟩) lg).trans d4
        have f5 : W4.cell? ⟨g13, i * 6 + 5, none⟩ = some (.int .i64 t.z) := (K4.out.1.cell (p := ⟨g13, i * 6 + 5, none⟩) lg).trans d5
        have HB4 : Hid (Below wr0.heap.size wr0 W4.drew) := Lib.hid (HBI.out.trans (k4.1.mono HBI.out.size)).drew
        clear hW4 k4 d0 d1 d2 d3 d4 d5 K4
        go_region_held3 (fun w' => w'.cell? ⟨wr.heap.size, 0, none⟩ = some (.int .i64 t.s) ∧ w'.cell? ⟨wr.heap.size, 1, none⟩ = some (.int .i64 t.c) ∧ w'.cell? ⟨wr.heap.size, 2, none⟩ = some (.int .i64 t.o) ∧ w'.cell? ⟨wr.heap.size, 3, none⟩ = some (.int .i64 t.x) ∧ w'.cell? ⟨wr.heap.size, 4, none⟩ = some (.int .i64 t.y) ∧ w'.cell? ⟨wr.heap.size, 5, none⟩ = some (.int .i64 t.z) ∧ w'.cell? ⟨g13, i * 6, none⟩ = some (.int .i64 t.s) ∧ w'.cell? ⟨g13, i * 6 + 1, none⟩ = some (.int .i64 t.c) ∧ w'.cell? ⟨g13, i * 6 + 2, none⟩ = some (.int .i64 t.o) ∧ w'.cell? ⟨g13, i * 6 + 3, none⟩ = some (.int .i64 t.x) ∧ w'.cell? ⟨g13, i * 6 + 4, none⟩ = some (.int .i64 t.y) ∧ w'.cell? ⟨g13, i * 6 + 5, none⟩ = some (.int .i64 t.z))
          (first
            | (go_split_ands; refine ⟨?_, ?_, ?_, ?_, ?_, ?_, ?_, ?_, ?_, ?_, ?_, ?_⟩ <;> with_reducible assumption)
            | (go_keep; done))
          (fail)
        all_goals
          go_wp2_with fail
          go_roundw
          case rel => exact ⟨i + 1, by omega, by go_num, HB4.out⟩
          case measure => simp [intOf]; omega
      · obtain rfl : i = m := by omega
        go_wp2_with fail
        go_meet
        exact hbi
  case rest =>
    rename_i hK
    have HB := Lib.hid hcut
    clear hcut
    refine hK _ _ ?_
    clear hK
    exact found43 w m k hm hk n0 n1 n2 n3 HN.out Bn ts HS.out g13 c13 a28 nc c28 HCL.out _ HTB.out _ _ _ _ _ _ _ _ _ _ _ _ _ _ _ _ _ _ _ _ _ _ _ _ _ _ _ _ _ _ _ _ _ _ _ _ _ _ _ _ _ _ _ _ _ _ _ _ _ _ _ _ _ _ _ _ _ _ _ _ _ _ _ _ _ _ _ _ _ _ _ _ _ _ _ _ _ _ _ _ _ _ _ _ _ _ _ _ _ _ _ _ _ _ _ _ _ _ _ _ _ _ _ _ _ _ _ _ _ _ _ _ _ _ _ _ _ _ _ _ _ _ _ _ _ _ _ _ _ _ _ _ _ _ _ _ _ _ _ _ _ _ _ _ _ _ _ _ _ _ _ _ _ _ _ _ _ _ _ _ _ _ _ _ _ _ _ _ _ _ _ _ _ _ _ _ _ _ _ _ _ _ _ _ _ _ _ _ _ _ _ _ _ _ _ _ _ _ _ _ _ _ _ _ _ _ _ _ _ _ _ _ _ _ _ _ _ _ _ _ _ _ _ _ _ _ _ _ _ _ _ _ _ _ _ _ _ _ _ _ _ _ _ _ _ _ _ _ _ _ _ _ _ _ _ _ _ _ _ _ _ _ _ _ _ _ _ (KD.out.call HB.out) (TD.out.kept HB.out) (T28D.out.kept HB.out) N28.out

set_option maxRecDepth 1000000 in
set_option maxHeartbeats 25600000 in
theorem found37 (w : World) (m k : Nat) (hm : m < 9) (hk : k < m) (n0 n1 n2 n3 : Int) (hn : 0 ≤ n1 ∧ n1 ≤ 255) (Bn : Nat) (ts : List Tel) (hS : SentL m n1 ts) (g13 c13 : Nat) (a7 : Option Addr) (nb c7 : Nat) (ad10 ad11 : Addr) (n10 c10 n11 c11 : Nat) (a25 : Option Addr) (c25 : Nat) (a26 : Option Addr) (sl c26 : Nat) (a28 : Option Addr) (nc c28 : Nat) (SP : List (Int × Int)) (hcl : (cutL m k ts).length = nc) (hnc : m - 1 = nc) (hsp : (nb = 0 ∧ sl = 0) ∨ (nb ≠ 0 ∧ sl = 1 ∧ SP = [(0, (nb : Int))])) (wr : World) (ht : TabAt w) (u0 u1 u2 u3 u4 u6 u8 u9 u14 u15 u16 u17 u18 u19 u20 u21 u22 u23 u24 u29 u31 u32 u33 u34 u35 u36 u37 u38 u39 u40 u41 u42 u43 u44 u45 u46 u47 u48 u49 u50 u51 u52 u53 u54 u55 u56 u57 u58 u59 u60 u61 u62 u63 u64 u65 u66 u67 u68 u69 u70 u71 u72 u73 u74 u75 u76 u77 u78 u79 u80 u81 u82 u83 u84 u85 u86 u87 u88 u89 u90 u91 u92 u93 u94 u95 u96 u97 u98 u99 u100 u101 u102 u103 u104 u105 u106 u107 u108 u109 u110 u111 u112 u113 u114 u115 u116 u117 u118 u119 u120 u121 u122 u123 u124 u125 u126 u127 u128 u129 u130 u131 u132 u133 u134 u135 u136 u137 u138 u139 u140 u141 u142 u143 u144 u145 u146 u147 u148 u149 u150 u151 u152 u153 u154 u155 u156 u157 u158 u159 u160 u161 u162 u163 u164 u165 u166 u167 u168 u169 u170 u171 u172 u173 u174 u175 u176 u177 u178 u179 u180 u181 u182 u183 u184 u185 u186 u187 u188 u189 u190 u191 u192 u193 u194 u195 u196 u197 u198 u199 u200 u201 u202 u203 u204 u205 u206 u207 u208 u209 u210 u211 u212 u213 u214 u215 u216 u217 u218 u219 u220 u221 u222 u223 u224 u225 u226 u227 u228 u229 u230 u231 u232 u233 u234 u235 u236 u237 u238 u239 u240 u241 u242 u243 u244 u245 u246 u247 u248 u249 u250 u251 u252 u253 u254 u255 u256 u257 u258 u259 u260 u261 u262 u263 u264 u265 u266 u267 u268 u269 u270 : Value)
    (hKp : Kp w wr [(Bn, (.cells #[.int .u8 n0, .int .u8 n1, .int .u8 n2, .int .u8 n3] 72 (0, 0)))]) (hT : AnyTels wr (some ⟨g13, 0, none⟩) m ts) (hT25 : AnyTels wr a25 m ts) (hT28 : AnyTels wr a28 nc (cutL m k ts)) (hN28 : a28 = none → nc = 0 ∧ c28 = 0) (hQ26 : AnySpans wr a26 sl SP) :
    Code.wp Tryz.prog (cutF 35) (bodyPost Tryz.prog Tryz.f6 (TruePost w)) ⟨#[u0, u1, u2, u3, u4, .pointer (some ⟨Bn, 0, none⟩), u6, .slice a7 nb c7, u8, u9, .slice (some ad10) n10 c10, .slice (some ad11) n11 c11, .int .i64 (k : Nat), .slice (some ⟨g13, 0, none⟩) m c13, u14, u15, u16, u17, u18, u19, u20, u21, u22, u23, u24, .slice a25 m c25, .slice a26 sl c26, .int .i64 0, .slice a28 nc c28, u29, .int .i64 0, u31, u32, u33, u34, u35, u36, u37, u38, u39, u40, u41, u42, u43, u44, u45, u46, u47, u48, u49, u50, u51, u52, u53, u54, u55, u56, u57, u58, u59, u60, u61, u62, u63, u64, u65, u66, u67, u68, u69, u70, u71, u72, u73, u74, u75, u76, u77, u78, u79, u80, u81, u82, u83, u84, u85, u86, u87, u88, u89, u90, u91, u92, u93, u94, u95, u96, u97, u98, u99, u100, u101, u102, u103, u104, u105, u106, u107, u108, u109, u110, u111, u112, u113, u114, u115, u116, u117, u118, u119, u120, u121, u122, u123, u124, u125, u126, u127, u128, u129, u130, u131, u132, u133, u134, u135, u136, u137, u138, u139, u140, u141, u142, u143, u144, u145, u146, u147, u148, u149, u150, u151, u152, u153, u154, u155, u156, u157, u158, u159, u160, u161, u162, u163, u164, u165, u166, u167, u168, u169, u170, u171, u172, u173, u174, u175, u176, u177, u178, u179, u180, u181, u182, u183, u184, u185, u186, u187, u188, u189, u190, u191, u192, u193, u194, u195, u196, u197, u198, u199, u200, u201, u202, u203, u204, u205, u206, u207, u208, u209, u210, u211, u212, u213, u214, u215, u216, u217, u218, u219, u220, u221, u222, u223, u224, u225, u226, u227, u228, u229, u230, u231, u232, u233, u234, u235, u236, u237, u238, u239, u240, u241, u242, u243, u244, u245, u246, u247, u248, u249, u250, u251, u252, u253, u254, u255, u256, u257, u258, u259, u260, u261, u262, u263, u264, u265, u266, u267, u268, u269, u270], []⟩ wr := by
  conv => arg 2; whnf
  dsimp only
  have wm : IntKind.i64.wrap ((m : Int) - 1) = (nc : Int) := by rw [show (m : Int) - 1 = (nc : Int) by omega]; exact IntWalk.i64_in _ ⟨by omega, by omega⟩
  have hsz0 := hKp.1.size
  have KD := Lib.hid hKp
  have TD := Lib.hid hT
  have T25D := Lib.hid hT25
  have T28D := Lib.hid hT28
  have N28 := Lib.hid hN28
  have Q26D := Lib.hid hQ26
  have HS := Lib.hid hS
  have HCL := Lib.hid hcl
  have HTB := Lib.hid ht
  have HN := Lib.hid hn
  clear hKp hT hT25 hT28 hN28 hQ26 hS hcl ht hn
  rcases hsp with ⟨rfl, rfl⟩ | ⟨hb0, rfl, rfl⟩
  · go_upto_if 219 with fail
    go_cut [] from 177 to 219 (fun we => Below wr.heap.size wr we)
    case first =>
      go_wp2_with fail
      go_meet
      exact Below.refl _ _
    case rest =>
      rename_i hK
      have HB := Lib.hid hcut
      clear hcut
      refine hK _ _ ?_
      clear hK
      exact found38 w m k hm hk n0 n1 n2 n3 HN.out Bn ts HS.out g13 c13 a25 c25 a28 nc c28 HCL.out _ HTB.out _ _ _ _ _ _ _ _ _ _ _ _ _ _ _ _ _ _ _ _ _ _ _ _ _ _ _ _ _ _ _ _ _ _ _ _ _ _ _ _ _ _ _ _ _ _ _ _ _ _ _ _ _ _ _ _ _ _ _ _ _ _ _ _ _ _ _ _ _ _ _ _ _ _ _ _ _ _ _ _ _ _ _ _ _ _ _ _ _ _ _ _ _ _ _ _ _ _ _ _ _ _ _ _ _ _ _ _ _ _ _ _ _ _ _ _ _ _ _ _ _ _ _ _ _ _ _ _ _ _ _ _ _ _ _ _ _ _ _ _ _ _ _ _ _ _ _ _ _ _ _ _ _ _ _ _ _ _ _ _ _ _ _ _ _ _ _ _ _ _ _ _ _ _ _ _ _ _ _ _ _ _ _ _ _ _ _ _ _ _ _ _ _ _ _ _ _ _ _ _ _ _ _ _ _ _ _ _ _ _ _ _ _ _ _ _ _ _ _ _ _ _ _ _ _ _ _ _ _ _ _ _ _ _ _ _ _ _ _ _ _ _ _ _ _ _ _ _ _ _ _ _ _ _ _ _ _ _ _ _ _ _ _ _ _ _ (KD.out.call HB.out) (TD.out.kept HB.out) (T25D.out.kept HB.out) (T28D.out.kept HB.out) N28.out
  · have hbz : ¬ ((nb : Int) = 0) := by omega
    have hbp : (0 : Int) < (nb : Int) := by omega
    have hB1 : Below wr.heap.size wr (wr.alloc (.cells #[.int .i64 0, .int .i64 (nb : Nat)] 90)) := (Below.refl _ _).alloc (Nat.le_refl _) _
    have hq1 : AnySpans (wr.alloc (.cells #[.int .i64 0, .int .i64 (nb : Nat)] 90)) (some ⟨wr.heap.size, 0, none⟩) 1 [(0, (nb : Int))] := ⟨rfl, fun j hj => ⟨_, 0, rfl, by simp, fun q hq => by
      obtain rfl : q = 0 := by omega
      simp [go_sem]⟩⟩
    have hq2 := Q26D.out.kept hB1
    go_upto_if 219 with (first
      | (go_at_call 35; refine (sameSpans_any [(0, (nb : Int))] a26 (some ⟨wr.heap.size, 0, none⟩) 1 c26 1 _ (by decide) hq2 hq1).mono ?_; rintro e w4 ⟨rfl, hb4⟩))
    go_cut [] from 177 to 219 (fun we => Below wr.heap.size wr we)
    case first =>
      go_wp2_with fail
      go_meet
      exact hB1.trans (hb4.mono hB1.size)
    case rest =>
      have HB := Lib.hid hcut
      clear hcut
      first
        | (rename_i hK; refine hK _ _ ?_; clear hK)
        | (rename_i hK h1; refine hK _ _ ?_; clear hK)
        | (rename_i hK h1 h2; refine hK _ _ ?_; clear hK)
        | (rename_i hK h1 h2 h3; refine hK _ _ ?_; clear hK)
        | (rename_i hK h1 h2 h3 h4; refine hK _ _ ?_; clear hK)
      exact found38 w m k hm hk n0 n1 n2 n3 HN.out Bn ts HS.out g13 c13 a25 c25 a28 nc c28 HCL.out _ HTB.out _ _ _ _ _ _ _ _ _ _ _ _ _ _ _ _ _ _ _ _ _ _ _ _ _ _ _ _ _ _ _ _ _ _ _ _ _ _ _ _ _ _ _ _ _ _ _ _ _ _ _ _ _ _ _ _ _ _ _ _ _ _ _ _ _ _ _ _ _ _ _ _ _ _ _ _ _ _ _ _ _ _ _ _ _ _ _ _ _ _ _ _ _ _ _ _ _ _ _ _ _ _ _ _ _ _ _ _ _ _ _ _ _ _ _ _ _ _ _ _ _ _ _ _ _ _ _ _ _ _ _ _ _ _ _ _ _ _ _ _ _ _ _ _ _ _ _ _ _ _ _ _ _ _ _ _ _ _ _ _ _ _ _ _ _ _ _ _ _ _ _ _ _ _ _ _ _ _ _ _ _ _ _ _ _ _ _ _ _ _ _ _ _ _ _ _ _ _ _ _ _ _ _ _ _ _ _ _ _ _ _ _ _ _ _ _ _ _ _ _ _ _ _ _ _ _ _ _ _ _ _ _ _ _ _ _ _ _ _ _ _ _ _ _ _ _ _ _ _ _ _ _ _ _ _ _ _ _ _ _ _ _ _ _ _ _ (KD.out.call HB.out) (TD.out.kept HB.out) (T25D.out.kept HB.out) (T28D.out.kept HB.out) N28.out

set_option maxRecDepth 1000000 in
set_option maxHeartbeats 25600000 in
theorem found33 (w : World) (m k : Nat) (hm : m < 9) (hk : k < m) (n0 n1 n2 n3 : Int) (hn : 0 ≤ n1 ∧ n1 ≤ 255) (Bn : Nat) (Bs : List Int) (hB : ∀ v ∈ Bs, v ≠ 77) (hB20 : Bs.length ≤ 20) (ts : List Tel) (hS : SentL m n1 ts) (g13 c13 : Nat) (a7 : Option Addr) (nb c7 : Nat) (hnb : Bs.length = nb) (ad10 ad11 : Addr) (n10 c10 n11 c11 : Nat) (hc10 : n10 ≤ c10) (hc11 : n11 ≤ c11) (wr : World) (ht : TabAt w) (u0 u1 u2 u3 u4 u6 u8 u9 u14 u15 u16 u17 u18 u19 u20 u21 u22 u23 u24 u25 u26 u27 u28 u29 u30 u31 u32 u33 u34 u35 u36 u37 u38 u39 u40 u41 u42 u43 u44 u45 u46 u47 u48 u49 u50 u51 u52 u53 u54 u55 u56 u57 u58 u59 u60 u61 u62 u63 u64 u65 u66 u67 u68 u69 u70 u71 u72 u73 u74 u75 u76 u77 u78 u79 u80 u81 u82 u83 u84 u85 u86 u87 u88 u89 u90 u91 u92 u93 u94 u95 u96 u97 u98 u99 u100 u101 u102 u103 u104 u105 u106 u107 u108 u109 u110 u111 u112 u113 u114 u115 u116 u117 u118 u119 u120 u121 u122 u123 u124 u125 u126 u127 u128 u129 u130 u131 u132 u133 u134 u135 u136 u137 u138 u139 u140 u141 u142 u143 u144 u145 u146 u147 u148 u149 u150 u151 u152 u153 u154 u155 u156 u157 u158 u159 u160 u161 u162 u163 u164 u165 u166 u167 u168 u169 u170 u171 u172 u173 u174 u175 u176 u177 u178 u179 u180 u181 u182 u183 u184 u185 u186 u187 u188 u189 u190 u191 u192 u193 u194 u195 u196 u197 u198 u199 u200 u201 u202 u203 u204 u205 u206 u207 u208 u209 u210 u211 u212 u213 u214 u215 u216 u217 u218 u219 u220 u221 u222 u223 u224 u225 u226 u227 u228 u229 u230 u231 u232 u233 u234 u235 u236 u237 u238 u239 u240 u241 u242 u243 u244 u245 u246 u247 u248 u249 u250 u251 u252 u253 u254 u255 u256 u257 u258 u259 u260 u261 u262 u263 u264 u265 u266 u267 u268 u269 u270 : Value)
    (hKp : Kp w wr [(Bn, (.cells #[.int .u8 n0, .int .u8 n1, .int .u8 n2, .int .u8 n3] 72 (0, 0)))]) (hT : AnyTels wr (some ⟨g13, 0, none⟩) m ts) (h10 : AnyBytes wr (some ad10) n10 (Bs ++ joined ts)) (h11 : AnyBytes wr (some ad11) n11 (Bs ++ joined (cutL m k ts))) :
    Code.wp Tryz.prog (cutF 33) (bodyPost Tryz.prog Tryz.f6 (TruePost w)) ⟨#[u0, u1, u2, u3, u4, .pointer (some ⟨Bn, 0, none⟩), u6, .slice a7 nb c7, u8, u9, .slice (some ad10) n10 c10, .slice (some ad11) n11 c11, .int .i64 (k : Nat), .slice (some ⟨g13, 0, none⟩) m c13, u14, u15, u16, u17, u18, u19, u20, u21, u22, u23, u24, u25, u26, u27, u28, u29, u30, u31, u32, u33, u34, u35, u36, u37, u38, u39, u40, u41, u42, u43, u44, u45, u46, u47, u48, u49, u50, u51, u52, u53, u54, u55, u56, u57, u58, u59, u60, u61, u62, u63, u64, u65, u66, u67, u68, u69, u70, u71, u72, u73, u74, u75, u76, u77, u78, u79, u80, u81, u82, u83, u84, u85, u86, u87, u88, u89, u90, u91, u92, u93, u94, u95, u96, u97, u98, u99, u100, u101, u102, u103, u104, u105, u106, u107, u108, u109, u110, u111, u112, u113, u114, u115, u116, u117, u118, u119, u120, u121, u122, u123, u124, u125, u126, u127, u128, u129, u130, u131, u132, u133, u134, u135, u136, u137, u138, u139, u140, u141, u142, u143, u144, u145, u146, u147, u148, u149, u150, u151, u152, u153, u154, u155, u156, u157, u158, u159, u160, u161, u162, u163, u164, u165, u166, u167, u168, u169, u170, u171, u172, u173, u174, u175, u176, u177, u178, u179, u180, u181, u182, u183, u184, u185, u186, u187, u188, u189, u190, u191, u192, u193, u194, u195, u196, u197, u198, u199, u200, u201, u202, u203, u204, u205, u206, u207, u208, u209, u210, u211, u212, u213, u214, u215, u216, u217, u218, u219, u220, u221, u222, u223, u224, u225, u226, u227, u228, u229, u230, u231, u232, u233, u234, u235, u236, u237, u238, u239, u240, u241, u242, u243, u244, u245, u246, u247, u248, u249, u250, u251, u252, u253, u254, u255, u256, u257, u258, u259, u260, u261, u262, u263, u264, u265, u266, u267, u268, u269, u270], []⟩ wr := by
  conv => arg 2; whnf
  dsimp only
  obtain ⟨i2, hk2, hx0, hx1, hx2⟩ := info_parts Tryz.infoByteX
  have hcl : (cutL m k ts).length = m - 1 := (hS.lost hm hk hn).2.2.2
  obtain ⟨cs, hcs⟩ : ∃ cs, cutL m k ts = cs := ⟨_, rfl⟩
  have hgc : ∀ t ∈ cs, t.Good := fun t ht' => by rw [← hcs] at ht'; exact hS.good t (hS.cut_mem t ht')
  rw [hcs] at hcl h11
  have l10 : n10 ≤ 212 := by rw [← h10.1.1, List.length_append, joined_len, hS.len]; omega
  have l11 : n11 ≤ 212 := by rw [← h11.1.1, List.length_append, joined_len]; omega
  obtain ⟨sl, hsl⟩ : ∃ sl, (ahead1 Bs.length).length = sl := ⟨_, rfl⟩
  obtain ⟨SP, hSP⟩ : ∃ SP, ahead1 Bs.length = SP := ⟨_, rfl⟩
  have KR : Hid (∀ (a : Option Addr) (cp : Nat) (w1 : World), n10 ≤ cp → cp ≤ 9223372036854775807 → AnyBytes w1 a n10 (Bs ++ joined ts) → Calls Tryz.prog 34 #[.slice a n10 cp] w1 fun e w' => ∃ a1 c1 a2 c2, e = .returned (.tuple #[.slice a1 m c1, .slice a2 sl c2, .int .i64 0]) ∧ AnyTels w' a1 m ts ∧ (a1 = none → m = 0 ∧ c1 = 0) ∧ AnySpans w' a2 sl SP ∧ Below w1.heap.size w1 w') := Lib.hid fun a cp w1 q1 q2 q3 => by
    subst hSP
    exact received_found Bs ts hB hS.good n10 h10.1.1 (by omega) m sl hS.len hsl a cp w1 q1 q2 q3
  obtain ⟨nc, hnc⟩ : ∃ nc, m - 1 = nc := ⟨_, rfl⟩
  rw [hnc] at hcl
  have KR2 : Hid (∀ (a : Option Addr) (cp : Nat) (w1 : World), n11 ≤ cp → cp ≤ 9223372036854775807 → AnyBytes w1 a n11 (Bs ++ joined cs) → Calls Tryz.prog 34 #[.slice a n11 cp] w1 fun e w' => ∃ a1 c1 a2 c2, e = .returned (.tuple #[.slice a1 nc c1, .slice a2 sl c2, .int .i64 0]) ∧ AnyTels w' a1 nc cs ∧ (a1 = none → nc = 0 ∧ c1 = 0) ∧ AnySpans w' a2 sl SP ∧ Below w1.heap.size w1 w') := Lib.hid fun a cp w1 q1 q2 q3 => by
    subst hSP
    exact received_found Bs cs hB hgc n11 h11.1.1 (by omega) nc sl hcl hsl a cp w1 q1 q2 q3
  have hSP2 : (nb = 0 → sl = 0) ∧ (nb ≠ 0 → sl = 1 ∧ SP = [(0, (nb : Int))]) := by
    rw [← hsl, ← hSP, ← hnb]
    unfold ahead1
    constructor
    · intro h; rw [if_pos h]; rfl
    · intro h; rw [if_neg h]; exact ⟨rfl, rfl⟩
  have HK := Lib.hid hKp
  have HT := Lib.hid hT
  have H10 := Lib.hid h10
  have H11 := Lib.hid h11
  have HS := Lib.hid hS
  have HCS := Lib.hid hcs
  have HN := Lib.hid hn
  have HTB := Lib.hid ht
  have HSPX := Lib.hid hSP2
  have HNC := Lib.hid (And.intro hnc hcl)
  clear hKp hT h10 h11 hS hcs hn ht hSP2 hB hgc hsl hSP hnb hB20 hnc hcl
  go_upto_region 33 with fail
  go_cut [25, 26, 27] (fun s25 s26 s27 wc => ∃ a1 c1 a2 c2, s25 = .slice a1 m c1 ∧ s26 = .slice a2 sl c2 ∧ s27 = .int .i64 0 ∧ AnyTels wc a1 m ts ∧ AnySpans wc a2 sl SP ∧ Below wr.heap.size wr wc)
  case first =>
    have hC0 : (wr.alloc (.cells #[] 5)).ownsRow wr.heap.size 5 1 (.slice (some ⟨wr.heap.size, 0, none⟩) 0 0) 0 [] := by
      have h := World.ownsRow_made (base := wr.heap.size) (e := 5) (size := 1) wr #[] 0 (by simp) (by unfold maxLen; omega) rfl
      simpa using h
    have HC0 := Lib.hid hC0
    have HB6 : Hid (Below wr.heap.size wr (wr.alloc (.cells #[] 5))) := Lib.hid ((Below.refl _ _).alloc (Nat.le_refl _) _)
    have HLN : Hid (((Bs ++ joined ts).map (Value.int .u8)).length = n10 * 1) := Lib.hid (by rw [List.length_map, H10.out.1.1, Nat.mul_one])
    have HNW := Lib.hid (AnyBytes.news H10.out HB6.out)
    have HBV := Lib.hid H10.out.1
    clear hC0
    go_wp2_with (first
        | (at_builtin; (refine wpList_append_own _ rfl (.tmp 162) (.tmp 163) 71 rfl wr.heap.size 5 i2 (.int .u8 0) 1 1 Tryz.underlying71 hk2 hx0 hx1 hx2 rfl (by decide) (.slice (some ⟨wr.heap.size, 0, none⟩) 0 0) 0 [] rfl HC0.out ad10 n10 c10 ((Bs ++ joined ts).map (Value.int .u8)) rfl HLN.out HNW.out (one_byts _) (by unfold maxLen; omega) (by omega) (by simp) ?_); intro v6 w6 hO6 hG6 _;
           have hb6 : Below wr.heap.size wr w6 := Below.grown HB6.out hG6 (by simp) (fun q hq => by cases hq; exact Nat.le_refl _);
           rw [Nat.zero_add, List.nil_append] at hO6;
           obtain ⟨a6, c6, rfl, h6a, h6b, hA6⟩ := AnyBytes.of_row HBV.out hO6)
        | (go_at_call 34; (refine (KR.out _ _ _ h6a h6b hA6).mono ?_); rintro e w7 ⟨a1, c1, a2, c2, rfl, hT7, hN7, hQ7, hb7⟩))
    go_meet
    exact ⟨a1, c1, a2, c2, rfl, rfl, rfl, hT7, hQ7, hb6.trans (hb7.mono hb6.size)⟩
  case rest =>
    rename_i hK
    obtain ⟨a25, c25, a26, c26, rfl, rfl, rfl, hT25, hQ26, hb⟩ := hcut
    refine hK _ _ ?_
    clear hK
    obtain ⟨wx, hwx⟩ : ∃ wx, wc = wx := ⟨_, rfl⟩
    subst hwx
    have K1 := Lib.hid (HK.out.call hb)
    have T1 := Lib.hid (HT.out.kept hb)
    have X11 := Lib.hid (H11.out.kept hb)
    have T25 := Lib.hid hT25
    have Q26 := Lib.hid hQ26
    clear hb hT25 hQ26 HK HT H10 H11 KR
    go_upto_region 34 with fail
    go_cut [28, 29, 30] (fun s28 s29 s30 wd => ∃ a1 c1, s28 = .slice a1 nc c1 ∧ s30 = .int .i64 0 ∧ AnyTels wd a1 nc cs ∧ (a1 = none → nc = 0 ∧ c1 = 0) ∧ Below wc.heap.size wc wd)
    case first =>
      have hC0 : (wc.alloc (.cells #[] 5)).ownsRow wc.heap.size 5 1 (.slice (some ⟨wc.heap.size, 0, none⟩) 0 0) 0 [] := by
        have h := World.ownsRow_made (base := wc.heap.size) (e := 5) (size := 1) wc #[] 0 (by simp) (by unfold maxLen; omega) rfl
        simpa using h
      have HC0 := Lib.hid hC0
      have HB6 : Hid (Below wc.heap.size wc (wc.alloc (.cells #[] 5))) := Lib.hid ((Below.refl _ _).alloc (Nat.le_refl _) _)
      have HLN : Hid (((Bs ++ joined cs).map (Value.int .u8)).length = n11 * 1) := Lib.hid (by rw [List.length_map, X11.out.1.1, Nat.mul_one])
      have HNW := Lib.hid (AnyBytes.news X11.out HB6.out)
      have HBV := Lib.hid X11.out.1
      clear hC0
      go_wp2_with (first
        | (at_builtin; (refine wpList_append_own _ rfl (.tmp 170) (.tmp 171) 71 rfl wc.heap.size 5 i2 (.int .u8 0) 1 1 Tryz.underlying71 hk2 hx0 hx1 hx2 rfl (by decide) (.slice (some ⟨wc.heap.size, 0, none⟩) 0 0) 0 [] rfl HC0.out ad11 n11 c11 ((Bs ++ joined cs).map (Value.int .u8)) rfl HLN.out HNW.out (one_byts _) (by unfold maxLen; omega) (by omega) (by simp) ?_); intro v6 w6 hO6 hG6 _;
           have hb6 : Below wc.heap.size wc w6 := Below.grown HB6.out hG6 (by simp) (fun q hq => by cases hq; exact Nat.le_refl _);
           rw [Nat.zero_add, List.nil_append] at hO6;
           obtain ⟨a6, c6, rfl, h6a, h6b, hA6⟩ := AnyBytes.of_row HBV.out hO6)
        | (go_at_call 34; (refine (KR2.out _ _ _ h6a h6b hA6).mono ?_); rintro e w7 ⟨a1, c1, a2, c2, rfl, hT7, hN7, hQ7, hb7⟩))
      go_meet
      exact ⟨a1, c1, rfl, rfl, hT7, hN7, hb6.trans (hb7.mono hb6.size)⟩
    case rest =>
      rename_i hK
      obtain ⟨a28, c28, rfl, rfl, hT28, hN28, hb⟩ := hcut
      refine hK _ _ ?_
      clear hK
      have KD := Lib.hid (K1.out.call hb)
      have TD := Lib.hid (T1.out.kept hb)
      have T25D := Lib.hid (T25.out.kept hb)
      have Q26D := Lib.hid (Q26.out.kept hb)
      have T28D := Lib.hid hT28
      have N28 := Lib.hid hN28
      clear hb hT28 hN28 K1 T1 T25 Q26 X11 KR2
      obtain ⟨hnc, hcl⟩ := HNC.out
      have wm : IntKind.i64.wrap ((m : Int) - 1) = (nc : Int) := by rw [show (m : Int) - 1 = (nc : Int) by omega]; exact IntWalk.i64_in _ ⟨by omega, by omega⟩
      have hsz0 := KD.out.1.size
      by_cases hb0 : nb = 0
      · obtain rfl : sl = 0 := HSPX.out.1 hb0
        subst hb0
        exact found37 w m k hm hk n0 n1 n2 n3 HN.out Bn ts HS.out g13 c13 a7 0 c7 ad10 ad11 n10 c10 n11 c11 a25 c25 a26 0 c26 a28 nc c28 SP (by rw [HCS.out]; exact hcl) hnc (.inl ⟨rfl, rfl⟩) _ HTB.out _ _ _ _ _ _ _ _ _ _ _ _ _ _ _ _ _ _ _ _ _ _ _ _ _ _ _ _ _ _ _ _ _ _ _ _ _ _ _ _ _ _ _ _ _ _ _ _ _ _ _ _ _ _ _ _ _ _ _ _ _ _ _ _ _ _ _ _ _ _ _ _ _ _ _ _ _ _ _ _ _ _ _ _ _ _ _ _ _ _ _ _ _ _ _ _ _ _ _ _ _ _ _ _ _ _ _ _ _ _ _ _ _ _ _ _ _ _ _ _ _ _ _ _ _ _ _ _ _ _ _ _ _ _ _ _ _ _ _ _ _ _ _ _ _ _ _ _ _ _ _ _ _ _ _ _ _ _ _ _ _ _ _ _ _ _ _ _ _ _ _ _ _ _ _ _ _ _ _ _ _ _ _ _ _ _ _ _ _ _ _ _ _ _ _ _ _ _ _ _ _ _ _ _ _ _ _ _ _ _ _ _ _ _ _ _ _ _ _ _ _ _ _ _ _ _ _ _ _ _ _ _ _ _ _ _ _ _ _ _ _ _ _ _ _ _ _ _ _ _ _ _ _ _ _ _ _ _ _ _ KD.out TD.out T25D.out (by rw [HCS.out]; exact T28D.out) N28.out Q26D.out
      · obtain ⟨rfl, hsp⟩ := HSPX.out.2 hb0
        exact found37 w m k hm hk n0 n1 n2 n3 HN.out Bn ts HS.out g13 c13 a7 nb c7 ad10 ad11 n10 c10 n11 c11 a25 c25 a26 1 c26 a28 nc c28 SP (by rw [HCS.out]; exact hcl) hnc (.inr ⟨hb0, rfl, hsp⟩) _ HTB.out _ _ _ _ _ _ _ _ _ _ _ _ _ _ _ _ _ _ _ _ _ _ _ _ _ _ _ _ _ _ _ _ _ _ _ _ _ _ _ _ _ _ _ _ _ _ _ _ _ _ _ _ _ _ _ _ _ _ _ _ _ _ _ _ _ _ _ _ _ _ _ _ _ _ _ _ _ _ _ _ _ _ _ _ _ _ _ _ _ _ _ _ _ _ _ _ _ _ _ _ _ _ _ _ _ _ _ _ _ _ _ _ _ _ _ _ _ _ _ _ _ _ _ _ _ _ _ _ _ _ _ _ _ _ _ _ _ _ _ _ _ _ _ _ _ _ _ _ _ _ _ _ _ _ _ _ _ _ _ _ _ _ _ _ _ _ _ _ _ _ _ _ _ _ _ _ _ _ _ _ _ _ _ _ _ _ _ _ _ _ _ _ _ _ _ _ _ _ _ _ _ _ _ _ _ _ _ _ _ _ _ _ _ _ _ _ _ _ _ _ _ _ _ _ _ _ _ _ _ _ _ _ _ _ _ _ _ _ _ _ _ _ _ _ _ _ _ _ _ _ _ _ _ _ _ _ _ _ _ _ KD.out TD.out T25D.out (by rw [HCS.out]; exact T28D.out) N28.out Q26D.out
end Go.Proofs.YtfpagmalblmnkaaGreatDoor

/-
  LightFound: its round over an order, from the streams on.
-/
namespace Go.Proofs.YtfpagmalblmnkaaGreatDoor
open Go.RowKit Go.Shelf
set_option linter.unusedVariables false
set_option linter.unusedSimpArgs false

theorem news_alloc (w : World) (vs : List Value) (T : TypeId) : ∀ j u, vs[j]? = some u → (w.alloc (.cells vs.toArray T)).cell? ((⟨w.heap.size, 0, none⟩ : Addr).add j) = some u := by
  intro j u hu
  rw [Addr.add_mid, Nat.zero_add, cell_of_row _ _ j _ _ (0, 0) (blk_alloc_new w _)]
  simpa using hu
theorem news_blk {w : World} {B : Nat} {vs : List Value} {T : TypeId} (h : w.heap[B]? = some (.cells vs.toArray T (0, 0))) : ∀ j u, vs[j]? = some u → w.cell? ((⟨B, 0, none⟩ : Addr).add j) = some u := by
  intro j u hu
  rw [Addr.add_mid, Nat.zero_add, cell_of_row _ _ j _ _ (0, 0) h]
  simpa using hu
theorem own_other {g b n c : Nat} (h : g ≠ b) : some b ≠ (Value.slice (some ⟨g, 0, none⟩) n c).ownBlock := fun e => h (Option.some.inj e).symm
/-- A row's block is no block of another type. -/
theorem row_ne_blk {w : World} {N e sz g n c B : Nat} {xs : List Value} {o : Array Value} {T : TypeId} (h : w.ownsRow N e sz (.slice (some ⟨g, 0, none⟩) n c) n xs) (hB : w.heap[B]? = some (.cells o T (0, 0))) (hne : e ≠ T) : g ≠ B := by
  rintro rfl
  rcases h.2 with ⟨e1, _⟩ | ⟨g', cap, cur, e1, _, h3, _⟩
  · cases e1
  · cases e1
    rw [hB] at h3
    cases h3
    exact hne rfl

set_option maxRecDepth 1000000 in
set_option maxHeartbeats 25600000 in
theorem found28 (W0 : World) (N0 : Nat) (hN0 : N0 = W0.heap.size) (k i : Nat) (hi8 : i < 9) (t : Tel) (L : List Tel) (hL : L.length = i) (S10 S11 : List Int) (g10 n10 c10 g11 n11 c11 : Nat) (hn10 : n10 ≤ 1000) (hn11 : n11 ≤ 1000) (hg : g10 ≠ g11) (v13 : Value) (B16 B17 : Nat) (wr : World) (Q : Exit → Act → World → Prop) (u0 u1 u2 u3 u4 u5 u6 u7 u8 u9 u15 u18 u19 u20 u21 u22 u23 u24 u25 u26 u27 u28 u29 u30 u31 u32 u33 u34 u35 u36 u37 u38 u39 u40 u41 u42 u43 u44 u45 u46 u47 u48 u49 u50 u51 u52 u53 u54 u55 u56 u57 u58 u59 u60 u61 u62 u63 u64 u65 u66 u67 u68 u69 u70 u71 u72 u73 u74 u75 u76 u78 u79 u80 u81 u82 u83 u84 u85 u86 u87 u88 u89 u90 u91 u92 u93 u94 u95 u96 u97 u98 u99 u100 u101 u102 u103 u104 u105 u106 u107 u108 u109 u110 u111 u112 u113 u114 u115 u116 u117 u118 u119 u120 u121 u122 u123 u124 u125 u126 u127 u128 u129 u130 u131 u132 u133 u134 u135 u136 u137 u138 u139 u140 u141 u142 u143 u144 u145 u146 u147 u148 u149 u150 u151 u152 u153 u154 u155 u156 u157 u158 u159 u160 u161 u162 u163 u164 u165 u166 u167 u168 u169 u170 u171 u172 u173 u174 u175 u176 u177 u178 u179 u180 u181 u182 u183 u184 u185 u186 u187 u188 u189 u190 u191 u192 u193 u194 u195 u196 u197 u198 u199 u200 u201 u202 u203 u204 u205 u206 u207 u208 u209 u210 u211 u212 u213 u214 u215 u216 u217 u218 u219 u220 u221 u222 u223 u224 u225 u226 u227 u228 u229 u230 u231 u232 u233 u234 u235 u236 u237 u238 u239 u240 u241 u242 u243 u244 u245 u246 u247 u248 u249 u250 u251 u252 u253 u254 u255 u256 u257 u258 u259 u260 u261 u262 u263 u264 u265 u266 u267 u268 u269 u270 : Value)
    (hBW : Below N0 W0 wr) (h10 : wr.ownsRow N0 5 1 (.slice (some ⟨g10, 0, none⟩) n10 c10) n10 (S10.map (Value.int .u8))) (h11 : wr.ownsRow N0 5 1 (.slice (some ⟨g11, 0, none⟩) n11 c11) n11 (S11.map (Value.int .u8))) (h13 : wr.ownsRow N0 79 6 v13 i (L.flatMap Tel.val))
    (hb17 : wr.heap[B17]? = some (.cells (t.frame.map (Value.int .u8)).toArray 80 (0, 0))) (hb16 : wr.heap[B16]? = some (.cells #[.int .i64 t.s, .int .i64 t.c, .int .i64 t.o, .int .i64 t.x, .int .i64 t.y, .int .i64 t.z] 79 (0, 0)))
    (hQ : ∀ (w' : World) (g10' c10' g11' c11' : Nat) (v13' : Value) (v147 v148 v149 v150 v151 v152 v153 v154 v155 v156 v157 v158 v159 : Value), Below N0 W0 w' → g10' ≠ g11' → w'.ownsRow N0 5 1 (.slice (some ⟨g10', 0, none⟩) (n10 + 24) c10') (n10 + 24) ((S10 ++ t.frame).map (Value.int .u8)) → w'.ownsRow N0 5 1 (.slice (some ⟨g11', 0, none⟩) (n11 + (if i = k then 0 else 24)) c11') (n11 + (if i = k then 0 else 24)) ((S11 ++ (if i = k then [] else t.frame)).map (Value.int .u8)) → w'.ownsRow N0 79 6 v13' (i + 1) ((L ++ [t]).flatMap Tel.val) → Q .normal ⟨#[u0, u1, u2, u3, u4, u5, u6, u7, u8, u9, .slice (some ⟨g10', 0, none⟩) (n10 + 24) c10', .slice (some ⟨g11', 0, none⟩) (n11 + (if i = k then 0 else 24)) c11', .int .i64 (k : Nat), v13', .int .i64 (i : Nat), u15, .pointer (some ⟨B16, 0, none⟩), .pointer (some ⟨B17, 0, none⟩), u18, u19, u20, u21, u22, u23, u24, u25, u26, u27, u28, u29, u30, u31, u32, u33, u34, u35, u36, u37, u38, u39, u40, u41, u42, u43, u44, u45, u46, u47, u48, u49, u50, u51, u52, u53, u54, u55, u56, u57, u58, u59, u60, u61, u62, u63, u64, u65, u66, u67, u68, u69, u70, u71, u72, u73, u74, u75, u76, .int .i64 (i : Nat), u78, u79, u80, u81, u82, u83, u84, u85, u86, u87, u88, u89, u90, u91, u92, u93, u94, u95, u96, u97, u98, u99, u100, u101, u102, u103, u104, u105, u106, u107, u108, u109, u110, u111, u112, u113, u114, u115, u116, u117, u118, u119, u120, u121, u122, u123, u124, u125, u126, u127, u128, u129, u130, u131, u132, u133, u134, u135, u136, u137, u138, u139, u140, u141, u142, u143, u144, u145, u146, v147, v148, v149, v150, v151, v152, v153, v154, v155, v156, v157, v158, v159, u160, u161, u162, u163, u164, u165, u166, u167, u168, u169, u170, u171, u172, u173, u174, u175, u176, u177, u178, u179, u180, u181, u182, u183, u184, u185, u186, u187, u188, u189, u190, u191, u192, u193, u194, u195, u196, u197, u198, u199, u200, u201, u202, u203, u204, u205, u206, u207, u208, u209, u210, u211, u212, u213, u214, u215, u216, u217, u218, u219, u220, u221, u222, u223, u224, u225, u226, u227, u228, u229, u230, u231, u232, u233, u234, u235, u236, u237, u238, u239, u240, u241, u242, u243, u244, u245, u246, u247, u248, u249, u250, u251, u252, u253, u254, u255, u256, u257, u258, u259, u260, u261, u262, u263, u264, u265, u266, u267, u268, u269, u270], []⟩ w') :
    Code.wp Tryz.prog (cutF 28) Q ⟨#[u0, u1, u2, u3, u4, u5, u6, u7, u8, u9, .slice (some ⟨g10, 0, none⟩) n10 c10, .slice (some ⟨g11, 0, none⟩) n11 c11, .int .i64 (k : Nat), v13, .int .i64 (i : Nat), u15, .pointer (some ⟨B16, 0, none⟩), .pointer (some ⟨B17, 0, none⟩), u18, u19, u20, u21, u22, u23, u24, u25, u26, u27, u28, u29, u30, u31, u32, u33, u34, u35, u36, u37, u38, u39, u40, u41, u42, u43, u44, u45, u46, u47, u48, u49, u50, u51, u52, u53, u54, u55, u56, u57, u58, u59, u60, u61, u62, u63, u64, u65, u66, u67, u68, u69, u70, u71, u72, u73, u74, u75, u76, .int .i64 (i : Nat), u78, u79, u80, u81, u82, u83, u84, u85, u86, u87, u88, u89, u90, u91, u92, u93, u94, u95, u96, u97, u98, u99, u100, u101, u102, u103, u104, u105, u106, u107, u108, u109, u110, u111, u112, u113, u114, u115, u116, u117, u118, u119, u120, u121, u122, u123, u124, u125, u126, u127, u128, u129, u130, u131, u132, u133, u134, u135, u136, u137, u138, u139, u140, u141, u142, u143, u144, u145, u146, u147, u148, u149, u150, u151, u152, u153, u154, u155, u156, u157, u158, u159, u160, u161, u162, u163, u164, u165, u166, u167, u168, u169, u170, u171, u172, u173, u174, u175, u176, u177, u178, u179, u180, u181, u182, u183, u184, u185, u186, u187, u188, u189, u190, u191, u192, u193, u194, u195, u196, u197, u198, u199, u200, u201, u202, u203, u204, u205, u206, u207, u208, u209, u210, u211, u212, u213, u214, u215, u216, u217, u218, u219, u220, u221, u222, u223, u224, u225, u226, u227, u228, u229, u230, u231, u232, u233, u234, u235, u236, u237, u238, u239, u240, u241, u242, u243, u244, u245, u246, u247, u248, u249, u250, u251, u252, u253, u254, u255, u256, u257, u258, u259, u260, u261, u262, u263, u264, u265, u266, u267, u268, u269, u270], []⟩ wr := by
  conv => arg 2; whnf
  dsimp only
  obtain ⟨i2, hk2, hxa, hxb, hxc⟩ := info_parts Tryz.infoByteX
  obtain ⟨i0, hi, hz0, hz1, hz2⟩ := info_parts Tryz.infoTel
  have l17 := lt_of_blk hb17
  have l16 := lt_of_blk hb16
  have l11 := (h11.lt g11 rfl).2
  have l10 := (h10.lt g10 rfl).2
  have b10 := (h10.lt g10 rfl).1
  have b11 := (h11.lt g11 rfl).1
  have q17 : g11 ≠ B17 := row_ne_blk h11 hb17 (by decide)
  have q16 : g11 ≠ B16 := row_ne_blk h11 hb16 (by decide)
  have p16 : g10 ≠ B16 := row_ne_blk h10 hb16 (by decide)
  have p17 : g10 ≠ B17 := row_ne_blk h10 hb17 (by decide)
  have hN : N0 ≤ wr.heap.size := by rw [hN0]; exact hBW.size
  have HQ := Lib.hid hQ
  have H10 := Lib.hid h10
  have H11 := Lib.hid h11
  have H13 := Lib.hid h13
  have B16H := Lib.hid hb16
  have B17H := Lib.hid hb17
  have HBW := Lib.hid hBW
  have HL := Lib.hid hL
  have hfl : (t.frame.map (Value.int .u8)).length = 24 * 1 := rfl
  clear hQ h10 h11 h13 hb16 hb17 hBW hL
  have hwi : IntKind.i64.wrap ((i : Int) + 1) = ((i + 1 : Nat) : Int) := by rw [show (i : Int) + 1 = ((i + 1 : Nat) : Int) by omega]; exact IntWalk.i64_in _ ⟨by omega, by omega⟩
  go_upto_region 29 with (at_builtin; refine wpList_append_own_at _ rfl (.tmp 147) (.tmp 148) 71 rfl N0 5 i2 (.int .u8 0) 1 1 Tryz.underlying71 hk2 hxa hxb hxc rfl (by decide) _ n10 _ rfl H10.out ⟨B17, 0, none⟩ 24 24 (t.frame.map (Value.int .u8)) rfl hfl (news_blk B17H.out) (one_byts _) (by unfold maxLen; omega) (by omega) (by omega) ?_; intro v1 w1 hO1 hG1 _ hx1; obtain ⟨g1, c1, rfl, _, _⟩ := owns_some hO1 (by omega))
  have hw1 : wr.heap.size ≤ w1.heap.size := hG1.size
  have h16 : w1.heap[B16]? = _ := (hG1.block B16 l16 (own_other p16)).trans B16H.out
  have h17 : w1.heap[B17]? = _ := (hG1.block B17 l17 (own_other p17)).trans B17H.out
  have k11 := H11.out.kept hG1 (.inr (fun e => hg (Option.some.inj e).symm))
  have k13 := H13.out.kept hG1 (own_ne H13.out H10.out (by decide))
  have kB : Below N0 W0 w1 := HBW.out.grown hG1 hN (fun q hq => by cases hq; exact b10)
  have kg : g1 ≠ g11 := by
    rcases hx1 with e | e
    · have e' : g1 = g10 := Option.some.inj e
      omega
    · have e' : g1 = wr.heap.size := Option.some.inj e
      omega
  have O1 := Lib.hid hO1
  have K11 := Lib.hid k11
  have K13 := Lib.hid k13
  have KB := Lib.hid kB
  have H16 := Lib.hid h16
  have H17 := Lib.hid h17
  clear hO1 hG1 hx1 k11 k13 kB h16 h17 H10 H11 H13 B16H B17H HBW
  by_cases hik : i = k
  · rw [if_pos hik, if_pos hik, Nat.add_zero, List.append_nil] at HQ
    subst hik

    go_wp2_with (first
      | (refine wpList_load_row rfl 79 (.tmp 16) rfl B16 rfl 79 _ (0, 0) _ H16.out Tryz.underlying79 rfl (by kernel_rfl) ?_)
      | (at_builtin; refine wpList_append_own_at _ rfl (.tmp 156) (.tmp 158) 73 rfl N0 79 i0 (.agg #[.int .i64 0, .int .i64 0, .int .i64 0, .int .i64 0, .int .i64 0, .int .i64 0]) 6 48 Tryz.underlying73 hi hz0 hz1 hz2 rfl (by decide) _ i _ rfl (K13.out.alloc _) ⟨w1.heap.size, 0, none⟩ 1 1 t.val rfl rfl (news_alloc w1 t.val 79) (one_val t) (by unfold maxLen; omega) (by omega) (by have := KB.out.size; simp; omega) ?_; intro v3 w3 hO3 hG3 _ _))
    have hA3 : Below w1.heap.size w1 (w1.alloc (.cells t.val.toArray 79)) := (Below.refl _ _).alloc (Nat.le_refl _) _
    have hW3 : Below N0 W0 w3 := Below.grown (Below.alloc KB.out (by have := KB.out.size; omega) (.cells t.val.toArray 79)) hG3 (by have := KB.out.size; simp; omega) (fun q hq => (K13.out.lt q hq).1)
    have e3 : (L ++ [t]).flatMap Tel.val = L.flatMap Tel.val ++ t.val := by simp
    refine HQ.out _ _ _ _ _ _ _ _ _ _ _ _ _ _ _ _ _ _ _ hW3 kg ?_ ?_ (by rw [e3]; exact hO3)
    · have h := ((O1.out).alloc (.cells t.val.toArray 79)).kept hG3 (own_ne ((O1.out).alloc _) ((K13.out).alloc (.cells t.val.toArray 79)) (by decide))
      rw [List.map_append]
      exact h
    · have h := ((K11.out).alloc (.cells t.val.toArray 79)).kept hG3 (own_ne ((K11.out).alloc _) ((K13.out).alloc (.cells t.val.toArray 79)) (by decide))
      exact h
  · have hikI : ¬ ((i : Int) = (k : Int)) := by omega
    rw [if_neg hik, if_neg hik] at HQ
    have l11' := (K11.out.lt g11 rfl).2
    have l10' := (O1.out.lt g1 rfl).2
    have l16' := lt_of_blk H16.out
    go_upto_region 31 with (at_builtin; refine wpList_append_own_at _ rfl (.tmp 153) (.tmp 154) 71 rfl N0 5 i2 (.int .u8 0) 1 1 Tryz.underlying71 hk2 hxa hxb hxc rfl (by decide) _ n11 _ rfl K11.out ⟨B17, 0, none⟩ 24 24 (t.frame.map (Value.int .u8)) rfl hfl (news_blk H17.out) (one_byts _) (by unfold maxLen; omega) (by omega) (by have := KB.out.size; omega) ?_; intro v2 w2 hO2 hG2 _ hy2; obtain ⟨g2, c2, rfl, _, _⟩ := owns_some hO2 (by omega))
    have H16b : Hid (w2.heap[B16]? = _) := Lib.hid ((hG2.block B16 l16' (own_other q16)).trans H16.out)
    have K10b := Lib.hid (O1.out.kept hG2 (.inr (fun e => kg (Option.some.inj e))))
    have K13b := Lib.hid (K13.out.kept hG2 (own_ne K13.out K11.out (by decide)))
    have KBb : Hid (Below N0 W0 w2) := Lib.hid (KB.out.grown hG2 (by have := KB.out.size; omega) (fun q hq => by cases hq; exact b11))
    have kg2 : g1 ≠ g2 := by
      rcases hy2 with e | e
      · have e' : g2 = g11 := Option.some.inj e
        omega
      · have e' : g2 = w1.heap.size := Option.some.inj e
        omega
    have O2 := Lib.hid hO2
    clear hO2 hG2 hy2

    go_wp2_with (first
      | (refine wpList_load_row rfl 79 (.tmp 16) rfl B16 rfl 79 _ (0, 0) _ H16b.out Tryz.underlying79 rfl (by kernel_rfl) ?_)
      | (at_builtin; refine wpList_append_own_at _ rfl (.tmp 156) (.tmp 158) 73 rfl N0 79 i0 (.agg #[.int .i64 0, .int .i64 0, .int .i64 0, .int .i64 0, .int .i64 0, .int .i64 0]) 6 48 Tryz.underlying73 hi hz0 hz1 hz2 rfl (by decide) _ i _ rfl (K13b.out.alloc _) ⟨w2.heap.size, 0, none⟩ 1 1 t.val rfl rfl (news_alloc w2 t.val 79) (one_val t) (by unfold maxLen; omega) (by omega) (by have := KBb.out.size; simp; omega) ?_; intro v3 w3 hO3 hG3 _ _))
    have hA3 : Below w2.heap.size w2 (w2.alloc (.cells t.val.toArray 79)) := (Below.refl _ _).alloc (Nat.le_refl _) _
    have hW3 : Below N0 W0 w3 := Below.grown (Below.alloc KBb.out (by have := KBb.out.size; omega) (.cells t.val.toArray 79)) hG3 (by have := KBb.out.size; simp; omega) (fun q hq => (K13b.out.lt q hq).1)
    have e3 : (L ++ [t]).flatMap Tel.val = L.flatMap Tel.val ++ t.val := by simp
    refine HQ.out _ _ _ _ _ _ _ _ _ _ _ _ _ _ _ _ _ _ _ hW3 kg2 ?_ ?_ (by rw [e3]; exact hO3)
    · have h := ((K10b.out).alloc (.cells t.val.toArray 79)).kept hG3 (own_ne ((K10b.out).alloc _) ((K13b.out).alloc (.cells t.val.toArray 79)) (by decide))
      rw [List.map_append]
      exact h
    · have h := ((O2.out).alloc (.cells t.val.toArray 79)).kept hG3 (own_ne ((O2.out).alloc _) ((K13b.out).alloc (.cells t.val.toArray 79)) (by decide))
      rw [List.map_append]
      exact h
end Go.Proofs.YtfpagmalblmnkaaGreatDoor
