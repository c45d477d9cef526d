/-
  The walk of awake, chapter 1's fixed examples: the whole of it.
-/
import Derived.Test.YthmaoeajbmfmaaaGreatDoorDVj
import Derived.Deep.CutBlock
import Derived.Deep.DeepCutAuto
import Derived.Test.YthmaoeajbmfmaaaGreatDoorDBd
import Derived.Test.YthmaoeajbmfmaaaGreatDoorDJi
import Derived.Test.YthmaoeajbmfmaaaGreatDoorDBv
import Derived.Test.YthmaoeajbmfmaaaGreatDoorDXe
namespace Go.Proofs.YthmaoeajbmfmaaaGreatDoor
open Go.RowKit Go.Shelf
set_option linter.unusedVariables false
set_option linter.unusedSimpArgs false

set_option maxRecDepth 1000000 in
set_option maxHeartbeats 12800000 in
theorem awk19 (w : World) : Awk19 w := by
  unfold Awk19
  intro wx B16 B18 B20 B22 B24 B26 B28 a32 c32 u1 u2 u3 u4 u5 u6 u7 u8 u9 u10 u11 u12 u13 u14 u15 u34 u35 u36 u37 u38 u39 u40 u41 u42 u43 u44 u45 u46 u47 u48 u49 u50 u51 u52 u53 u54 u55 u56 u57 u58 u59 u60 u61 u62 u63 u64 u65 u66 u67 u68 u69 u70 u71 u72 u73 u74 u75 u76 u77 u78 u79 u80 u81 u82 u83 u84 u85 u86 u87 u88 u89 u90 u91 u92 u93 u94 u95 u96 u97 u98 u99 u100 u101 u102 u103 u104 u105 u106 u107 u108 u109 u110 u111 u112 u113 u114 u115 u116 u117 u118 u119 u120 u121 u122 u123 u124 u125 u126 u127 u128 u129 u130 u131 u132 u133 u134 u135 u136 u137 u138 u139 u140 u141 u142 u143 u144 u145 u146 u147 u148 u149 u150 u151 u152 u153 u154 u155 u156 u157 u158 u159 u160 u161 u162 u163 u164 u165 u166 u167 u168 u169 u170 u171 u172 u173 u174 u175 u176 u177 u178 u179 u180 u181 u182 u183 u184 u185 u186 u187 u188 u189 u190 u191 u192 u193 u194 u195 u196 u197 u198 u199 u200 u201 u202 u203 u204 u205 u206 u207 u208 u209 u210 u211 u212 u213 u214 u215 u216 u217 u218 u219 u220 u221 u222 u223 u224 u225 u226 u227 u228 u229 u230 u231 u232 u233 u234 u235 u236 u237 u238 u239 u240 u241 u242 u243 u244 u245 u246 u247 u248 u249 u250 u251 u252 u253 u254 u255 u256 hB f16 f18 f20 f22 f24 f26 f28
  conv => arg 2; whnf
  dsimp only
  have K := Lib.hid (draw_lit wx)
  go_wp2_with (go_at_call 75; refine K.out.mono ?_; rintro e w1 ⟨gd, cd, rfl, hgd, hcd, hb1⟩)
  replace f16 := f16.kept hb1
  replace f18 := f18.kept hb1
  replace f20 := f20.kept hb1
  replace f22 := f22.kept hb1
  replace f24 := f24.kept hb1
  replace f26 := f26.kept hb1
  replace f28 := f28.kept hb1
  obtain ⟨g16, b16, h16⟩ := f16
  obtain ⟨g18, b18, h18⟩ := f18
  obtain ⟨g20, b20, h20⟩ := f20
  obtain ⟨g22, b22, h22⟩ := f22
  have hmix : Tryz.prog.follows Departure.mixedOrders = true := by kernel_rfl
  refine (wpIn_wide (n := 6)).1 ?_
  refine wpIn_region_heldI (S20 w1) hmix ?_
  change wpAnyHIn _ _ _ _ _ _ _ 72 _ _ w1.drew
  have hBw := hB.trans (hb1.mono hB.size)
  refine r20a _ (fun c a d v w h => by cases d <;> exact h) w1 _ (Below.refl w1.heap.size w1).drew a32 c32 B16 g16 b16 h16 B18 g18 b18 h18 B20 g20 b20 h20 B22 g22 b22 h22 B24 f24 B26 f26 B28 f28 gd cd hgd hcd ?_ _ (by kernel_rfl) _ _ _ _ _ _ _ _ _ _ _ _ _ _ _ _ _ _ _ _ _ _ _ _ _ _ _ _ _ _ _ _ _ _ _ _ _ _ _ _ _ _ _ _ _ _ _ _ _ _ _ _ _ _ _ _ _ _ _ _ _ _ _ _ _ _ _ _ _ _ _ _ _ _ _ _ _ _ _ _ _ _ _ _ _ _ _ _ _ _ _ _ _ _ _ _ _ _ _ _ _ _ _ _ _ _ _ _ _ _ _ _ _ _ _ _ _ _ _ _ _ _ _ _ _ _ _ _ _ _ _ _ _ _ _ _ _ _ _ _ _ _ _ _ _ _ _ _ _ _ _ _ _ _ _ _ _ _ _ _ _ _ _ _ _ _ _ _ _ _ _ _ _ _ _ _ _ _ _ _ _ _ _ _ _ _ _ _ _ _ _ _ _ _ _ _ _ _ _ _ _ _ _ _ _ _ _ _ _ _ _ _ _ _ _ _ _ _ _ _ _ _ _ _ _ _ _ _ _ _ _ _ _ _ _ _ _
  unfold End20
  intro V v1 v2 v3 v4 v5 v6 v7 v8 v9 v10 v11 v12 v13 v14 v15 v16 v17 v18 v19 v20 v21 v22 v23 v24 v25 v26 v27 v28 v29 v30 v31 v32 v33 v34 v35 v36 v37 v38 v39 v40 v41 v42 v43 v44 v45 v46 v47 v48 v49 v50 v51 v52 v53 v54 v55 v56 v57 v58 v59 v60 v61 v62 v63 v64 v65 v66 v67 v68 v69 v70 v71 v72 v73 v74 v75 v76 v77 v78 v79 v80 v81 v82 v83 v84 v85 v86 v87 v88 v89 v90 v91 v92 v93 v94 v95 v96 v97 v98 v99 v100 v101 v102 v103 v104 v105 v106 v107 v108 v109 v110 v111 v112 v113 v114 v115 v116 v117 v118 v119 v120 v121 v122 v123 v124 v125 v126 v127 v128 v129 v130 v131 v132 v133 v134 v135 v136 v137 v138 v139 v140 v141 v142 v143 v144 v145 v146 v147 v148 v149 v150 v151 v152 v153 v154 v155 v156 v157 v158 v159 v160 v161 v162 v163 v164 v165 v166 v167 v168 v169 v170 v171 v172 v173 v174 v175 v176 v177 v178 v179 v180 v181 v182 v183 v184 v185 v186 v187 v188 v189 v190 v191 v192 v193 v194 v195 v196 v197 v198 v199 v200 v201 v202 v203 v204 v205 v206 v207 v208 v209 v210 v211 v212 v213 v214 v215 v216 v217 v218 v219 v220 v221 v222 v223 v224 v225 v226 v227 v228 v229 v230 v231 v232 v233 v234 v235 v236 v237 v238 v239 v240 v241 v242 v243 v244 v245 v246 v247 v248 v249 v250 v251 v252 v253 v254 v255 v256 hV
  go_wp2
  go_ret
  exact ⟨rfl, hBw.trans (hV.mono hBw.size)⟩

theorem awk1_any (w : World) (ht : TabAt w) : Awk1 w :=
  awk1 w (awk2 w (awk3 w (awk4 w (awk5 w (awk6 w (awk7 w (awk8 w (awk10 w (awk11 w (awk12 w (awk13 w (awk14 w (awk15 w (awk16 w (awk17 w ht (awk18 w (awk19 w)))))))))))))))))

set_option maxRecDepth 1000000 in
set_option maxHeartbeats 12800000 in
/-- The fixed examples of chapter 1 hold. -/
theorem awake_any (w : World) (ht : TabAt w) : Calls Tryz.prog 18 #[] w fun e w' => e = .returned (.bool true) ∧ Below w.heap.size w w' := by
  have hT := awk1_any w ht
  show Calls Tryz.prog 18 #[] w (TruePost w)
  go_enter Tryz.func18, Tryz.ntmps18
  go_upto_region 0 with fail
  go_cut [0] (fun s0 wr => s0 = .bool false ∧ wr = w)
  case first =>
    go_wp2_with fail
    go_meet
    exact ⟨rfl, rfl⟩
  case rest =>
    rename_i hK
    obtain ⟨rfl, rfl⟩ := hcut
    refine hK _ _ ?_
    clear hK
    unfold Awk1 at hT
    exact hT _ _ _ _ _ _ _ _ _ _ _ _ _ _ _ _ _ _ _ _ _ _ _ _ _ _ _ _ _ _ _ _ _ _ _ _ _ _ _ _ _ _ _ _ _ _ _ _ _ _ _ _ _ _ _ _ _ _ _ _ _ _ _ _ _ _ _ _ _ _ _ _ _ _ _ _ _ _ _ _ _ _ _ _ _ _ _ _ _ _ _ _ _ _ _ _ _ _ _ _ _ _ _ _ _ _ _ _ _ _ _ _ _ _ _ _ _ _ _ _ _ _ _ _ _ _ _ _ _ _ _ _ _ _ _ _ _ _ _ _ _ _ _ _ _ _ _ _ _ _ _ _ _ _ _ _ _ _ _ _ _ _ _ _ _ _ _ _ _ _ _ _ _ _ _ _ _ _ _ _ _ _ _ _ _ _ _ _ _ _ _ _ _ _ _ _ _ _ _ _ _ _ _ _ _ _ _ _ _ _ _ _ _ _ _ _ _ _ _ _ _ _ _ _ _ _ _ _ _ _ _ _ _ _ _ _ _ _ _ _ _ _ _ _ _ _ _ _ _ _ _ _ _ _ _ _ _ (Below.refl _ _)

end Go.Proofs.YthmaoeajbmfmaaaGreatDoor

/-
  What the walks of chapter 1's rows share: the cells of a map's variable, a map's own copy.
-/
namespace Go.Proofs.YthmaoeajbmfmaaaGreatDoor
open Go.RowKit
set_option linter.unusedVariables false
set_option linter.unusedSimpArgs false

theorem map_cells {w : World} {B : Nat} {W H : Int} {a : Option Addr} {n c : Nat} (h : w.heap[B]? = some (.cells #[.int .i64 W, .int .i64 H, .slice a n c] 66 (0, 0))) :
    w.cell? ⟨B, 0, none⟩ = some (.int .i64 W) ∧ w.cell? ⟨B, 1, none⟩ = some (.int .i64 H) ∧ w.cell? ⟨B, 2, none⟩ = some (.slice a n c) :=
  ⟨by rw [cell_of_row w _ 0 _ _ (0, 0) h]; rfl, by rw [cell_of_row w _ 1 _ _ (0, 0) h]; rfl, by rw [cell_of_row w _ 2 _ _ (0, 0) h]; rfl⟩
theorem own_of (W H : Int) (a : Option Addr) (n c : Nat) (xs : List Nat) (hm : n ≤ 100000) (wx : World) (hM : AnyMap wx a n c xs) : Calls Tryz.prog 30 #[.agg #[.int .i64 W, .int .i64 H, .slice a n c]] wx fun e w' =>
    ∃ g c', e = .returned (.agg #[.int .i64 W, .int .i64 H, .slice (some ⟨g, 0, none⟩) n c']) ∧ AnyMap w' (some ⟨g, 0, none⟩) n c' xs ∧ Below wx.heap.size wx w' :=
  (lawOwn_all W H a n c xs hm hM).mono fun e w' h => h.map hM.len hM.words
end Go.Proofs.YthmaoeajbmfmaaaGreatDoor

/-
  Contracts of both Packs for every map, and the strings of bytes.
-/
namespace Go.Proofs.YthmaoeajbmfmaaaGreatDoor
open Go.RowKit
set_option linter.unusedVariables false
set_option linter.unusedSimpArgs false

/-- A slice of bytes that is nil, or lies in memory. -/
def BytesIn (w : World) (a : Option Addr) (n : Nat) (S : List Int) : Prop :=
  (a = none ∧ n = 0 ∧ S = []) ∨ ∃ b o, a = some ⟨b, o, none⟩ ∧ b < w.heap.size ∧ S.length = n ∧ w.rangeAt b o (S.map (Value.int .u8))
theorem BytesIn.kept {w w' : World} {a : Option Addr} {n : Nat} {S : List Int} (h : BytesIn w a n S) (hb : Below w.heap.size w w') : BytesIn w' a n S := by
  rcases h with h | ⟨b, o, h1, h2, h3, h4⟩
  · exact .inl h
  · exact .inr ⟨b, o, h1, Nat.lt_of_lt_of_le h2 hb.size, h3, range_below h4 hb h2⟩
theorem BytesIn.conv {w : World} {a : Option Addr} {n c : Nat} {S : List Int} (h : BytesIn w a n S) : (convert 45 9 (.slice a n c)).run Tryz.prog w = .ok (.string (strOfNums S)) w := by
  rcases h with ⟨rfl, rfl, rfl⟩ | ⟨b, o, rfl, h2, h3, h4⟩
  · exact run_convert_bytes_nil (P := Tryz.prog) w 45 5 Tryz.underlying45 Tryz.underlying5 0 c 9 Tryz.underlying9
  · exact run_convert_bytes_arg (P := Tryz.prog) w 45 5 Tryz.underlying45 Tryz.underlying5 b o n c S h3 (fun i hi => range_cells h4 i (by rw [h3]; exact hi)) 9 Tryz.underlying9
theorem BytesIn.of_row {w : World} {B n : Nat} {v : Value} {S : List Int} (hl : S.length = n) (hn : 1 ≤ n) (h : w.ownsRow B 5 1 v n (S.map (Value.int .u8))) :
    ∃ a c, v = .slice a n c ∧ BytesIn w a n S := by
  rcases h.2 with ⟨rfl, rfl⟩ | ⟨g, cap, cur, rfl, hb, hg, h1, h2, _⟩
  · omega
  · exact ⟨_, _, rfl, .inr ⟨g, 0, rfl, lt_of_blk hg, hl, fun i u hu => by
      have h3 := h.cells (g := g) rfl i u hu
      rwa [Addr.add_mid] at h3⟩⟩

noncomputable def packOf (W H : Int) (n : Nat) (xs : List Nat) : List Int := if mapErr W H n xs = 0 then packL W.toNat H.toNat (xs.map kOf) else []
theorem packL_len (W H : Nat) (ks : List Int) : (packL W H ks).length = 10 + 4 * ks.length := by
  simp [packL, packS, packHead, packBody_len, wordOf]; omega

set_option maxRecDepth 100000 in
set_option maxHeartbeats 3200000 in
theorem pack_bad (W H : Int) (a : Option Addr) (n c : Nat) (r : Int) (hr0 : r ≠ 0) (w : World)
    (hC : ∀ w1 : World, Below w.heap.size w w1 → Calls Tryz.prog 89 #[.agg #[.int .i64 W, .int .i64 H, .slice a n c]] w1 fun e w' => e = .returned (.int .i64 r) ∧ Below w1.heap.size w1 w') :
    Calls Tryz.prog 29 #[.agg #[.int .i64 W, .int .i64 H, .slice a n c]] w fun e w' =>
      e = .returned (.tuple #[.slice none 0 0, .int .i64 r]) ∧ Below w.heap.size w w' := by
  have e0 : (r != 0) = true := by simp [hr0]
  have HC := Lib.hid hC
  clear hr0 hC
  have hB0 : ∀ o1, Below w.heap.size w (w.alloc o1) := fun o1 => (Below.refl _ w).alloc (Nat.le_refl _) _
  have HB0 := Lib.hid hB0
  clear hB0
  go_enter Tryz.func29, Tryz.ntmps29
  go_wp2_with (go_at_call 89; refine (HC.out _ (HB0.out _)).mono ?_; rintro e w1 ⟨rfl, hb1⟩)
  go_ret2
  exact ⟨rfl, (HB0.out _).trans (hb1.mono (by simp))⟩

theorem pack_all (W H : Int) (a : Option Addr) (n c : Nat) (xs : List Nat) (w : World) (hM : AnyMap w a n c xs) :
    Calls Tryz.prog 29 #[.agg #[.int .i64 W, .int .i64 H, .slice a n c]] w fun e w' =>
      ∃ a1 n1 c1, e = .returned (.tuple #[.slice a1 n1 c1, .int .i64 (mapErr W H n xs)]) ∧ BytesIn w' a1 n1 (packOf W H n xs) ∧ Below w.heap.size w w' := by
  by_cases h0 : mapErr W H n xs = 0
  · obtain ⟨b, o, rfl, hb, hR⟩ := hM.rightK h0
    obtain ⟨Wn, rfl⟩ := Int.eq_ofNat_of_zero_le (show 0 ≤ W by have := hR.wid; omega)
    obtain ⟨Hn, rfl⟩ := Int.eq_ofNat_of_zero_le (show 0 ≤ H by have := hR.hei; omega)
    have e : packOf Wn Hn n xs = packL Wn Hn (xs.map kOf) := by unfold packOf; rw [if_pos h0]; rfl
    rw [h0, e]
    refine (pack_any Wn Hn b o c n xs (xs.map kOf) w hR hb).mono fun e w' ⟨v, he, ho, hbw⟩ => ?_
    obtain ⟨a1, c1, rfl, hB⟩ := BytesIn.of_row (by rw [packL_len, List.length_map, hM.len]) (by omega) ho
    exact ⟨a1, _, c1, he, hB, hbw⟩
  · have e : packOf W H n xs = [] := by unfold packOf; rw [if_neg h0]
    rw [e]
    exact (pack_bad W H a n c _ h0 w (check_of W H a n c xs w hM)).mono fun e w' ⟨he, hb⟩ => ⟨none, 0, 0, he, .inl ⟨rfl, rfl, rfl⟩, hb⟩

theorem refPack_all (W H : Int) (a : Option Addr) (n c : Nat) (xs : List Nat) (h0 : mapErr W H n xs = 0) (w : World) (hM : AnyMap w a n c xs) :
    Calls Tryz.prog 33 #[.agg #[.int .i64 W, .int .i64 H, .slice a n c]] w fun e w' =>
      ∃ a1 n1 c1, e = .returned (.slice a1 n1 c1) ∧ BytesIn w' a1 n1 (packOf W H n xs) ∧ Below w.heap.size w w' := by
  obtain ⟨b, o, rfl, hb, hR⟩ := hM.rightK h0
  obtain ⟨Wn, rfl⟩ := Int.eq_ofNat_of_zero_le (show 0 ≤ W by have := hR.wid; omega)
  obtain ⟨Hn, rfl⟩ := Int.eq_ofNat_of_zero_le (show 0 ≤ H by have := hR.hei; omega)
  have e : packOf Wn Hn n xs = packL Wn Hn (xs.map kOf) := by unfold packOf; rw [if_pos h0]; rfl
  rw [e]
  refine (refPack_any Wn Hn b o c n xs (xs.map kOf) w hR hb).mono fun e w' ⟨v, he, ho, hbw⟩ => ?_
  obtain ⟨a1, c1, rfl, hB⟩ := BytesIn.of_row (by rw [packL_len, List.length_map, hM.len]) (by omega) ho
  exact ⟨a1, _, c1, he, hB, hbw⟩

/-- What both Unpacks give, in one contract. -/
theorem unpacks (S : List Int) (n : Nat) (hn : n ≤ 400 ∨ n = 400001) : ∃ (q W H : Int) (L : List Int),
    (∀ (a : Option Addr) (c : Nat), n ≤ c → c ≤ 9223372036854775807 → ∀ w1 : World, AnyBytes w1 a n S → Calls Tryz.prog 31 #[.slice a n c] w1 (UnRes w1 q W H L)) ∧
    (∀ (a : Option Addr) (c : Nat), n ≤ c → c ≤ 9223372036854775807 → ∀ w1 : World, AnyBytes w1 a n S → Calls Tryz.prog 34 #[.slice a n c] w1 (UnRes w1 q W H L)) := by
  rcases hn with hn | rfl
  · exact ⟨unErr S, unW S, unH S, unL S, fun a c h1 h2 w1 hA => unpack_all S a n c hn h1 h2 w1 hA, fun a c h1 h2 w1 hA => refUnpack_all S a n c hn h1 h2 w1 hA⟩
  · exact ⟨26, 0, 0, [], fun a c h1 h2 w1 hA => unpack_long 0 0 [] a 400001 c (by omega) (by omega) w1, fun a c h1 h2 w1 hA => refUnpack_long S 0 0 [] a 400001 c (by omega) (by omega) w1⟩
end Go.Proofs.YthmaoeajbmfmaaaGreatDoor
