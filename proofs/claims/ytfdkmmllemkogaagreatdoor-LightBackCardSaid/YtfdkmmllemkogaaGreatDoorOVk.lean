/-
  The walk of awake, chapter 1's fixed examples: the whole of it.
-/
import Derived.Test.YtfdkmmllemkogaaGreatDoorOVj
import Derived.Deep.CutBlock
import Derived.Deep.DeepCutAuto
import Derived.Test.YtfdkmmllemkogaaGreatDoorOWf
namespace Go.Proofs.YtfdkmmllemkogaaGreatDoor
open Go.RowKit Go.Shelf
set_option linter.unusedVariables false
set_option linter.unusedSimpArgs false

set_option maxRecDepth 1000000 in
set_option maxHeartbeats 12800000 in
theorem awk19 (w : World) : Awk19 w := by
  unfold Awk19
  intro wx B16 B18 B20 B22 B24 B26 B28 a32 c32 u1 u2 u3 u4 u5 u6 u7 u8 u9 u10 u11 u12 u13 u14 u15 u34 u35 u36 u37 u38 u39 u40 u41 u42 u43 u44 u45 u46 u47 u48 u49 u50 u51 u52 u53 u54 u55 u56 u57 u58 u59 u60 u61 u62 u63 u64 u65 u66 u67 u68 u69 u70 u71 u72 u73 u74 u75 u76 u77 u78 u79 u80 u81 u82 u83 u84 u85 u86 u87 u88 u89 u90 u91 u92 u93 u94 u95 u96 u97 u98 u99 u100 u101 u102 u103 u104 u105 u106 u107 u108 u109 u110 u111 u112 u113 u114 u115 u116 u117 u118 u119 u120 u121 u122 u123 u124 u125 u126 u127 u128 u129 u130 u131 u132 u133 u134 u135 u136 u137 u138 u139 u140 u141 u142 u143 u144 u145 u146 u147 u148 u149 u150 u151 u152 u153 u154 u155 u156 u157 u158 u159 u160 u161 u162 u163 u164 u165 u166 u167 u168 u169 u170 u171 u172 u173 u174 u175 u176 u177 u178 u179 u180 u181 u182 u183 u184 u185 u186 u187 u188 u189 u190 u191 u192 u193 u194 u195 u196 u197 u198 u199 u200 u201 u202 u203 u204 u205 u206 u207 u208 u209 u210 u211 u212 u213 u214 u215 u216 u217 u218 u219 u220 u221 u222 u223 u224 u225 u226 u227 u228 u229 u230 u231 u232 u233 u234 u235 u236 u237 u238 u239 u240 u241 u242 u243 u244 u245 u246 u247 u248 u249 u250 u251 u252 u253 u254 u255 u256 hB f16 f18 f20 f22 f24 f26 f28
  conv => arg 2; whnf
  dsimp only
  have K := Lib.hid (draw_lit wx)
  go_wp2_with (go_at_call 20; refine K.out.mono ?_; rintro e w1 ⟨gd, cd, rfl, hgd, hcd, hb1⟩)
  replace f16 := f16.kept hb1
  replace f18 := f18.kept hb1
  replace f20 := f20.kept hb1
  replace f22 := f22.kept hb1
  replace f24 := f24.kept hb1
  replace f26 := f26.kept hb1
  replace f28 := f28.kept hb1
  obtain ⟨g16, b16, h16⟩ := f16
  obtain ⟨g18, b18, h18⟩ := f18
  obtain ⟨g20, b20, h20⟩ := f20
  obtain ⟨g22, b22, h22⟩ := f22
  have hmix : Tryz.prog.follows Departure.mixedOrders = true := by kernel_rfl
  refine (wpIn_wide (n := 6)).1 ?_
  refine wpIn_region_heldI (S20 w1) hmix ?_
  change wpAnyHIn _ _ _ _ _ _ _ 72 _ _ w1.drew
  have hBw := hB.trans (hb1.mono hB.size)
  refine r20a _ (fun c a d v w h => by cases d <;> exact h) w1 _ (Below.refl w1.heap.size w1).drew a32 c32 B16 g16 b16 h16 B18 g18 b18 h18 B20 g20 b20 h20 B22 g22 b22 h22 B24 f24 B26 f26 B28 f28 gd cd hgd hcd ?_ _ (by kernel_rfl) _ _ _ _ _ _ _ _ _ _ _ _ _ _ _ _ _ _ _ _ _ _ _ _ _ _ _ _ _ _ _ _ _ _ _ _ _ _ _ _ _ _ _ _ _ _ _ _ _ _ _ _ _ _ _ _ _ _ _ _ _ _ _ _ _ _ _ _ _ _ _ _ _ _ _ _ _ _ _ _ _ _ _ _ _ _ _ _ _ _ _ _ _ _ _ _ _ _ _ _ _ _ _ _ _ _ _ _ _ _ _ _ _ _ _ _ _ _ _ _ _ _ _ _ _ _ _ _ _ _ _ _ _ _ _ _ _ _ _ _ _ _ _ _ _ _ _ _ _ _ _ _ _ _ _ _ _ _ _ _ _ _ _ _ _ _ _ _ _ _ _ _ _ _ _ _ _ _ _ _ _ _ _ _ _ _ _ _ _ _ _ _ _ _ _ _ _ _ _ _ _ _ _ _ _ _ _ _ _ _ _ _ _ _ _ _ _ _ _ _ _ _ _ _ _ _ _ _ _ _ _ _ _ _ _ _ _
  unfold End20
  intro V v1 v2 v3 v4 v5 v6 v7 v8 v9 v10 v11 v12 v13 v14 v15 v16 v17 v18 v19 v20 v21 v22 v23 v24 v25 v26 v27 v28 v29 v30 v31 v32 v33 v34 v35 v36 v37 v38 v39 v40 v41 v42 v43 v44 v45 v46 v47 v48 v49 v50 v51 v52 v53 v54 v55 v56 v57 v58 v59 v60 v61 v62 v63 v64 v65 v66 v67 v68 v69 v70 v71 v72 v73 v74 v75 v76 v77 v78 v79 v80 v81 v82 v83 v84 v85 v86 v87 v88 v89 v90 v91 v92 v93 v94 v95 v96 v97 v98 v99 v100 v101 v102 v103 v104 v105 v106 v107 v108 v109 v110 v111 v112 v113 v114 v115 v116 v117 v118 v119 v120 v121 v122 v123 v124 v125 v126 v127 v128 v129 v130 v131 v132 v133 v134 v135 v136 v137 v138 v139 v140 v141 v142 v143 v144 v145 v146 v147 v148 v149 v150 v151 v152 v153 v154 v155 v156 v157 v158 v159 v160 v161 v162 v163 v164 v165 v166 v167 v168 v169 v170 v171 v172 v173 v174 v175 v176 v177 v178 v179 v180 v181 v182 v183 v184 v185 v186 v187 v188 v189 v190 v191 v192 v193 v194 v195 v196 v197 v198 v199 v200 v201 v202 v203 v204 v205 v206 v207 v208 v209 v210 v211 v212 v213 v214 v215 v216 v217 v218 v219 v220 v221 v222 v223 v224 v225 v226 v227 v228 v229 v230 v231 v232 v233 v234 v235 v236 v237 v238 v239 v240 v241 v242 v243 v244 v245 v246 v247 v248 v249 v250 v251 v252 v253 v254 v255 v256 hV
  go_wp2
  go_ret
  exact ⟨rfl, hBw.trans (hV.mono hBw.size)⟩

theorem awk1_any (w : World) (ht : TabAt w) : Awk1 w :=
  awk1 w (awk2 w (awk3 w (awk4 w (awk5 w (awk6 w (awk7 w (awk8 w (awk10 w (awk11 w (awk12 w (awk13 w (awk14 w (awk15 w (awk16 w (awk17 w ht (awk18 w (awk19 w)))))))))))))))))

set_option maxRecDepth 1000000 in
set_option maxHeartbeats 12800000 in
/-- The fixed examples of chapter 1 hold. -/
theorem awake_any (w : World) (ht : TabAt w) : Calls Tryz.prog 19 #[] w fun e w' => e = .returned (.bool true) ∧ Below w.heap.size w w' := by
  have hT := awk1_any w ht
  show Calls Tryz.prog 19 #[] w (TruePost w)
  go_enter Tryz.func19, Tryz.ntmps19
  go_upto_region 0 with fail
  go_cut [0] (fun s0 wr => s0 = .bool false ∧ wr = w)
  case first =>
    go_wp2_with fail
    go_meet
    exact ⟨rfl, rfl⟩
  case rest =>
    rename_i hK
    obtain ⟨rfl, rfl⟩ := hcut
    refine hK _ _ ?_
    clear hK
    unfold Awk1 at hT
    exact hT _ _ _ _ _ _ _ _ _ _ _ _ _ _ _ _ _ _ _ _ _ _ _ _ _ _ _ _ _ _ _ _ _ _ _ _ _ _ _ _ _ _ _ _ _ _ _ _ _ _ _ _ _ _ _ _ _ _ _ _ _ _ _ _ _ _ _ _ _ _ _ _ _ _ _ _ _ _ _ _ _ _ _ _ _ _ _ _ _ _ _ _ _ _ _ _ _ _ _ _ _ _ _ _ _ _ _ _ _ _ _ _ _ _ _ _ _ _ _ _ _ _ _ _ _ _ _ _ _ _ _ _ _ _ _ _ _ _ _ _ _ _ _ _ _ _ _ _ _ _ _ _ _ _ _ _ _ _ _ _ _ _ _ _ _ _ _ _ _ _ _ _ _ _ _ _ _ _ _ _ _ _ _ _ _ _ _ _ _ _ _ _ _ _ _ _ _ _ _ _ _ _ _ _ _ _ _ _ _ _ _ _ _ _ _ _ _ _ _ _ _ _ _ _ _ _ _ _ _ _ _ _ _ _ _ _ _ _ _ _ _ _ _ _ _ _ _ _ _ _ _ _ _ _ _ _ _ (Below.refl _ _)

end Go.Proofs.YtfdkmmllemkogaaGreatDoor

/-
  Plain facts on any word of float32: the error that a sample's check answers for it (smpErr), and what the steps of the program's check make of the number that it stands for.
-/
namespace Go.Proofs.YtfdkmmllemkogaaGreatDoor
open Ieee

/-- The error of a word as a sample: 1 for what is no number, 3 for no multiple of 1/16 up to 1024, otherwise 0. -/
def smpErr (x : Nat) : Int :=
  match single.read x with
  | .number _ m e => if m * 2 ^ (e - single.leastPlace).toNat ≤ 1024 * 2 ^ 149 ∧ m * 2 ^ (e - single.leastPlace).toNat % 2 ^ 145 = 0 then 0 else 3
  | _ => 1

theorem smpErr_num {x : Nat} {s : Bool} {v : Nat} (h : IsNum single x s v) : smpErr x = if v ≤ 1024 * 2 ^ 149 ∧ v % 2 ^ 145 = 0 then 0 else 3 := by
  obtain ⟨m, e, h1, _, _, rfl⟩ := h
  unfold smpErr
  rw [h1]

theorem smpErr_ok {x : Nat} {s : Bool} {v : Nat} (h : IsNum single x s v) (h1 : v ≤ 1024 * 2 ^ 149) (h2 : v % 2 ^ 145 = 0) : smpErr x = 0 := by
  rw [smpErr_num h, if_pos ⟨h1, h2⟩]
theorem smpErr_large {x : Nat} {s : Bool} {v : Nat} (h : IsNum single x s v) (h1 : ¬ v ≤ 1024 * 2 ^ 149) : smpErr x = 3 := by
  rw [smpErr_num h, if_neg fun hh => h1 hh.1]
theorem smpErr_fine {x : Nat} {s : Bool} {v : Nat} (h : IsNum single x s v) (h1 : ¬ v % 2 ^ 145 = 0) : smpErr x = 3 := by
  rw [smpErr_num h, if_neg fun hh => h1 hh.2]
theorem smpErr_nan {x : Nat} {a : Bool} {b : Nat} (h : single.read x = .nan a b) : smpErr x = 1 := by unfold smpErr; rw [h]
theorem smpErr_inf {x : Nat} {s : Bool} (h : single.read x = .infinity s) : smpErr x = 1 := by unfold smpErr; rw [h]

/-- A finite word of float32 stands for at most the greatest one. -/
theorem num_bound {x : Nat} {s : Bool} {m : Nat} {e : Int} (h : single.read x = .number s m e) : m * 2 ^ (e - single.leastPlace).toNat ≤ 16777215 * 2 ^ 253 := by
  have hm : m < 2 ^ 24 := by
    obtain ⟨m', e', k1, _, k3, _⟩ := isNum_of_read h
    rw [h] at k1
    simp only [Datum.number.injEq] at k1
    rw [k1.2.1]; exact k3
  have he : (e - single.leastPlace).toNat ≤ 253 := by
    have hi : single.infRung = 255 * single.binade := by decide
    have hbp : 0 < single.binade := Nat.two_pow_pos _
    unfold Format.read at h
    dsimp only at h
    split at h
    · simp only [Datum.number.injEq] at h; omega
    · split at h
      · rename_i hlt
        simp only [Datum.number.injEq] at h
        rw [hi] at hlt
        have := Nat.div_lt_of_lt_mul (show x % single.signWeight < single.binade * 255 by rw [Nat.mul_comm]; exact hlt)
        omega
      · split at h <;> cases h
  exact Nat.mul_le_mul (by omega) (Nat.pow_le_pow_right (by omega) he)

/-- Every word is no number, or stands for one up to the greatest. -/
theorem smp_class (x : Nat) : (∃ a b, single.read x = .nan a b) ∨ (∃ s, single.read x = .infinity s) ∨ ∃ s v, IsNum single x s v ∧ v ≤ 16777215 * 2 ^ 253 := by
  cases hd : single.read x with
  | nan a b => exact .inl ⟨a, b, rfl⟩
  | infinity s => exact .inr (.inl ⟨s, rfl⟩)
  | number s m e => exact .inr (.inr ⟨s, _, isNum_of_read hd, num_bound hd⟩)

theorem smpErr_zero {x : Nat} (h : smpErr x = 0) : ∃ k, Smp x k ∧ k.natAbs ≤ 16384 := by
  rcases smp_class x with ⟨a, b, hd⟩ | ⟨s, hd⟩ | ⟨s, v, hn, _⟩
  · rw [smpErr_nan hd] at h; cases h
  · rw [smpErr_inf hd] at h; cases h
  · rw [smpErr_num hn] at h
    split at h
    · rename_i hh
      obtain ⟨h1, h2⟩ := hh
      have e : v = v / 2 ^ 145 * 2 ^ 145 := by
        have := Nat.div_add_mod v (2 ^ 145)
        rw [h2, Nat.add_zero, Nat.mul_comm] at this; exact this.symm
      have hq : v / 2 ^ 145 ≤ 16384 := by
        have := Nat.div_le_div_right (c := 2 ^ 145) h1
        have e2 : 1024 * 2 ^ 149 = 16384 * 2 ^ 145 := by decide +kernel
        rwa [e2, Nat.mul_div_cancel _ (Nat.two_pow_pos _)] at this
      generalize v / 2 ^ 145 = p at e hq
      have hpa : (sgn s p).natAbs = p := by unfold sgn; cases s <;> simp
      refine ⟨sgn s p, ⟨s, ?_, ?_, ?_⟩, by rw [hpa]; exact hq⟩
      · rw [hpa, ← e]; exact hn
      · intro hs; unfold sgn at hs; cases s
        · simp only [Bool.false_eq_true, if_false] at hs; omega
        · rfl
      · intro hs; unfold sgn at hs; cases s
        · rfl
        · simp only [if_true] at hs; omega
    · cases h

theorem IsNum.lt_false {f : Format} {x y : Nat} {s t : Bool} {v u : Nat} (h : IsNum f x s v) (g : IsNum f y t u) (hle : sgn t u ≤ sgn s v) : (f.order x y == some .lt) = false := by
  rw [h.order g]
  have : compare (sgn s v) (sgn t u) ≠ .lt := by
    show compareOfLessAndEq _ _ ≠ _
    unfold compareOfLessAndEq
    rw [if_neg (by omega)]
    split <;> simp
  cases hc : compare (sgn s v) (sgn t u) <;> simp_all

theorem sgn_ge_neg {s : Bool} {v u : Nat} (h : v ≤ u) : sgn true u ≤ sgn s v := by unfold sgn; cases s <;> simp <;> omega
theorem sgn_le_pos {s : Bool} {v u : Nat} (h : v ≤ u) : sgn s v ≤ sgn false u := by unfold sgn; cases s <;> simp <;> omega

theorem max32p : IsNum single 2139095039 false (16777215 * 2 ^ 253) := ⟨16777215, 104, by decide +kernel, by decide, by decide, by decide +kernel⟩
theorem max32n : IsNum single 4286578687 true (16777215 * 2 ^ 253) := ⟨16777215, 104, by decide +kernel, by decide, by decide, by decide +kernel⟩

theorem smp_t1 {x : Nat} (t1 : (single.order x x != some .eq) = true) : smpErr x = 1 := by
  rcases smp_class x with ⟨a, b, hd⟩ | ⟨s, hd⟩ | ⟨s, v, hn, _⟩
  · exact smpErr_nan hd
  · exact smpErr_inf hd
  · rw [hn.self] at t1; cases t1
theorem smp_t2 {x : Nat} (t2 : (single.order x 2139095039 == some .gt) = true) : smpErr x = 1 := by
  rcases smp_class x with ⟨a, b, hd⟩ | ⟨s, hd⟩ | ⟨s, v, hn, hv⟩
  · exact smpErr_nan hd
  · exact smpErr_inf hd
  · rw [hn.gt_false max32p (sgn_le_pos hv)] at t2; cases t2
theorem smp_t3 {x : Nat} (t3 : (single.order x 4286578687 == some .lt) = true) : smpErr x = 1 := by
  rcases smp_class x with ⟨a, b, hd⟩ | ⟨s, hd⟩ | ⟨s, v, hn, hv⟩
  · exact smpErr_nan hd
  · exact smpErr_inf hd
  · rw [hn.lt_false max32n (sgn_ge_neg hv)] at t3; cases t3

theorem smp_num {x : Nat} (t1 : (single.order x x != some .eq) = false) (t2 : (single.order x 2139095039 == some .gt) = false) (t3 : (single.order x 4286578687 == some .lt) = false) :
    ∃ s v, IsNum single x s v := by
  rcases smp_class x with ⟨a, b, hd⟩ | ⟨s, hd⟩ | ⟨s, v, hn, hv⟩
  · exfalso
    have : single.order x x = none := by unfold Format.order; rw [hd]; rfl
    rw [this] at t1; cases t1
  · exfalso
    cases s with
    | false =>
      have hm : single.read 2139095039 = .number false 16777215 104 := by decide +kernel
      have : single.order x 2139095039 = some .gt := by unfold Format.order; rw [hd, hm]; rfl
      rw [this] at t2; cases t2
    | true =>
      have hm : single.read 4286578687 = .number true 16777215 104 := by decide +kernel
      have : single.order x 4286578687 = some .lt := by unfold Format.order; rw [hd, hm]; rfl
      rw [this] at t3; cases t3
  · exact ⟨s, v, hn⟩

theorem smp_t4 {x : Nat} (t1 : (single.order x x != some .eq) = false) (t2 : (single.order x 2139095039 == some .gt) = false) (t3 : (single.order x 4286578687 == some .lt) = false)
    (t4 : (single.order x 1149239296 == some .gt) = true) : smpErr x = 3 := by
  obtain ⟨s, v, hn⟩ := smp_num t1 t2 t3
  refine smpErr_large hn fun hv => ?_
  rw [hn.gt_false isNum1024 (sgn_le_pos hv)] at t4; cases t4
theorem smp_t5 {x : Nat} (t1 : (single.order x x != some .eq) = false) (t2 : (single.order x 2139095039 == some .gt) = false) (t3 : (single.order x 4286578687 == some .lt) = false)
    (t5 : (single.order x 3296722944 == some .lt) = true) : smpErr x = 3 := by
  obtain ⟨s, v, hn⟩ := smp_num t1 t2 t3
  refine smpErr_large hn fun hv => ?_
  rw [hn.lt_false isNum1024n (sgn_ge_neg hv)] at t5; cases t5

theorem compare_self (a : Int) : compare a a = .eq := by
  show compareOfLessAndEq _ _ = _
  unfold compareOfLessAndEq; simp

/-- The reference's last test, exactly. -/
theorem checkPart_exact {x : Nat} {s : Bool} {v : Nat} (h : IsNum single x s v) (hv : v ≤ 1024 * 2 ^ 149) :
    ∃ r q, floatBits .mul .f32 1098907648 x = some r ∧ floatToIntVal .f32 r .i64 = some q ∧ ((single.order (floatOfInt .f32 q) r != some .eq) = false → smpErr x = 0) ∧ ((single.order (floatOfInt .f32 q) r != some .eq) = true → smpErr x = 3) := by
  obtain ⟨r, q, h1, h2, h3⟩ := checkPart_fin h hv
  refine ⟨r, q, h1, h2, fun hh => ?_, fun hh => smpErr_fine h fun hm => ?_⟩
  · obtain ⟨⟨t, hn, _, _⟩, _⟩ := h3 hh
    have e : q.natAbs * 2 ^ 145 % 2 ^ 145 = 0 := Nat.mul_mod_left _ _
    rw [smpErr_num hn]
    refine if_pos ⟨?_, e⟩
    have hq : q.natAbs ≤ 16384 := (h3 hh).2
    have := Nat.mul_le_mul_right (2 ^ 145) hq
    have e2 : 1024 * 2 ^ 149 = 16384 * 2 ^ 145 := by decide +kernel
    rw [e2]; exact this
  · have e : v = v / 2 ^ 145 * 2 ^ 145 := by
      have := Nat.div_add_mod v (2 ^ 145)
      rw [hm, Nat.add_zero, Nat.mul_comm] at this; exact this.symm
    have hq : v / 2 ^ 145 ≤ 16384 := by
      have := Nat.div_le_div_right (c := 2 ^ 145) hv
      have e2 : 1024 * 2 ^ 149 = 16384 * 2 ^ 145 := by decide +kernel
      rwa [e2, Nat.mul_div_cancel _ (Nat.two_pow_pos _)] at this
    generalize hp : v / 2 ^ 145 = p at e hq
    have hpa : (sgn s p).natAbs = p := by unfold sgn; cases s <;> simp
    have hc : single.read 1098907648 = .number false (2 ^ single.fractionBits) (((4 : Nat) : Int) - single.fractionBits) := by decide +kernel
    have hmax : v * 2 ^ 4 < 2 ^ (single.fractionBits + 2 ^ single.exponentBits - 2) := by
      have h1 : v < 2 ^ 160 := Nat.lt_of_le_of_lt hv (by decide)
      exact pow_split_lt h1 (by decide)
    obtain ⟨r', _, m2, m3⟩ := h.mul_pow two32 hc hmax
    have er : r = r' := by
      have := h1.symm.trans (show floatBits .mul .f32 1098907648 x = some r' from m2)
      simpa using this
    subst er
    have ht := m3.toInt (by decide)
    have eL : (-single.leastPlace).toNat = 149 := by decide
    have ev : v * 2 ^ 4 = p * 2 ^ 149 := by rw [e, Nat.mul_assoc]
    rw [eL, ev, Nat.mul_div_cancel _ (Nat.two_pow_pos _)] at ht
    have eq : q = sgn s p := by
      unfold floatToIntVal at h2
      have ht' : (FloatKind.f32.decode r).toInt .zero = some (sgn s p) := ht
      rw [ht'] at h2
      have : IntKind.i64.min ≤ sgn s p ∧ sgn s p ≤ IntKind.i64.max := by
        have e1 : IntKind.i64.min = -9223372036854775808 := by decide
        have e2 : IntKind.i64.max = 9223372036854775807 := by decide
        rw [e1, e2]; omega
      simp only [this, and_self, if_true, Option.some.injEq] at h2
      exact h2.symm
    have hy := isNum_ofInt (sgn s p) (by rw [hpa]; exact Nat.lt_of_le_of_lt hq (by decide))
    rw [eq, hy.order m3, hpa, ev] at hh
    have hs : sgn (decide (sgn s p < 0)) (p * 2 ^ 149) = sgn s (p * 2 ^ 149) := by
      cases s with
      | false =>
        have : decide (sgn false p < 0) = false := by unfold sgn; simp
        rw [this]
      | true =>
        by_cases hp0 : p = 0
        · subst hp0; rw [Nat.zero_mul]; decide
        · have : decide (sgn true p < 0) = true := by unfold sgn; simp; omega
          rw [this]
    rw [hs, compare_self] at hh
    cases hh

/-- math.Trunc of a number. -/
theorem trunc_num {d : Nat} {s : Bool} {v : Nat} (h : IsNum double d s v) (hv : v < 2 ^ 2097) :
    ∃ t, (FloatKind.f64.decode d).integral .zero = .number s (v / 2 ^ 1074) 0 ∧ FloatKind.f64.encode (.number s (v / 2 ^ 1074) 0) = t ∧ IsNum double t s (v / 2 ^ 1074 * 2 ^ 1074) := by
  have e0 : ((0 : Int) - double.leastPlace).toNat = 1074 := by decide
  have hD : double.leastPlace = -1074 := by decide
  have hB : double.fractionBits + 2 ^ double.exponentBits - 2 = 2098 := by decide
  generalize hu : (1074 : Nat) = u at *
  generalize hb : (2098 : Nat) = B at *
  generalize hb' : (2097 : Nat) = B' at *
  have hvB : v < 2 ^ B := Nat.lt_trans hv ((Nat.pow_lt_pow_iff_right (by omega)).2 (by omega))
  obtain ⟨m, i, h1, h2, h3, h4⟩ := h
  rw [hD] at h2 h4
  have h1' : FloatKind.f64.decode d = .number s m i := h1
  rw [h1']
  simp only [Datum.integral, cut_zero]
  rw [Nat.shiftLeft_eq]
  by_cases hi : 0 ≤ i
  · have e1 : (-i).toNat = 0 := by omega
    have e2 : m * 2 ^ i.toNat * 2 ^ u = m * 2 ^ (i - -1074).toNat := mul_pow_join m _ u _ (by omega)
    have ek : v / 2 ^ u = m * 2 ^ i.toNat := by rw [← h4, ← e2]; exact Nat.mul_div_cancel _ (Nat.two_pow_pos _)
    have hmax : m * 2 ^ (i - double.leastPlace).toNat < 2 ^ (double.fractionBits + 2 ^ double.exponentBits - 2) := by
      rw [hB, hD, h4]; exact hvB
    have hg := isNum_nearest two64 s m i.toNat i h3 (by rw [hD]; exact h2) hmax
    have e3 : i - (i.toNat : Int) = 0 := by omega
    rw [e3, hD, ← e2] at hg
    rw [e1, Nat.pow_zero, Nat.div_one, ek]
    exact ⟨_, rfl, rfl, hg⟩
  · have e1 : i.toNat = 0 := by omega
    have e2 : (2 : Nat) ^ u = 2 ^ (i - -1074).toNat * 2 ^ (-i).toNat := by rw [← Nat.pow_add]; congr 1; omega
    have ek : v / 2 ^ u = m / 2 ^ (-i).toNat := by
      rw [← h4, e2, ← Nat.div_div_eq_div_mul, Nat.mul_div_cancel _ (Nat.two_pow_pos _)]
    have hk : m / 2 ^ (-i).toNat < 2 ^ (double.fractionBits + 1) := Nat.lt_of_le_of_lt (Nat.div_le_self _ _) h3
    have hmax : m / 2 ^ (-i).toNat * 2 ^ ((0 : Int) - double.leastPlace).toNat < 2 ^ (double.fractionBits + 2 ^ double.exponentBits - 2) := by
      rw [e0, hB, ← ek]
      exact Nat.lt_of_le_of_lt (Nat.div_mul_le_self _ _) hvB
    have hg := isNum_nearest two64 s (m / 2 ^ (-i).toNat) 0 0 hk (by decide) hmax
    rw [e0, Nat.pow_zero, Nat.mul_one] at hg
    rw [e1, Nat.pow_zero, Nat.mul_one, ek]
    exact ⟨_, rfl, rfl, hg⟩

theorem IsNum.eq_decide {f : Format} {x y : Nat} {s : Bool} {v u : Nat} (h : IsNum f x s v) (g : IsNum f y s u) : (f.order x y == some .eq) = decide (v = u) := by
  rw [h.order g]
  by_cases e : v = u
  · subst e; rw [compare_self]; simp
  · rw [decide_eq_false e]
    have : compare (sgn s v) (sgn s u) ≠ .eq := by
      intro hh
      have := cmp_eq_of hh
      unfold sgn at this
      cases s <;> simp at this <;> omega
    cases hc : compare (sgn s v) (sgn s u) <;> simp_all
theorem IsNum.le_decide {f : Format} {x y : Nat} {v u : Nat} (h : IsNum f x false v) (g : IsNum f y false u) : (f.order x y == some .lt || f.order x y == some .eq) = decide (v ≤ u) := by
  by_cases e : v ≤ u
  · rw [decide_eq_true e, h.le_true g (sgn_le' e)]
  · rw [decide_eq_false e, h.order g, cmp_gt_of (show sgn false u < sgn false v by unfold sgn; simp; omega)]
    rfl

theorem fine_iff (v : Nat) : v * 2 ^ 925 * 2 ^ 4 = v * 2 ^ 925 * 2 ^ 4 / 2 ^ 1074 * 2 ^ 1074 ↔ v % 2 ^ 145 = 0 := by
  generalize hu : (925 : Nat) = u
  generalize hw : (1074 : Nat) = w
  rw [mul_pow_join v u 4 (u + 4) rfl]
  have e : (2 : Nat) ^ w = 2 ^ 145 * 2 ^ (u + 4) := by rw [← Nat.pow_add]; congr 1; omega
  have hp : 0 < 2 ^ (u + 4) := Nat.two_pow_pos _
  rw [e, Nat.mul_div_mul_right _ _ hp, ← Nat.mul_assoc]
  constructor
  · intro h
    have := Nat.eq_of_mul_eq_mul_right hp h
    have h2 := Nat.div_add_mod v (2 ^ 145)
    rw [Nat.mul_comm, ← this] at h2
    omega
  · intro h
    have h2 := Nat.div_add_mod v (2 ^ 145)
    rw [h, Nat.add_zero, Nat.mul_comm] at h2
    rw [h2]
theorem large_iff (v : Nat) : v * 2 ^ 925 * 2 ^ 4 ≤ 16384 * 2 ^ 1074 ↔ v ≤ 1024 * 2 ^ 149 := by
  generalize hu : (925 : Nat) = u
  generalize hw : (1074 : Nat) = w
  rw [mul_pow_join v u 4 (u + 4) rfl]
  have e : 16384 * (2 : Nat) ^ w = 1024 * 2 ^ 149 * 2 ^ (u + 4) := by
    rw [show (1024 : Nat) = 2 ^ 10 from rfl, show (16384 : Nat) = 2 ^ 14 from rfl, ← Nat.pow_add, ← Nat.pow_add, ← Nat.pow_add]
    congr 1; omega
  rw [e]
  exact Nat.mul_le_mul_right_iff (Nat.two_pow_pos _)

/-- What the program's test computes for a number of float32: all its words and comparisons. -/
theorem multiple_words {x : Nat} {s : Bool} {v : Nat} (h : IsNum single x s v) (hv : v ≤ 16777215 * 2 ^ 253) :
    ∃ d n t, floatToFloatBits .f32 x .f64 = some d ∧ IsNum double d s (v * 2 ^ 925) ∧ floatBits .mul .f64 d 4625196817309499392 = some n ∧
      (FloatKind.f64.decode n).integral .zero = .number s (v * 2 ^ 925 * 2 ^ 4 / 2 ^ 1074) 0 ∧ FloatKind.f64.encode (.number s (v * 2 ^ 925 * 2 ^ 4 / 2 ^ 1074) 0) = t ∧
      (double.order n t == some .eq) = decide (v % 2 ^ 145 = 0) ∧
      (double.order (n % 9223372036854775808) 4670232813583204352 == some .lt || double.order (n % 9223372036854775808) 4670232813583204352 == some .eq) = decide (v ≤ 1024 * 2 ^ 149) := by
  have hv2 : v < 2 ^ 277 := Nat.lt_of_le_of_lt hv (by decide +kernel)
  obtain ⟨d, h1, h2⟩ := toF64 277 h hv2 (by omega)
  have hb : v * 2 ^ 925 < 2 ^ (277 + 925) := by
    generalize hu : (925 : Nat) = u
    exact pow_split hv2
  obtain ⟨n, n1, n2⟩ := mul16_64 (277 + 925) h2 hb (by omega)
  have hb2 : v * 2 ^ 925 * 2 ^ 4 < 2 ^ 2097 := by
    generalize hu : (925 : Nat) = u at *
    generalize hw : (2097 : Nat) = w
    exact pow_split_lt hb (by omega)
  obtain ⟨t, t1, t2, t3⟩ := trunc_num n2 hb2
  refine ⟨d, n, t, h1, h2, n1, t1, t2, ?_, ?_⟩
  · rw [n2.eq_decide t3]
    exact decide_eq_decide.2 (fine_iff v)
  · rw [n2.abs64.le_decide max16384]
    exact decide_eq_decide.2 (large_iff v)
end Go.Proofs.YtfdkmmllemkogaaGreatDoor

/-
  Contracts of the check of a sample, of the program and of the reference, for every word: both answer smpErr.
-/
namespace Go.Proofs.YtfdkmmllemkogaaGreatDoor
open Go.RowKit
set_option linter.unusedVariables false

set_option maxHeartbeats 1600000 in
theorem checkPart_all (x : Nat) (w : World) :
    Calls Tryz.prog 119 #[.float .f32 x, .int .i64 1024] w fun e w' => e = .returned (.int .i64 (smpErr x)) ∧ w = w' := by
  have c0 := run_ofInt 1024
  rw [float1024] at c0
  have c1 := run_sub 23 sub1024
  by_cases t1 : (FloatKind.f32.format.order x x != some .eq) = true
  · rw [smp_t1 t1]
    go_enter Tryz.func119, Tryz.ntmps119
    go_wp2
    go_ret
    exact ⟨rfl, rfl⟩
  have t1 := Bool.eq_false_iff.2 t1
  by_cases t2 : (FloatKind.f32.format.order x 2139095039 == some .gt) = true
  · rw [smp_t2 t2]
    go_enter Tryz.func119, Tryz.ntmps119
    go_wp2
    go_ret
    exact ⟨rfl, rfl⟩
  have t2 := Bool.eq_false_iff.2 t2
  by_cases t3 : (FloatKind.f32.format.order x 4286578687 == some .lt) = true
  · rw [smp_t3 t3]
    go_enter Tryz.func119, Tryz.ntmps119
    go_wp2
    go_ret
    exact ⟨rfl, rfl⟩
  have t3 := Bool.eq_false_iff.2 t3
  by_cases t4 : (FloatKind.f32.format.order x 1149239296 == some .gt) = true
  · rw [smp_t4 t1 t2 t3 t4]
    go_enter Tryz.func119, Tryz.ntmps119
    go_wp2
    go_ret
    exact ⟨rfl, rfl⟩
  have t4 := Bool.eq_false_iff.2 t4
  by_cases t5 : (FloatKind.f32.format.order x 3296722944 == some .lt) = true
  · rw [smp_t5 t1 t2 t3 t5]
    go_enter Tryz.func119, Tryz.ntmps119
    go_wp2
    go_ret
    exact ⟨rfl, rfl⟩
  have t5 := Bool.eq_false_iff.2 t5
  obtain ⟨s, v, hn, hv⟩ := checkPart_num t1 t2 t3 t4 t5
  obtain ⟨r, q, m1, m2, m3, m4⟩ := checkPart_exact hn hv
  have c2 := run_mul 23 m1
  have c3 := run_toInt m2
  have c4 := run_ofInt q
  clear hn hv m1 m2
  by_cases t6 : (FloatKind.f32.format.order (floatOfInt .f32 q) r != some .eq) = true
  · rw [m4 t6]
    clear m3 m4
    go_enter Tryz.func119, Tryz.ntmps119
    go_wp2_with (go_at_call 42; refine (when_any true 3 _).mono ?_; rintro e w' ⟨rfl, rfl⟩)
    go_ret
    exact ⟨rfl, rfl⟩
  have t6 := Bool.eq_false_iff.2 t6
  rw [m3 t6]
  clear m3 m4
  go_enter Tryz.func119, Tryz.ntmps119
  go_wp2_with (go_at_call 42; refine (when_any false 3 _).mono ?_; rintro e w' ⟨rfl, rfl⟩)
  go_ret
  exact ⟨rfl, rfl⟩

set_option maxHeartbeats 400000 in
theorem refCheckSample_all (x : Nat) (w : World) :
    Calls Tryz.prog 31 #[.float .f32 x] w fun e w' => e = .returned (.int .i64 (smpErr x)) ∧ w = w' := by
  go_enter Tryz.func31, Tryz.ntmps31
  go_wp2_with (go_at_call 119; refine (checkPart_all x _).mono ?_; rintro e w' ⟨rfl, rfl⟩)
  go_ret
  exact ⟨rfl, rfl⟩

/-! ### The program's -/

/-- What is no number is converted to some such word of float64. -/
theorem run_nan64 {x : Nat} {a : Bool} {b : Nat} (h : Ieee.single.read x = .nan a b) (w : World) :
    ∃ d, (convert 23 183 (.float .f32 x)).run Tryz.prog w = .ok (.float .f64 d) w.drew ∧ ∃ a b, Ieee.double.read d = .nan a b := by
  have hs : Tryz.prog.underlying 23 = some (.float .f32) := Tryz.underlying23
  have hd : Tryz.prog.underlying 183 = some (.float .f64) := Tryz.underlying183
  have hx : FloatKind.f32.decode x = .nan a b := h
  refine ⟨(Question.nanConv .f64 x).cut (w.tape w.drawn (.nanConv .f64 x)), ?_, ?_⟩
  · simp [convert, run_underlying hs, run_underlying hd, Conv.floatToFloat, hx, Question.forced]
  · generalize w.tape w.drawn (.nanConv .f64 x) = t
    show ∃ a b, Ieee.double.read ((t % 2) * 2 ^ 63 + 0x7ff0000000000000 + 1 + (t / 2) % (2 ^ 52 - 1)) = .nan a b
    have e1 : Ieee.double.signWeight = 9223372036854775808 := by decide +kernel
    have e2 : Ieee.double.infRung = 9218868437227405312 := by decide +kernel
    unfold Ieee.Format.read
    have e3 : Ieee.double.binade = 4503599627370496 := by decide +kernel
    simp only [e1, e2, e3]
    have h1 := Nat.mod_lt (t / 2) (show 0 < 2 ^ 52 - 1 by decide)
    have h2 := Nat.mod_lt t (show 0 < 2 by decide)
    generalize t / 2 % (2 ^ 52 - 1) = p at h1
    generalize t % 2 = q at h2
    have h3 : (q * 2 ^ 63 + 9218868437227405312 + 1 + p) % 9223372036854775808 = 9218868437227405312 + 1 + p := by omega
    rw [h3, if_neg (by omega), if_neg (by omega), if_neg (by omega)]
    exact ⟨_, _, rfl⟩

theorem run_inf64 {x : Nat} {s : Bool} (h : Ieee.single.read x = .infinity s) :
    ∃ d, (∀ w : World, (convert 23 183 (.float .f32 x)).run Tryz.prog w = .ok (.float .f64 d) w) ∧ d < 18446744073709551616 ∧ Ieee.double.order d d = some .eq ∧
      (Ieee.double.order (d % 9223372036854775808) 9218868437227405311 == some .gt) = true := by
  have hx : FloatKind.f32.decode x = .infinity s := h
  have hf : floatToFloatBits .f32 x .f64 = some (FloatKind.f64.encode (.infinity s)) := by
    unfold floatToFloatBits
    have hne : ¬ FloatKind.f32 = FloatKind.f64 := by decide
    simp only [hne, if_false, hx]
  refine ⟨_, run_to64 hf, ?_, ?_, ?_⟩ <;> cases s <;> decide +kernel

set_option maxHeartbeats 1000000 in
theorem isNaN_nan (d : Nat) (h : ∃ a b, Ieee.double.read d = .nan a b) (w : World) :
    Calls Tryz.prog 194 #[.float .f64 d] w fun e w' => e = .returned (.bool true) ∧ w = w' := by
  have h1 : FloatKind.f64.format.order d d = none := by
    obtain ⟨a, b, h⟩ := h
    show Ieee.double.order d d = none
    unfold Ieee.Format.order; rw [h]; rfl
  clear h
  go_enter Tryz.func194, Tryz.ntmps194
  go_wp2
  go_ret
  exact ⟨rfl, rfl⟩

set_option maxHeartbeats 1000000 in
theorem isNaN_no (d : Nat) (h : Ieee.double.order d d = some .eq) (w : World) :
    Calls Tryz.prog 194 #[.float .f64 d] w fun e w' => e = .returned (.bool false) ∧ w = w' := by
  have h1 : FloatKind.f64.format.order d d = some .eq := h
  clear h
  go_enter Tryz.func194, Tryz.ntmps194
  go_wp2
  go_ret
  exact ⟨rfl, rfl⟩

set_option maxHeartbeats 800000 in
theorem isInf_yes (d : Nat) (hd : d < 18446744073709551616) (h : (Ieee.double.order (d % 9223372036854775808) 9218868437227405311 == some .gt) = true) (w : World) :
    Calls Tryz.prog 195 #[.float .f64 d, .int .i64 0] w fun e w' => e = .returned (.bool true) ∧ w = w' := by
  have h1 : (FloatKind.f64.format.order (d % 9223372036854775808) 9218868437227405311 == some .gt) = true := h
  clear h
  go_enter Tryz.func195, Tryz.ntmps195
  go_wp2_with (go_at_call 197; refine (abs_any d hd _).mono ?_; rintro e w' ⟨rfl, rfl⟩)
  go_ret
  exact ⟨rfl, rfl⟩

set_option maxHeartbeats 1000000 in
theorem isFinite_nan {x : Nat} {a : Bool} {b : Nat} (h : Ieee.single.read x = .nan a b) (w : World) :
    Calls Tryz.prog 117 #[.float .f32 x] w fun e w' => e = .returned (.bool false) ∧ w' = w.drew := by
  obtain ⟨d, c1, hd⟩ := run_nan64 h w
  have K1 := Lib.hid (isNaN_nan d hd)
  clear h hd
  go_enter Tryz.func117, Tryz.ntmps117
  go_wp2_with (go_at_call 194; refine (K1.out _).mono ?_; rintro e w' ⟨rfl, rfl⟩)
  go_ret
  exact ⟨rfl, rfl⟩

set_option maxHeartbeats 1000000 in
theorem isFinite_inf {x : Nat} {s : Bool} (h : Ieee.single.read x = .infinity s) (w : World) :
    Calls Tryz.prog 117 #[.float .f32 x] w fun e w' => e = .returned (.bool false) ∧ w' = w := by
  obtain ⟨d, c1, hd, h1, h2⟩ := run_inf64 h
  have K1 := Lib.hid (isNaN_no d h1)
  have K2 := Lib.hid (isInf_yes d hd h2)
  clear h hd h1 h2
  go_enter Tryz.func117, Tryz.ntmps117
  go_wp2_with (first | (go_at_call 194; refine (K1.out _).mono ?_; rintro e w' ⟨rfl, rfl⟩) | (go_at_call 195; refine (K2.out _).mono ?_; rintro e w' ⟨rfl, rfl⟩))
  go_ret
  exact ⟨rfl, rfl⟩

set_option maxHeartbeats 1000000 in
theorem isFinite_num {x : Nat} {s : Bool} {v : Nat} (hx : x < 2 ^ 32) (h : IsNum Ieee.single x s v) (hv : v ≤ 16777215 * 2 ^ 253) (w : World) :
    Calls Tryz.prog 117 #[.float .f32 x] w fun e w' => e = .returned (.bool true) ∧ w' = w := by
  have hv2 : v < 2 ^ 277 := Nat.lt_of_le_of_lt hv (by decide +kernel)
  obtain ⟨d, h1, h2⟩ := toF64 277 h hv2 (by omega)
  have hd := isNum_lt (s := s) (v := 0) h1 hx
  have hb : v * 2 ^ 925 ≤ (2 ^ 53 - 1) * 2 ^ 2045 := by
    generalize hu : (925 : Nat) = u
    exact max64_ge (pow_split hv2) (by omega)
  have c1 := run_to64 h1
  have K1 := Lib.hid (isNaN_any d s _ h2)
  have K2 := Lib.hid (isInf_any d s _ h2 hd hb)
  clear h h1 h2 hd hv hx hb hv2
  go_enter Tryz.func117, Tryz.ntmps117
  go_wp2_with (first | (go_at_call 194; refine (K1.out _).mono ?_; rintro e w' ⟨rfl, rfl⟩) | (go_at_call 195; refine (K2.out _).mono ?_; rintro e w' ⟨rfl, rfl⟩))
  go_ret
  exact ⟨rfl, rfl⟩

set_option maxHeartbeats 1000000 in
theorem isMultiple_num {x : Nat} {s : Bool} {v : Nat} (h : IsNum Ieee.single x s v) (hv : v ≤ 16777215 * 2 ^ 253) (w : World) :
    Calls Tryz.prog 118 #[.float .f32 x, .float .f64 4652218415073722368] w fun e w' => e = .returned (.bool (decide (v ≤ 1024 * 2 ^ 149 ∧ v % 2 ^ 145 = 0))) ∧ w' = w := by
  obtain ⟨d, n, t, h1, h2, n1, t1, t2, q1, q2⟩ := multiple_words h hv
  have hn := floatBits_lt n1
  have c1 := run_to64 h1
  have c2 := run_mul 183 n1
  have c3 := run_trunc t1 t2
  have hm : floatBits .mul .f64 4652218415073722368 4625196817309499392 = some 4670232813583204352 := by decide +kernel
  have c5 := run_mul 183 hm
  have K1 := Lib.hid (trunc_any n t c3)
  have K2 := Lib.hid (abs_any n hn)
  clear h h1 h2 n1 t1 t2 hm hn c3 hv
  by_cases f1 : v % 2 ^ 145 = 0
  · rw [decide_eq_true f1] at q1
    by_cases f2 : v ≤ 1024 * 2 ^ 149
    · rw [decide_eq_true f2] at q2
      rw [decide_eq_true (show v ≤ 1024 * 2 ^ 149 ∧ v % 2 ^ 145 = 0 from ⟨f2, f1⟩)]
      have c4 : (FloatKind.f64.format.order n t == some .eq) = true := q1
      have c6 : (FloatKind.f64.format.order (n % 9223372036854775808) 4670232813583204352 == some .lt || FloatKind.f64.format.order (n % 9223372036854775808) 4670232813583204352 == some .eq) = true := q2
      clear f1 f2 q1 q2
      go_enter Tryz.func118, Tryz.ntmps118
      go_wp2_with (first | (go_at_call 196; refine (K1.out _).mono ?_; rintro e w' ⟨rfl, rfl⟩) | (go_at_call 197; refine (K2.out _).mono ?_; rintro e w' ⟨rfl, rfl⟩))
      go_ret
      exact ⟨rfl, rfl⟩
    · rw [decide_eq_false f2] at q2
      rw [decide_eq_false (show ¬ (v ≤ 1024 * 2 ^ 149 ∧ v % 2 ^ 145 = 0) from fun hh => f2 hh.1)]
      have c4 : (FloatKind.f64.format.order n t == some .eq) = true := q1
      have c6 : (FloatKind.f64.format.order (n % 9223372036854775808) 4670232813583204352 == some .lt || FloatKind.f64.format.order (n % 9223372036854775808) 4670232813583204352 == some .eq) = false := q2
      clear f1 f2 q1 q2
      go_enter Tryz.func118, Tryz.ntmps118
      go_wp2_with (first | (go_at_call 196; refine (K1.out _).mono ?_; rintro e w' ⟨rfl, rfl⟩) | (go_at_call 197; refine (K2.out _).mono ?_; rintro e w' ⟨rfl, rfl⟩))
      go_ret
      exact ⟨rfl, rfl⟩
  · rw [decide_eq_false f1] at q1
    rw [decide_eq_false (show ¬ (v ≤ 1024 * 2 ^ 149 ∧ v % 2 ^ 145 = 0) from fun hh => f1 hh.2)]
    have c4 : (FloatKind.f64.format.order n t == some .eq) = false := q1
    clear f1 q1 q2
    go_enter Tryz.func118, Tryz.ntmps118
    go_wp2_with (first | (go_at_call 196; refine (K1.out _).mono ?_; rintro e w' ⟨rfl, rfl⟩) | (go_at_call 197; refine (K2.out _).mono ?_; rintro e w' ⟨rfl, rfl⟩))
    go_ret
    exact ⟨rfl, rfl⟩

set_option maxHeartbeats 800000 in
theorem checkSample_all (x : Nat) (hx : x < 2 ^ 32) (w : World) :
    Calls Tryz.prog 30 #[.float .f32 x] w fun e w' => e = .returned (.int .i64 (smpErr x)) ∧ (w = w' ∨ w.drew = w') := by
  rcases smp_class x with ⟨a, b, hd⟩ | ⟨s, hd⟩ | ⟨s, v, hn, hv⟩
  · rw [smpErr_nan hd]
    have K1 := Lib.hid (isFinite_nan hd)
    clear hd hx
    go_enter Tryz.func30, Tryz.ntmps30
    go_wp2_with (go_at_call 117; refine (K1.out _).mono ?_; rintro e w' ⟨rfl, rfl⟩)
    go_ret
    exact ⟨rfl, .inr rfl⟩
  · rw [smpErr_inf hd]
    have K1 := Lib.hid (isFinite_inf hd)
    clear hd hx
    go_enter Tryz.func30, Tryz.ntmps30
    go_wp2_with (go_at_call 117; refine (K1.out _).mono ?_; rintro e w' ⟨rfl, rfl⟩)
    go_ret
    exact ⟨rfl, .inl rfl⟩
  · rw [smpErr_num hn]
    have K1 := Lib.hid (isFinite_num hx hn hv)
    have K2 := Lib.hid (isMultiple_num hn hv)
    clear hn hx hv
    by_cases f : v ≤ 1024 * 2 ^ 149 ∧ v % 2 ^ 145 = 0
    · rw [decide_eq_true f] at K2
      rw [if_pos f]
      clear f
      go_enter Tryz.func30, Tryz.ntmps30
      go_wp2_with (first | (go_at_call 117; refine (K1.out _).mono ?_; rintro e w' ⟨rfl, rfl⟩) | (go_at_call 118; refine (K2.out _).mono ?_; rintro e w' ⟨rfl, rfl⟩))
      go_ret
      exact ⟨rfl, .inl rfl⟩
    · rw [decide_eq_false f] at K2
      rw [if_neg f]
      clear f
      go_enter Tryz.func30, Tryz.ntmps30
      go_wp2_with (first | (go_at_call 117; refine (K1.out _).mono ?_; rintro e w' ⟨rfl, rfl⟩) | (go_at_call 118; refine (K2.out _).mono ?_; rintro e w' ⟨rfl, rfl⟩))
      go_ret
      exact ⟨rfl, .inl rfl⟩
end Go.Proofs.YtfdkmmllemkogaaGreatDoor

/-
  Contracts of CheckMap, of the program and of the reference, for every map (the reference's up to 4097 samples): both answer mapErr.
-/
namespace Go.Proofs.YtfdkmmllemkogaaGreatDoor
open Go.RowKit
set_option linter.unusedVariables false

/-- The error of a map: of its sides, of its shape, of its first sample with one. -/
def mapErr (W H : Int) (n : Nat) (xs : List Nat) : Int :=
  if firstNZ [rangeErr W 1 64, rangeErr H 1 64] = 0 then if W * H = n then firstNZ (xs.map smpErr) else 2 else firstNZ [rangeErr W 1 64, rangeErr H 1 64]

theorem firstNZ_all {l : List Int} (h : firstNZ l = 0) : ∀ x ∈ l, x = 0 := by
  induction l with
  | nil => intro x hx; cases hx
  | cons y r ih =>
    unfold firstNZ at h
    split at h
    · rename_i hy; exact absurd h hy
    · rename_i hy
      intro x hx
      rcases List.mem_cons.1 hx with rfl | hx
      · omega
      · exact ih h x hx

theorem mapErr_zero {W H : Int} {n : Nat} {xs : List Nat} (hx : xs.length = n) (h : mapErr W H n xs = 0) : RightSays W H n xs := by
  unfold mapErr at h
  split at h
  · rename_i h0
    obtain ⟨eW, eH⟩ := firstNZ_two h0
    have hW := rangeErr_zero eW
    have hH := rangeErr_zero eH
    split at h
    · rename_i hA
      refine ⟨hW.1, hW.2, hH.1, hH.2, hA, fun j hj => smpErr_zero (firstNZ_all h _ ?_)⟩
      refine List.mem_map.2 ⟨xs[j]?.getD 0, ?_, rfl⟩
      rw [List.getElem?_eq_getElem (by omega)]
      exact List.getElem_mem _
    · cases h
  · rename_i h0; exact absurd h h0

theorem errs_at (xs : List Nat) {j : Nat} (hj : j < xs.length) : (xs.map smpErr)[j]?.getD 0 = smpErr (xs[j]?.getD 0) := by
  simp [hj]

set_option maxHeartbeats 1600000 in
theorem checkSamples_all (b o n c : Nat) (xs : List Nat) (hx : xs.length = n) (hm : n ≤ 4611686018427387904) (w : World)
    (hc : ∀ j, j < n → w.cell? ⟨b, o + j, none⟩ = some (.float .f32 (xs[j]?.getD 0))) :
    Calls Tryz.prog 70 #[.slice (some ⟨b, o, none⟩) n c] w fun e w' => e = .returned (.int .i64 (firstNZ (xs.map smpErr))) ∧ w = w' := by
  have Hx := Lib.hid hx
  have Hc := Lib.hid hc
  clear hc hx
  go_enter Tryz.func70, Tryz.ntmps70
  go_wp2
  go_loop [3] (fun i => ∃ k : Nat, k ≤ n ∧ i = .int .i64 k ∧ Hid (∀ j, j < k → (xs.map smpErr).getD j 0 = 0)) (fun i => n - (intOf i).toNat)
  case atStart => exact ⟨0, Nat.zero_le _, rfl, fun j hj => absurd hj (by omega)⟩
  case round =>
    obtain ⟨k, hk, rfl, hh⟩ := hrel
    by_cases hlt : k < n
    · have hcell := Hc.out k hlt
      have hat : (xs.map smpErr).getD k 0 = smpErr (xs[k]?.getD 0) := by rw [List.getD_eq_getElem?_getD]; exact errs_at xs (by rw [Hx.out]; exact hlt)
      have Hat := Lib.hid hat
      clear hat
      by_cases h0 : smpErr (xs[k]?.getD 0) = 0
      · have e0 : (smpErr (xs[k]?.getD 0) != 0) = false := by simp [h0]
        have H0 := Lib.hid h0
        clear h0
        go_wp2_with (go_at_call 31; refine (refCheckSample_all _ _).mono ?_; rintro e w' ⟨rfl, rfl⟩)
        go_round
        case rel => exact ⟨k + 1, by omega, by go_num, fun j hj => by
          by_cases hjk : j < k
          · exact hh.out j hjk
          · obtain rfl : j = k := by omega
            rw [Hat.out]; exact H0.out⟩
        case measure => simp [intOf]; omega
      · have e0 : (smpErr (xs[k]?.getD 0) != 0) = true := by simp [h0]
        have H0 := Lib.hid h0
        clear h0
        go_wp2_with (go_at_call 31; refine (refCheckSample_all _ _).mono ?_; rintro e w' ⟨rfl, rfl⟩)
        go_ret
        exact ⟨ret_int (by rw [firstNZ_at (by rw [List.length_map, Hx.out]; exact hlt) hh.out (by rw [Hat.out]; exact H0.out), Hat.out]), rfl⟩
    · go_wp2
      go_ret
      exact ⟨ret_int (firstNZ_end fun j hj => hh.out j (by rw [List.length_map] at hj; have := Hx.out; omega)).symm, rfl⟩

set_option maxHeartbeats 2000000 in
set_option maxRecDepth 100000 in
theorem mapped_all {w : World} (b o n c : Nat) (xs : List Nat) (hx : xs.length = n) (hn : n ≤ 4096) (hb : b < w.heap.size)
    (hc : ∀ j, j < n → w.cell? ⟨b, o + j, none⟩ = some (.float .f32 (xs[j]?.getD 0))) (hs : ∀ j, j < n → xs[j]?.getD 0 < 2 ^ 32) :
    Calls Tryz.prog 130 #[.slice (some ⟨b, o, none⟩) n c, .func (.func 30) #[] #[]] w fun e w' =>
      e = .returned (.slice (some ⟨w.heap.size, 0, none⟩) n n) ∧ w'.ownsRow w.heap.size 26 1 (.slice (some ⟨w.heap.size, 0, none⟩) n n) n (xs.map (fun x => Value.int .i64 (smpErr x))) ∧ Below w.heap.size w w' := by
  obtain ⟨i0, hi, hz0, hz1, hz2⟩ := info_parts Tryz.info26_check
  have Hx := Lib.hid hx
  have Hc := Lib.hid hc
  have Hs := Lib.hid hs
  clear hx hc hs
  go_enter Tryz.func130, Tryz.ntmps130
  go_wp2_with (at_make; refine wpList_make_own _ rfl _ _ 196 rfl w.heap.size 26 i0 (.int .i64 0) 1 Tryz.underlying196 hi hz0 hz1 _ _ _ n rfl rfl (by omega) ?b2 ?b3 (Nat.le_refl _) ?_)
  case b2 => rw [hz2]; omega
  case b3 => unfold maxLen; omega
  intro w0 hown0 hgrow0
  go_wp2
  go_loopw [5, 13] (fun out i wr => ∃ k : Nat, k ≤ n ∧ i = .int .i64 k ∧ out = .slice (some ⟨w.heap.size, 0, none⟩) k n ∧
      wr.ownsRow w.heap.size 26 1 (.slice (some ⟨w.heap.size, 0, none⟩) k n) k ((xs.take k).map (fun x => Value.int .i64 (smpErr x))) ∧ Below w.heap.size w wr)
    (fun _ i _ => n - (intOf i).toNat)
  case atStart => exact ⟨0, Nat.zero_le _, rfl, rfl, hown0, (Below.refl _ _).grown hgrow0 (Nat.le_refl _) (fun k h => by cases h)⟩
  case round =>
    obtain ⟨k, hk, rfl, rfl, hown, hnx⟩ := hrel
    by_cases hlt : k < n
    · have hcell : wr.cell? ⟨b, o + k, none⟩ = some (.float .f32 (xs[k]?.getD 0)) := (hnx.cell (by exact hb)).trans (Hc.out k hlt)
      have K := Lib.hid (Hs.out k hlt)
      have hsz := hnx.size
      go_wp2_with (first
        | (go_at_call 30; refine (checkSample_all _ K.out _).mono ?_; rintro e w' ⟨rfl, rfl | rfl⟩)
        | (at_builtin; refine wpList_append_fits _ rfl (.tmp 17) (.tmp 21) 196 rfl w.heap.size 26 i0 1 Tryz.underlying196 hi hz1 w.heap.size k n _ rfl (hown.alloc _) ⟨wr.heap.size, 0, none⟩ 1 1 [.int .i64 (smpErr (xs[k]?.getD 0))] rfl rfl (cell_one_new _ _ _) (by intro u hu; simp at hu; subst hu; rfl) (by omega) ?_; intro w1 hown1 hgrow1)
        | (at_builtin; refine wpList_append_fits _ rfl (.tmp 17) (.tmp 21) 196 rfl w.heap.size 26 i0 1 Tryz.underlying196 hi hz1 w.heap.size k n _ rfl (hown.alloc _).drew ⟨wr.heap.size, 0, none⟩ 1 1 [.int .i64 (smpErr (xs[k]?.getD 0))] rfl rfl (cell_one_new _ _ _) (by intro u hu; simp at hu; subst hu; rfl) (by omega) ?_; intro w1 hown1 hgrow1))
      all_goals
        go_roundw
        case rel => first
          | exact ⟨k + 1, by omega, by go_num, rfl, by rw [take_map_succ (fun x => Value.int .i64 (smpErr x)) xs k (by have := Hx.out; omega) 0]; exact hown1, (hnx.alloc hnx.size _).grown hgrow1 (by simp; omega) (fun j hj => by cases hj; exact Nat.le_refl _)⟩
          | exact ⟨k + 1, by omega, by go_num, rfl, by rw [take_map_succ (fun x => Value.int .i64 (smpErr x)) xs k (by have := Hx.out; omega) 0]; exact hown1, (hnx.alloc hnx.size _).drew.grown hgrow1 (by simp; omega) (fun j hj => by cases hj; exact Nat.le_refl _)⟩
        case measure => simp [intOf]; omega
    · go_wp2
      go_ret
      obtain rfl : k = n := by omega
      rw [List.take_of_length_le (by have := Hx.out; omega)] at hown
      exact ⟨rfl, hown, hnx⟩


set_option maxRecDepth 100000 in
set_option maxHeartbeats 6400000 in
theorem refCheckMap_all (W H : Int) (a : Option Addr) (n c : Nat) (xs : List Nat) (hx : xs.length = n) (w : World)
    (hs : ∀ j, j < n → ∃ b o, a = some ⟨b, o, none⟩ ∧ b < w.heap.size ∧ ∀ j, j < n → w.cell? ⟨b, o + j, none⟩ = some (.float .f32 (xs[j]?.getD 0))) :
    Calls Tryz.prog 41 #[.agg #[.int .i64 W, .int .i64 H, .slice a n c]] w fun e w' => e = .returned (.int .i64 (mapErr W H n xs)) ∧ Below w.heap.size w w' := by
  have Hs := Lib.hid hs
  have Hx := Lib.hid hx
  clear hs hx
  unfold mapErr
  by_cases hne : firstNZ [rangeErr W 1 64, rangeErr H 1 64] = 0
  · rw [if_pos hne]
    obtain ⟨eW, eH⟩ := firstNZ_two hne
    have hW := rangeErr_zero eW
    have hH := rangeErr_zero eH
    have e0 : (firstNZ [rangeErr W 1 64, rangeErr H 1 64] != 0) = false := by simp [hne]
    have hmul0 : 1 ≤ W * H := by
      have := Int.mul_le_mul hW.1 hH.1 (by omega) (by omega)
      omega
    have hmul1 : W * H ≤ 4096 := by
      have := Int.mul_le_mul hW.2 hH.2 (by omega) (by omega)
      omega
    clear hne eW eH
    by_cases hA : W * H = n
    · rw [if_pos hA]
      have e1 : ((n : Int) != W * H) = false := by rw [hA]; simp
      obtain ⟨b, o, ha, hb, hc⟩ := Hs.out 0 (by omega)
      subst ha
      have HA := Lib.hid hA
      have Hc := Lib.hid hc
      have hsm : n ≤ 4096 := by omega
      clear hA hc Hs
      go_enter Tryz.func41, Tryz.ntmps41
      go_wp2_with fail
      go_region_held3 (fun w' => w'.cell? ⟨w.heap.size, 0, none⟩ = some (.int .i64 W) ∧ w'.cell? ⟨w.heap.size, 1, none⟩ = some (.int .i64 H))
        (go_keep)
        (first
          | ((go_at_call_of 51 (Value.int .i64 W); refine (refCheckSide_any _ _).mono ?_; rintro e w' ⟨rfl, rfl⟩))
          | ((go_at_call_of 51 (Value.int .i64 H); refine (refCheckSide_any _ _).mono ?_; rintro e w' ⟨rfl, rfl⟩))
          | ((go_at_call 111; refine (refFirst_any _ 0 2 2 [rangeErr W 1 64, rangeErr H 1 64] rfl (by omega) _ ?_).mono ?_; rotate_left 1; rintro e w' ⟨rfl, rfl⟩; rotate_left 1; (intro j hj; match j, hj with | 0, _ => simp [go_sem] | 1, _ => simp [go_sem]))))

      all_goals
        go_wp2_with ((go_at_call 70; refine (checkSamples_all b o n c xs Hx.out (by omega) _ (fun j hj => ?_)).mono ?_; rotate_left 1; rintro e w' ⟨rfl, rfl⟩; rotate_left 1; exact ((((Below.refl _ w).alloc (Nat.le_refl _) _).alloc (by simp) _).drew.cell (by exact hb)).trans (Hc.out j hj)))
        go_ret
        exact ⟨rfl, (((Below.refl _ w).alloc (Nat.le_refl _) _).alloc (by simp) _).drew⟩
    · rw [if_neg hA]
      have e1 : ((n : Int) != W * H) = true := by simp; omega
      clear hA
      go_enter Tryz.func41, Tryz.ntmps41
      go_wp2_with fail
      go_region_held3 (fun w' => w'.cell? ⟨w.heap.size, 0, none⟩ = some (.int .i64 W) ∧ w'.cell? ⟨w.heap.size, 1, none⟩ = some (.int .i64 H))
        (go_keep)
        (first
          | ((go_at_call_of 51 (Value.int .i64 W); refine (refCheckSide_any _ _).mono ?_; rintro e w' ⟨rfl, rfl⟩))
          | ((go_at_call_of 51 (Value.int .i64 H); refine (refCheckSide_any _ _).mono ?_; rintro e w' ⟨rfl, rfl⟩))
          | ((go_at_call 111; refine (refFirst_any _ 0 2 2 [rangeErr W 1 64, rangeErr H 1 64] rfl (by omega) _ ?_).mono ?_; rotate_left 1; rintro e w' ⟨rfl, rfl⟩; rotate_left 1; (intro j hj; match j, hj with | 0, _ => simp [go_sem] | 1, _ => simp [go_sem]))))

      all_goals
        go_wp2
        go_ret
        exact ⟨rfl, (((Below.refl _ w).alloc (Nat.le_refl _) _).alloc (by simp) _).drew⟩
  · rw [if_neg hne]
    have e0 : (firstNZ [rangeErr W 1 64, rangeErr H 1 64] != 0) = true := by simp [hne]
    clear hne Hs
    go_enter Tryz.func41, Tryz.ntmps41
    go_wp2_with fail
    go_region_held3 (fun w' => w'.cell? ⟨w.heap.size, 0, none⟩ = some (.int .i64 W) ∧ w'.cell? ⟨w.heap.size, 1, none⟩ = some (.int .i64 H))
      (go_keep)
      (first
        | ((go_at_call_of 51 (Value.int .i64 W); refine (refCheckSide_any _ _).mono ?_; rintro e w' ⟨rfl, rfl⟩))
        | ((go_at_call_of 51 (Value.int .i64 H); refine (refCheckSide_any _ _).mono ?_; rintro e w' ⟨rfl, rfl⟩))
        | ((go_at_call 111; refine (refFirst_any _ 0 2 2 [rangeErr W 1 64, rangeErr H 1 64] rfl (by omega) _ ?_).mono ?_; rotate_left 1; rintro e w' ⟨rfl, rfl⟩; rotate_left 1; (intro j hj; match j, hj with | 0, _ => simp [go_sem] | 1, _ => simp [go_sem]))))

    all_goals
      go_wp2
      go_ret
      exact ⟨rfl, (((Below.refl _ w).alloc (Nat.le_refl _) _).alloc (by simp) _).drew⟩

set_option maxRecDepth 100000 in
set_option maxHeartbeats 6400000 in
theorem checkMap_all (W H : Int) (a : Option Addr) (n c : Nat) (xs : List Nat) (hx : xs.length = n) (w : World)
    (hwd : ∀ j, j < n → xs[j]?.getD 0 < 2 ^ 32)
    (hs : ∀ j, j < n → ∃ b o, a = some ⟨b, o, none⟩ ∧ b < w.heap.size ∧ ∀ j, j < n → w.cell? ⟨b, o + j, none⟩ = some (.float .f32 (xs[j]?.getD 0))) :
    Calls Tryz.prog 47 #[.agg #[.int .i64 W, .int .i64 H, .slice a n c]] w fun e w' => e = .returned (.int .i64 (mapErr W H n xs)) ∧ Below w.heap.size w w' := by
  have Hs := Lib.hid hs
  have Hx := Lib.hid hx
  have Hwd := Lib.hid hwd
  clear hs hx hwd
  unfold mapErr
  by_cases hne : firstNZ [rangeErr W 1 64, rangeErr H 1 64] = 0
  · rw [if_pos hne]
    obtain ⟨eW, eH⟩ := firstNZ_two hne
    have hW := rangeErr_zero eW
    have hH := rangeErr_zero eH
    have e0 : (firstNZ [rangeErr W 1 64, rangeErr H 1 64] != 0) = false := by simp [hne]
    have hmul0 : 1 ≤ W * H := by
      have := Int.mul_le_mul hW.1 hH.1 (by omega) (by omega)
      omega
    have hmul1 : W * H ≤ 4096 := by
      have := Int.mul_le_mul hW.2 hH.2 (by omega) (by omega)
      omega
    clear hne eW eH
    by_cases hA : W * H = n
    · rw [if_pos hA]
      have e1 : ((n : Int) != W * H) = false := by rw [hA]; simp
      obtain ⟨b, o, ha, hb, hc⟩ := Hs.out 0 (by omega)
      subst ha
      have hsm : n ≤ 4096 := by omega
      have KM : ∀ w1 : World, Below w.heap.size w w1 → w1.heap.size = w.heap.size + 2 → Calls Tryz.prog 130 #[.slice (some ⟨b, o, none⟩) n c, .func (.func 30) #[] #[]] w1 fun e w' =>
          e = .returned (.slice (some ⟨w.heap.size + 2, 0, none⟩) n n) ∧ w'.ownsRow (w.heap.size + 2) 26 1 (.slice (some ⟨w.heap.size + 2, 0, none⟩) n n) n (xs.map (fun x => Value.int .i64 (smpErr x))) ∧ Below (w.heap.size + 2) w1 w' := by
        intro w1 h1 hs1
        rw [← hs1]
        exact mapped_all b o n c xs Hx.out hsm (by omega) (fun j hj => (h1.cell (by exact hb)).trans (hc j hj)) Hwd.out
      have HM := Lib.hid KM
      clear KM hA hc Hs
      go_enter Tryz.func47, Tryz.ntmps47
      go_wp2_with fail
      go_region_held3 (fun w' => w'.cell? ⟨w.heap.size, 0, none⟩ = some (.int .i64 W) ∧ w'.cell? ⟨w.heap.size, 1, none⟩ = some (.int .i64 H))
        (go_keep)
        (first
          | ((go_at_call_of 129 (Value.int .i64 W); refine (checkSide_any _ _).mono ?_; rintro e w' ⟨rfl, rfl⟩))
          | ((go_at_call_of 129 (Value.int .i64 H); refine (checkSide_any _ _).mono ?_; rintro e w' ⟨rfl, rfl⟩))
          | ((go_at_call 109; refine (first_any _ 0 2 2 [rangeErr W 1 64, rangeErr H 1 64] rfl (by omega) _ ?_).mono ?_; rotate_left 1; rintro e w' ⟨rfl, rfl⟩; rotate_left 1; (intro j hj; match j, hj with | 0, _ => simp [go_sem] | 1, _ => simp [go_sem]))))

      all_goals
        go_wp2_with (first
          | (go_at_call 130; refine (HM.out _ ?_ ?_).mono ?_; rotate_left 2; rintro e w' ⟨rfl, hown, hb1⟩; rotate_left 1; exact (((Below.refl _ w).alloc (Nat.le_refl _) _).alloc (by simp) _).drew; simp)
          | (go_at_call 109; refine (first_any _ 0 n n (xs.map smpErr) (by rw [List.length_map]; exact Hx.out) (by omega) _ (fun j hj => by rw [Nat.zero_add]; exact owns_cell hown (by have := Hx.out; simp [this, hj]))).mono ?_; rintro e w' ⟨rfl, rfl⟩))
        go_ret
        exact ⟨rfl, (((Below.refl _ w).alloc (Nat.le_refl _) _).alloc (by simp) _).drew.trans (hb1.mono (by omega))⟩
    · rw [if_neg hA]
      have e1 : ((n : Int) != W * H) = true := by simp; omega
      clear hA
      go_enter Tryz.func47, Tryz.ntmps47
      go_wp2_with fail
      go_region_held3 (fun w' => w'.cell? ⟨w.heap.size, 0, none⟩ = some (.int .i64 W) ∧ w'.cell? ⟨w.heap.size, 1, none⟩ = some (.int .i64 H))
        (go_keep)
        (first
          | ((go_at_call_of 129 (Value.int .i64 W); refine (checkSide_any _ _).mono ?_; rintro e w' ⟨rfl, rfl⟩))
          | ((go_at_call_of 129 (Value.int .i64 H); refine (checkSide_any _ _).mono ?_; rintro e w' ⟨rfl, rfl⟩))
          | ((go_at_call 109; refine (first_any _ 0 2 2 [rangeErr W 1 64, rangeErr H 1 64] rfl (by omega) _ ?_).mono ?_; rotate_left 1; rintro e w' ⟨rfl, rfl⟩; rotate_left 1; (intro j hj; match j, hj with | 0, _ => simp [go_sem] | 1, _ => simp [go_sem]))))

      all_goals
        go_wp2
        go_ret
        exact ⟨rfl, (((Below.refl _ w).alloc (Nat.le_refl _) _).alloc (by simp) _).drew⟩
  · rw [if_neg hne]
    have e0 : (firstNZ [rangeErr W 1 64, rangeErr H 1 64] != 0) = true := by simp [hne]
    clear hne Hs
    go_enter Tryz.func47, Tryz.ntmps47
    go_wp2_with fail
    go_region_held3 (fun w' => w'.cell? ⟨w.heap.size, 0, none⟩ = some (.int .i64 W) ∧ w'.cell? ⟨w.heap.size, 1, none⟩ = some (.int .i64 H))
      (go_keep)
      (first
        | ((go_at_call_of 129 (Value.int .i64 W); refine (checkSide_any _ _).mono ?_; rintro e w' ⟨rfl, rfl⟩))
        | ((go_at_call_of 129 (Value.int .i64 H); refine (checkSide_any _ _).mono ?_; rintro e w' ⟨rfl, rfl⟩))
        | ((go_at_call 109; refine (first_any _ 0 2 2 [rangeErr W 1 64, rangeErr H 1 64] rfl (by omega) _ ?_).mono ?_; rotate_left 1; rintro e w' ⟨rfl, rfl⟩; rotate_left 1; (intro j hj; match j, hj with | 0, _ => simp [go_sem] | 1, _ => simp [go_sem]))))

    all_goals
      go_wp2
      go_ret
      exact ⟨rfl, (((Below.refl _ w).alloc (Nat.le_refl _) _).alloc (by simp) _).drew⟩

end Go.Proofs.YtfdkmmllemkogaaGreatDoor
