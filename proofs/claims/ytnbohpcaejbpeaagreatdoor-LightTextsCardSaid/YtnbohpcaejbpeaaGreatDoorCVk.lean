/-
  The walk of awake, chapter 1's fixed examples: the whole of it.
-/
import Derived.Test.YtnbohpcaejbpeaaGreatDoorCVj
import Derived.Deep.CutBlock
import Derived.Deep.DeepCutAuto
import Derived.Test.YtnbohpcaejbpeaaGreatDoorCBd
import Derived.Test.YtnbohpcaejbpeaaGreatDoorCards
import Derived.Test.YtnbohpcaejbpeaaGreatDoorTie
import Derived.WalkKit
import Derived.ProofKit
import Derived.OpenShut
import Derived.Lib.SmallJoins
import Derived.Laws.Cover2
import Derived.Carry
import Derived.SizedLaws
import Derived.Deep.Slices
import Derived.Deep.DeepHandedRow
import Derived.Lib.LaidTab
import Derived.Lay
namespace Go.Proofs.YtnbohpcaejbpeaaGreatDoor
open Go.RowKit Go.Shelf
set_option linter.unusedVariables false
set_option linter.unusedSimpArgs false

set_option maxRecDepth 1000000 in
set_option maxHeartbeats 12800000 in
theorem awk19 (w : World) : Awk19 w := by
  unfold Awk19
  intro wx B16 B18 B20 B22 B24 B26 B28 a32 c32 u1 u2 u3 u4 u5 u6 u7 u8 u9 u10 u11 u12 u13 u14 u15 u34 u35 u36 u37 u38 u39 u40 u41 u42 u43 u44 u45 u46 u47 u48 u49 u50 u51 u52 u53 u54 u55 u56 u57 u58 u59 u60 u61 u62 u63 u64 u65 u66 u67 u68 u69 u70 u71 u72 u73 u74 u75 u76 u77 u78 u79 u80 u81 u82 u83 u84 u85 u86 u87 u88 u89 u90 u91 u92 u93 u94 u95 u96 u97 u98 u99 u100 u101 u102 u103 u104 u105 u106 u107 u108 u109 u110 u111 u112 u113 u114 u115 u116 u117 u118 u119 u120 u121 u122 u123 u124 u125 u126 u127 u128 u129 u130 u131 u132 u133 u134 u135 u136 u137 u138 u139 u140 u141 u142 u143 u144 u145 u146 u147 u148 u149 u150 u151 u152 u153 u154 u155 u156 u157 u158 u159 u160 u161 u162 u163 u164 u165 u166 u167 u168 u169 u170 u171 u172 u173 u174 u175 u176 u177 u178 u179 u180 u181 u182 u183 u184 u185 u186 u187 u188 u189 u190 u191 u192 u193 u194 u195 u196 u197 u198 u199 u200 u201 u202 u203 u204 u205 u206 u207 u208 u209 u210 u211 u212 u213 u214 u215 u216 u217 u218 u219 u220 u221 u222 u223 u224 u225 u226 u227 u228 u229 u230 u231 u232 u233 u234 u235 u236 u237 u238 u239 u240 u241 u242 u243 u244 u245 u246 u247 u248 u249 u250 u251 u252 u253 u254 u255 u256 hB f16 f18 f20 f22 f24 f26 f28
  conv => arg 2; whnf
  dsimp only
  have K := Lib.hid (draw_lit wx)
  go_wp2_with (go_at_call 37; refine K.out.mono ?_; rintro e w1 ⟨gd, cd, rfl, hgd, hcd, hb1⟩)
  replace f16 := f16.kept hb1
  replace f18 := f18.kept hb1
  replace f20 := f20.kept hb1
  replace f22 := f22.kept hb1
  replace f24 := f24.kept hb1
  replace f26 := f26.kept hb1
  replace f28 := f28.kept hb1
  obtain ⟨g16, b16, h16⟩ := f16
  obtain ⟨g18, b18, h18⟩ := f18
  obtain ⟨g20, b20, h20⟩ := f20
  obtain ⟨g22, b22, h22⟩ := f22
  have hmix : Tryz.prog.follows Departure.mixedOrders = true := by kernel_rfl
  refine (wpIn_wide (n := 6)).1 ?_
  refine wpIn_region_heldI (S20 w1) hmix ?_
  change wpAnyHIn _ _ _ _ _ _ _ 72 _ _ w1.drew
  have hBw := hB.trans (hb1.mono hB.size)
  refine r20a _ (fun c a d v w h => by cases d <;> exact h) w1 _ (Below.refl w1.heap.size w1).drew a32 c32 B16 g16 b16 h16 B18 g18 b18 h18 B20 g20 b20 h20 B22 g22 b22 h22 B24 f24 B26 f26 B28 f28 gd cd hgd hcd ?_ _ (by kernel_rfl) _ _ _ _ _ _ _ _ _ _ _ _ _ _ _ _ _ _ _ _ _ _ _ _ _ _ _ _ _ _ _ _ _ _ _ _ _ _ _ _ _ _ _ _ _ _ _ _ _ _ _ _ _ _ _ _ _ _ _ _ _ _ _ _ _ _ _ _ _ _ _ _ _ _ _ _ _ _ _ _ _ _ _ _ _ _ _ _ _ _ _ _ _ _ _ _ _ _ _ _ _ _ _ _ _ _ _ _ _ _ _ _ _ _ _ _ _ _ _ _ _ _ _ _ _ _ _ _ _ _ _ _ _ _ _ _ _ _ _ _ _ _ _ _ _ _ _ _ _ _ _ _ _ _ _ _ _ _ _ _ _ _ _ _ _ _ _ _ _ _ _ _ _ _ _ _ _ _ _ _ _ _ _ _ _ _ _ _ _ _ _ _ _ _ _ _ _ _ _ _ _ _ _ _ _ _ _ _ _ _ _ _ _ _ _ _ _ _ _ _ _ _ _ _ _ _ _ _ _ _ _ _ _ _ _ _ _
  unfold End20
  intro V v1 v2 v3 v4 v5 v6 v7 v8 v9 v10 v11 v12 v13 v14 v15 v16 v17 v18 v19 v20 v21 v22 v23 v24 v25 v26 v27 v28 v29 v30 v31 v32 v33 v34 v35 v36 v37 v38 v39 v40 v41 v42 v43 v44 v45 v46 v47 v48 v49 v50 v51 v52 v53 v54 v55 v56 v57 v58 v59 v60 v61 v62 v63 v64 v65 v66 v67 v68 v69 v70 v71 v72 v73 v74 v75 v76 v77 v78 v79 v80 v81 v82 v83 v84 v85 v86 v87 v88 v89 v90 v91 v92 v93 v94 v95 v96 v97 v98 v99 v100 v101 v102 v103 v104 v105 v106 v107 v108 v109 v110 v111 v112 v113 v114 v115 v116 v117 v118 v119 v120 v121 v122 v123 v124 v125 v126 v127 v128 v129 v130 v131 v132 v133 v134 v135 v136 v137 v138 v139 v140 v141 v142 v143 v144 v145 v146 v147 v148 v149 v150 v151 v152 v153 v154 v155 v156 v157 v158 v159 v160 v161 v162 v163 v164 v165 v166 v167 v168 v169 v170 v171 v172 v173 v174 v175 v176 v177 v178 v179 v180 v181 v182 v183 v184 v185 v186 v187 v188 v189 v190 v191 v192 v193 v194 v195 v196 v197 v198 v199 v200 v201 v202 v203 v204 v205 v206 v207 v208 v209 v210 v211 v212 v213 v214 v215 v216 v217 v218 v219 v220 v221 v222 v223 v224 v225 v226 v227 v228 v229 v230 v231 v232 v233 v234 v235 v236 v237 v238 v239 v240 v241 v242 v243 v244 v245 v246 v247 v248 v249 v250 v251 v252 v253 v254 v255 v256 hV
  go_wp2
  go_ret
  exact ⟨rfl, hBw.trans (hV.mono hBw.size)⟩

theorem awk1_any (w : World) (ht : TabAt w) : Awk1 w :=
  awk1 w (awk2 w (awk3 w (awk4 w (awk5 w (awk6 w (awk7 w (awk8 w (awk10 w (awk11 w (awk12 w (awk13 w (awk14 w (awk15 w (awk16 w (awk17 w ht (awk18 w (awk19 w)))))))))))))))))

set_option maxRecDepth 1000000 in
set_option maxHeartbeats 12800000 in
/-- The fixed examples of chapter 1 hold. -/
theorem awake_any (w : World) (ht : TabAt w) : Calls Tryz.prog 6 #[] w fun e w' => e = .returned (.bool true) ∧ Below w.heap.size w w' := by
  have hT := awk1_any w ht
  show Calls Tryz.prog 6 #[] w (TruePost w)
  go_enter Tryz.func6, Tryz.ntmps6
  go_upto_region 0 with fail
  go_cut [0] (fun s0 wr => s0 = .bool false ∧ wr = w)
  case first =>
    go_wp2_with fail
    go_meet
    exact ⟨rfl, rfl⟩
  case rest =>
    rename_i hK
    obtain ⟨rfl, rfl⟩ := hcut
    refine hK _ _ ?_
    clear hK
    unfold Awk1 at hT
    exact hT _ _ _ _ _ _ _ _ _ _ _ _ _ _ _ _ _ _ _ _ _ _ _ _ _ _ _ _ _ _ _ _ _ _ _ _ _ _ _ _ _ _ _ _ _ _ _ _ _ _ _ _ _ _ _ _ _ _ _ _ _ _ _ _ _ _ _ _ _ _ _ _ _ _ _ _ _ _ _ _ _ _ _ _ _ _ _ _ _ _ _ _ _ _ _ _ _ _ _ _ _ _ _ _ _ _ _ _ _ _ _ _ _ _ _ _ _ _ _ _ _ _ _ _ _ _ _ _ _ _ _ _ _ _ _ _ _ _ _ _ _ _ _ _ _ _ _ _ _ _ _ _ _ _ _ _ _ _ _ _ _ _ _ _ _ _ _ _ _ _ _ _ _ _ _ _ _ _ _ _ _ _ _ _ _ _ _ _ _ _ _ _ _ _ _ _ _ _ _ _ _ _ _ _ _ _ _ _ _ _ _ _ _ _ _ _ _ _ _ _ _ _ _ _ _ _ _ _ _ _ _ _ _ _ _ _ _ _ _ _ _ _ _ _ _ _ _ _ _ _ _ _ _ _ _ _ _ (Below.refl _ _)

end Go.Proofs.YtnbohpcaejbpeaaGreatDoor

/-
  What the walks of chapter 1's rows share: the cells of a map's variable, a map's own copy.
-/
namespace Go.Proofs.YtnbohpcaejbpeaaGreatDoor
open Go.RowKit
set_option linter.unusedVariables false
set_option linter.unusedSimpArgs false

theorem map_cells {w : World} {B : Nat} {W H : Int} {a : Option Addr} {n c : Nat} (h : w.heap[B]? = some (.cells #[.int .i64 W, .int .i64 H, .slice a n c] 24 (0, 0))) :
    w.cell? ⟨B, 0, none⟩ = some (.int .i64 W) ∧ w.cell? ⟨B, 1, none⟩ = some (.int .i64 H) ∧ w.cell? ⟨B, 2, none⟩ = some (.slice a n c) :=
  ⟨by rw [cell_of_row w _ 0 _ _ (0, 0) h]; rfl, by rw [cell_of_row w _ 1 _ _ (0, 0) h]; rfl, by rw [cell_of_row w _ 2 _ _ (0, 0) h]; rfl⟩
theorem own_of (W H : Int) (a : Option Addr) (n c : Nat) (xs : List Nat) (hm : n ≤ 100000) (wx : World) (hM : AnyMap wx a n c xs) : Calls Tryz.prog 8 #[.agg #[.int .i64 W, .int .i64 H, .slice a n c]] wx fun e w' =>
    ∃ g c', e = .returned (.agg #[.int .i64 W, .int .i64 H, .slice (some ⟨g, 0, none⟩) n c']) ∧ AnyMap w' (some ⟨g, 0, none⟩) n c' xs ∧ Below wx.heap.size wx w' :=
  (lawOwn_all W H a n c xs hm hM).mono fun e w' h => h.map hM.len hM.words
end Go.Proofs.YtnbohpcaejbpeaaGreatDoor

/-
  What the rows of chapter 1 share: arguments that come in, opened; the table that Itoa reads; a world for the witness.
-/
namespace Go.Proofs.YtnbohpcaejbpeaaGreatDoor
open Go.ChangeShapes Go.WideShapes Go.ChangeAt Go.RowKit Go.Joins Go.Deep
set_option linter.unusedVariables false

theorem ownKnobOff : ownKnob Tryz.prog.godebug = none := by kernel_rfl
theorem laidOut : laidOutB Tryz.prog = true := by kernel_rfl
theorem cellsMap : Tryz.prog.cellsOf 24 = 3 := by kernel_rfl
theorem cellsPoint : Tryz.prog.cellsOf 56 = 2 := by kernel_rfl
theorem cellsF : Tryz.prog.cellsOf 41 = 1 := by kernel_rfl

theorem float_form {H : Type} {enc : TypeId × Value → H} {P : Program} {W : World} {sp : Nat → Bool} {t k : Nat} {v : Value} {x : DataW H × List MemPlace} (ht : P.underlying t = some (.float .f32))
    (h : DataW.trod enc P W 0 sp true k t [v] = some x) : ∃ x : Nat, v = .float .f32 x ∧ x < 2 ^ 32 := by
  cases k with
  | zero => simp [DataW.trod] at h
  | succ n =>
    unfold DataW.trod at h
    rw [ht] at h
    split at h <;> simp_all
    rename_i k1 k2 b1 e2
    subst e2
    simpa [Lit.wf] using h.1.2
theorem plain_at {w : World} {a : Addr} {v : Value} (h : w.cell? a = some v) : a = ⟨a.block, a.off, none⟩ ∧ a.block < w.heap.size := by
  unfold World.cell? at h
  obtain ⟨b, o, s⟩ := a
  split at h
  · rename_i hh
    split at h
    · cases h
    · rename_i hs
      cases s with
      | none => exact ⟨rfl, (Array.getElem?_eq_some_iff.1 hh).1⟩
      | some _ => simp at hs
  · cases h


set_option maxRecDepth 100000 in
/-- A map that comes in, opened: whatever its length. -/
theorem openMap {H : Type} {enc : TypeId × Value → H} {W : World} {b0 : Nat} {v : Value} {d : DataW H} {p : List MemPlace}
    (hv : Value.okWide Tryz.prog W .any b0 24 v) (h : DataW.Trod enc Tryz.prog W 0 (fun _ => true) true 24 v d p) :
    ∃ (X Y : Int) (a : Option Addr) (n c : Nat) (xs : List Nat), v = .agg #[.int .i64 X, .int .i64 Y, .slice a n c] ∧ AnyMap W a n c xs := by
  obtain ⟨c0, c1, c2, y0, y1, y2, k, rfl, rfl, rfl, h0, h1, h2⟩ := open_agg3 Tryz.underlying24 (by kernel_rfl) cellsMap hv h
  obtain ⟨X, e0, rfl, wX⟩ := DataW.trod_int Tryz.underlying3 h0
  obtain ⟨Y, e1, rfl, wY⟩ := DataW.trod_int Tryz.underlying3 h1
  simp at e0 e1
  subst e0 e1
  rcases open_slice1 Tryz.underlying22 cellsF h2 with ⟨hcs, rfl⟩ | ⟨a, n, c, m, f, V, D, Pl, hcs, _, hl, hm, hmm, rfl, hx⟩
  · simp at hcs
    subst hcs
    exact ⟨X, Y, none, 0, 0, [], rfl, ⟨rfl, fun j hj => by omega, .inl ⟨rfl, rfl, rfl⟩, fun j hj => by omega⟩⟩
  · simp at hcs
    subst hcs
    have hnm : n ≤ m := by rw [hmm]; simp; exact hl
    have hxs : ∀ j, j < n → ∃ x : Nat, V j = .float .f32 x ∧ x < 2 ^ 32 := fun j hj => float_form Tryz.underlying41 (hx j (by omega)).2
    obtain ⟨xs, hxl, hxx⟩ : ∃ xs : List Nat, xs.length = n ∧ ∀ j, j < n → V j = .float .f32 (xs[j]?.getD 0) ∧ xs[j]?.getD 0 < 2 ^ 32 := by
      refine ⟨(List.range n).map (fun j => match V j with | .float _ x => x | _ => 0), by simp, fun j hj => ?_⟩
      obtain ⟨x, e, hx⟩ := hxs j hj
      rw [List.getElem?_map, List.getElem?_range hj]
      simp only [Option.map_some, Option.getD_some]
      rw [e]
      exact ⟨rfl, hx⟩
    refine ⟨X, Y, some a, n, c, xs, rfl, ⟨hxl, fun j hj => (hxx j hj).2, .inr ⟨a, rfl⟩, fun j hj => ?_⟩⟩
    have hpl : a = ⟨a.block, a.off, none⟩ := (plain_at (by simpa [Addr.add] using (hx 0 (by omega)).1)).1
    refine ⟨a.block, a.off, by rw [← hpl], ?_, fun j hj => ?_⟩
    · exact (plain_at (a := a) (by simpa [Addr.add] using (hx 0 (by omega)).1)).2
    · have h := (hx j (by omega)).1
      rw [(hxx j hj).1] at h
      rw [hpl, Addr.add_mid] at h
      exact h

set_option maxRecDepth 100000 in
theorem openPoint {H : Type} {enc : TypeId × Value → H} {W : World} {b0 : Nat} {v : Value} {d : DataW H} {p : List MemPlace}
    (hv : Value.okWide Tryz.prog W .any b0 56 v) (h : DataW.Trod enc Tryz.prog W 0 (fun _ => true) true 56 v d p) :
    ∃ (X Y : Int), v = .agg #[.int .i64 X, .int .i64 Y] := by
  obtain ⟨c0, c1, y0, y1, k, rfl, rfl, rfl, h0, h1⟩ := open_agg2 Tryz.underlying56 (by kernel_rfl) cellsPoint hv h
  obtain ⟨X, e0, rfl, wX⟩ := DataW.trod_int Tryz.underlying3 h0
  obtain ⟨Y, e1, rfl, wY⟩ := DataW.trod_int Tryz.underlying3 h1
  simp at e0 e1
  subst e0 e1
  exact ⟨X, Y, rfl⟩

/-! ### The table that Itoa reads, by the row's list -/

theorem gTab : Tryz.prog.globalNamed "internal/strconv.uint64pow10" = some 2 := by kernel_rfl
theorem gTabType : (Tryz.prog.globals[2]?).map (·.type) = some 221 := by kernel_rfl
theorem cellsTab : Tryz.prog.cellsOf 221 = 20 := by kernel_rfl
theorem cellsU : Tryz.prog.cellsOf 202 = 1 := by kernel_rfl
def laidList : List (String × DataW Unit) := [("math/bits.deBruijn32tab", Rows.laid_math_bits_deBruijn32tab), ("math/bits.deBruijn64tab", Rows.laid_math_bits_deBruijn64tab), ("internal/strconv.uint64pow10", Rows.laid_internal_strconv_uint64pow10)]
set_option maxRecDepth 100000 in
theorem tabAt_of {W : World} (h : laidMetH Tryz.prog laidList W) : TabAt W := by
  have h2 := h.filter (fun x => x.1 == "internal/strconv.uint64pow10")
  have e : laidList.filter (fun x => x.1 == "internal/strconv.uint64pow10") = [("internal/strconv.uint64pow10", Lib.tabData .u64 Lib.pow10Tab)] := by kernel_rfl
  rw [e] at h2
  exact Lib.tabIs_of_head (rest := []) gTab gTabType Tryz.underlying221 Tryz.underlying202 cellsU cellsTab h2

/-- A world for the witness: the settled one, the listed variables holding what the list says. -/
noncomputable def laidWorld (os : Os) : World := World.laidAll Tryz.prog os laidList
theorem laid_met (os : Os) (args : Array Value) : laidMet Tryz.prog laidList ((laidWorld os).forCall (fun _ _ => 0) ⟨#[], args, []⟩).memory :=
  laidMet_laidAll args (by kernel_rfl) (by kernel_rfl)
end Go.Proofs.YtnbohpcaejbpeaaGreatDoor

/-
  Arguments that are arrays of integers or of spans, opened.
-/
namespace Go.Proofs.YtnbohpcaejbpeaaGreatDoor
open Go.ChangeShapes Go.WideShapes Go.ChangeAt Go.RowKit Go.Joins Go.Deep
set_option linter.unusedVariables false
set_option maxRecDepth 100000

theorem cellsSpan : Tryz.prog.cellsOf 63 = 2 := by kernel_rfl
theorem cellsInt : Tryz.prog.cellsOf 3 = 1 := by kernel_rfl

theorem okWide_arr {P : Program} {w : World} {r : Reach} {base : Nat} {t n e : Nat} {v : Value} (ht : P.underlying t = some (.array n e)) (h : Value.okWide P w r base t v) : ∃ cs, v = .agg cs ∧ cs.size = P.cellsOf t := by
  simp only [Value.okWide, ht] at h
  obtain ⟨cs, h1, h2, _⟩ := h
  exact ⟨cs, h1, h2⟩

end Go.Proofs.YtnbohpcaejbpeaaGreatDoor
