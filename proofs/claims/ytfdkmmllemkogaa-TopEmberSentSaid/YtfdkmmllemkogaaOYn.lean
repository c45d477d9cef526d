/-
  The walk of TopEmberSent: which counters the program names as lost, for both stations.
-/
import Derived.Test.YtfdkmmllemkogaaOYl
namespace Go.Proofs.Ytfdkmmllemkogaa
open Go.RowKit
set_option linter.unusedVariables false

theorem made_none (w : World) : (w.alloc (.cells #[] 35)).ownsRow w.heap.size 35 6 (.slice (some ⟨w.heap.size, 0, none⟩) 0 0) 0 [] :=
  World.ownsRow_made (base := w.heap.size) (e := 35) (size := 6) w #[] 0 (by simp) (by unfold maxLen; omega) rfl
theorem flat_val_len (L : List Tel) : (L.flatMap Tel.val).length = L.length * 6 := by
  induction L with
  | nil => rfl
  | cons t L ih =>
    rw [List.flatMap_cons, List.length_append, ih, List.length_cons]
    have : t.val.length = 6 := rfl
    omega
theorem vals_one (L : List Tel) : ∀ u ∈ L.flatMap Tel.val, u.oneCell' = true := fun u hu => by
  obtain ⟨t, _, h⟩ := List.mem_flatMap.1 hu
  simp [Tel.val] at h
  rcases h with rfl | rfl | rfl | rfl | rfl | rfl <;> rfl

set_option maxRecDepth 1000000 in
set_option maxHeartbeats 51200000 in
theorem tail57 (W H : Int) (b o n c : Nat) (xs : List Nat) (ks : List Int) (m g cc : Nat) (lev : List Int) (B : Nat) (lost : Int) (hlost : 0 ≤ lost ∧ lost ≤ 65535) (w : World) (hT : Tail59 W H b o n c xs ks m g cc lev B lost w) : Tail57 W H b o n c xs ks m g cc lev B lost w := by
  unfold Tail57
  intro p L wz v27 u3 u4 u7 u8 u9 u10 u11 u12 u13 u15 u16 u17 u20 u21 u22 u23 u24 u25 u26 u28 u29 u30 u31 u32 u33 u34 u35 u36 u37 u38 u39 u40 u41 u42 u43 u44 u45 u46 u47 u48 u49 u50 u51 u52 u53 u54 u55 u56 u57 u58 u59 u60 u61 u62 u63 u64 u65 u66 u67 u68 u69 u70 u71 u72 u73 u74 u75 u76 u77 u78 u79 u80 u81 u82 u83 u84 u85 u86 u87 u88 u89 u90 u91 u92 u93 u94 u95 u96 u97 u98 u99 u100 u101 u102 u103 u104 u105 u106 u107 u108 u109 u110 u111 u112 u113 u114 u115 u116 u117 u118 u119 u120 u121 u122 u123 u124 u125 u126 u127 u128 u129 u130 u131 u132 u133 u134 u135 u136 u137 u138 u139 u140 u141 u142 u143 u144 u145 u146 u147 u148 u149 u150 u151 u152 u153 u154 u155 u156 u157 u158 u159 u160 u161 u162 u163 u164 u165 u166 u167 u168 u169 u170 u171 u172 u173 u174 u175 u176 u177 u178 u179 u180 u181 u182 u183 u184 u185 u186 u187 u188 u189 u190 u191 u192 u193 u194 u195 u196 u197 u198 u199 u200 u201 u202 u203 u204 u205 u206 u207 u208 u209 u210 u211 u212 u213 u214 u215 u216 u217 u218 u219 u220 u221 u222 u223 u224 u225 u226 u227 u228 u229 u230 u231 u232 u233 u234 u235 u236 u237 u238 u239 u240 u241 u242 u243 u244 u245 u246 u247 u248 u249 u250 u251 u252 u253 u254 u255 u256 u257 u258 u259 u260 u261 u262 u263 u264 u265 u266 u267 u268 u269 u270 u271 u272 u273 u274 u275 u276 u277 u278 u279 u280 u281 u282 u283 u284 u285 u286 u287 u288 u289 u290 u291 u292 u293 u294 u295 u296 u297 u298 u299 u300 u301 u302 u303 u304 u305 u306 u307 u308 u309 u310 u311 u312 u313 u314 u315 u316 u317 u318 u319 u320 u321 u322 u323 u324 u325 u326 u327 u328 u329 u330 u331 u332 u333 u334 u335 u336 u337 u338 u339 u340 u341 u342 u343 u344 u345 u346 u347 u348 u349 u350 u351 u352 u353 u354 u355 u356 u357 hS hgN hwN hA hL hM hW
  conv => arg 2; whnf
  dsimp only
  obtain ⟨i0, hi, hz0, hz1, hz2⟩ := info_parts Try.infoTel
  have hm1 := hS.m1
  have hm12 := hS.m12
  have hnl := telsTo_len lev (keptF lost) m
  rw [hL] at hnl
  have hgood : ∀ t ∈ L, t.Good := fun t ht => by
    rw [← hL] at ht
    obtain ⟨i, hi, h⟩ := telsTo_mem ht
    rcases h with rfl | ⟨rfl, _⟩
    · exact hS.good 8 (.inr rfl) i hi
    · exact hS.good 7 (.inl rfl) i hi
  have hL1 : 1 ≤ L.length := by
    rw [← hL, show m = (m - 1) + 1 by omega, telsTo_succ]
    simp only [List.length_append, List.length_cons, List.length_nil]; omega
  obtain ⟨g14, c14, h14, hg14, hN14⟩ := owns_some hM.tels hL1
  have e14 : p.gl = some ⟨g14, 0, none⟩ := by injection h14
  have hC7 : countsOf L 7 = keptTo (keptF lost) m := by rw [← hL]; exact counts7 _ _ _
  have hC8 : countsOf L 8 = (List.range m).map (fun i : Nat => (i : Int)) := by rw [← hL]; exact counts8 _ _ _
  have g7 := keptTo_gaps (keptF lost) m (by omega)
  have g8 := range_gaps m
  have hwl := wantTo_len (keptTo (keptF lost) m) m
  have KL7 : Hid (∀ (w' : World) (g' c' : Nat), g' < w'.heap.size → TelsAt w' g' 0 L → Calls Try.prog 11 #[.slice (some ⟨g', 0, none⟩) L.length c', .int .i64 7] w' fun e w'' =>
      ∃ v, e = .returned (.tuple #[v, .int .i64 0]) ∧ w''.ownsRow w'.heap.size 3 1 v (wantTo (keptTo (keptF lost) m) m).length ((wantTo (keptTo (keptF lost) m) m).map (Value.int .i64)) ∧ Below w'.heap.size w' w'') := Lib.hid fun w' g' c' h1 h2 => by
    have h := lost_any L hgood g' 0 L.length c' 7 (by omega) rfl (by omega) w' h1 h2 (by rw [hC7]; exact keptTo_asc _ _ (by omega)) (by rw [hC7, g7]; omega)
    rw [hC7, g7] at h
    exact h
  have KL8 : Hid (∀ (w' : World) (g' c' : Nat), g' < w'.heap.size → TelsAt w' g' 0 L → Calls Try.prog 11 #[.slice (some ⟨g', 0, none⟩) L.length c', .int .i64 8] w' fun e w'' =>
      ∃ v, e = .returned (.tuple #[v, .int .i64 0]) ∧ w''.ownsRow w'.heap.size 3 1 v 0 [] ∧ Below w'.heap.size w' w'') := Lib.hid fun w' g' c' h1 h2 => by
    have h := lost_any L hgood g' 0 L.length c' 8 (by omega) rfl (by omega) w' h1 h2 (by rw [hC8]; exact range_asc _ (by omega)) (by rw [hC8, g8]; simp)
    rw [hC8, g8] at h
    exact h
  rw [e14]
  have htels := hM.tels
  rw [e14] at htels
  have HTL := Lib.hid htels
  have HC7 : Hid (∀ j u, (L.flatMap Tel.val)[j]? = some u → (wz.alloc (.cells #[] 35)).cell? ((⟨g14, 0, none⟩ : Addr).add j) = some u) := Lib.hid fun j u hu => (htels.alloc _).cells (g := g14) rfl j u hu
  have hNz : p.N ≤ wz.heap.size := by omega
  have HS := Lib.hid hS
  have HM := Lib.hid hM
  have HA := Lib.hid hA
  have HL := Lib.hid hL
  have HW := Lib.hid hW
  clear hS hM hA hL hW hgood h14 hC7 hC8 g7 g8 e14 htels
  go_upto_region 58 with (first
    | ((at_builtin; refine wpList_append_own _ rfl (.tmp 282) (.tmp 283) 40 rfl wz.heap.size 35 i0 (.agg #[.int .i64 0, .int .i64 0, .int .i64 0, .int .i64 0, .int .i64 0, .int .i64 0]) 6 48 Try.underlying40 hi hz0 hz1 hz2 rfl (by decide) (.slice (some ⟨wz.heap.size, 0, none⟩) 0 0) 0 [] rfl (made_none _) ⟨g14, 0, none⟩ L.length p.cl (L.flatMap Tel.val) rfl (flat_val_len L) HC7.out (vals_one L) (by unfold maxLen; omega) (by omega) (by simp) ?_; intro vw2 w2 hownw2 hgroww2 _
        rw [Nat.zero_add, List.nil_append] at hownw2
        obtain ⟨gw2, cw2, rfl, hgw2, hgbw2⟩ := owns_some hownw2 (by omega)
        have hbw2 : Below wz.heap.size wz w2 := ((Below.refl _ wz).alloc (Nat.le_refl _) _).grown hgroww2 (by simp) (fun j hj => ((made_none wz).lt j hj).1)
        have HBw2 := Lib.hid hbw2
        have Kw2 := Lib.hid (KL7.out w2 gw2 cw2 hgw2 (telsAt_of hownw2))
        clear hbw2 hownw2 hgroww2))
    | ((go_at_call 11; refine Kw2.out.mono ?_; rintro e w3 ⟨v29, rfl, hown3, hb3⟩
        have HO3 := Lib.hid hown3
        have HB3 := Lib.hid (HBw2.out.trans (hb3.mono HBw2.out.size))
        have HC8 : Hid (∀ j u, (L.flatMap Tel.val)[j]? = some u → (w3.alloc (.cells #[] 35)).cell? ((⟨g14, 0, none⟩ : Addr).add j) = some u) := Lib.hid fun j u hu => ((owns_kept HTL.out HB3.out (Nat.le_refl _)).alloc _).cells (g := g14) rfl j u hu
        clear hown3 hb3)))
  have hN3 := HB3.out.size
  go_cut [31, 32] (fun s31 s32 wr => ∃ (a31 : Option Addr) (c31 : Nat), s31 = .slice a31 0 c31 ∧ s32 = .int .i64 0 ∧ Below w3.heap.size w3 wr)
  case first =>
   go_wp2_with (first
    | ((at_builtin; refine wpList_append_own _ rfl (.tmp 289) (.tmp 290) 40 rfl w3.heap.size 35 i0 (.agg #[.int .i64 0, .int .i64 0, .int .i64 0, .int .i64 0, .int .i64 0, .int .i64 0]) 6 48 Try.underlying40 hi hz0 hz1 hz2 rfl (by decide) (.slice (some ⟨w3.heap.size, 0, none⟩) 0 0) 0 [] rfl (made_none _) ⟨g14, 0, none⟩ L.length p.cl (L.flatMap Tel.val) rfl (flat_val_len L) HC8.out (vals_one L) (by unfold maxLen; omega) (by omega) (by simp) ?_; intro vw4 w4 hownw4 hgroww4 _
        rw [Nat.zero_add, List.nil_append] at hownw4
        obtain ⟨gw4, cw4, rfl, hgw4, hgbw4⟩ := owns_some hownw4 (by omega)
        have hbw4 : Below w3.heap.size w3 w4 := ((Below.refl _ w3).alloc (Nat.le_refl _) _).grown hgroww4 (by simp) (fun j hj => ((made_none w3).lt j hj).1)
        have HBw4 := Lib.hid hbw4
        have Kw4 := Lib.hid (KL8.out w4 gw4 cw4 hgw4 (telsAt_of hownw4))
        clear hbw4 hownw4 hgroww4))
    | ((go_at_call 11; refine Kw4.out.mono ?_; rintro e w5 ⟨v31, rfl, hown5, hb5⟩
        obtain ⟨a31, c31, rfl⟩ := owns_slice hown5
        have HB5 := Lib.hid (HBw4.out.trans (hb5.mono HBw4.out.size))
        clear hown5 hb5)))
   go_meet
   exact ⟨a31, c31, rfl, rfl, HB5.out⟩
  case rest =>
    rename_i hK
    obtain ⟨a31, c31, rfl, rfl, hb5⟩ := hcut
    refine hK _ _ ?_
    clear hK
    have hbz : Below wz.heap.size wz wc := HB3.out.trans (hb5.mono hN3)
    have hH := HBw2.out.size
    unfold Tail59 at hT
    exact hT p L _ _ _ _ _ _ _ _ _ _ _ _ _ _ _ _ _ _ _ _ _ _ _ _ _ _ _ _ _ _ _ _ _ _ _ _ _ _ _ _ _ _ _ _ _ _ _ _ _ _ _ _ _ _ _ _ _ _ _ _ _ _ _ _ _ _ _ _ _ _ _ _ _ _ _ _ _ _ _ _ _ _ _ _ _ _ _ _ _ _ _ _ _ _ _ _ _ _ _ _ _ _ _ _ _ _ _ _ _ _ _ _ _ _ _ _ _ _ _ _ _ _ _ _ _ _ _ _ _ _ _ _ _ _ _ _ _ _ _ _ _ _ _ _ _ _ _ _ _ _ _ _ _ _ _ _ _ _ _ _ _ _ _ _ _ _ _ _ _ _ _ _ _ _ _ _ _ _ _ _ _ _ _ _ _ _ _ _ _ _ _ _ _ _ _ _ _ _ _ _ _ _ _ _ _ _ _ _ _ _ _ _ _ _ _ _ _ _ _ _ _ _ _ _ _ _ _ _ _ _ _ _ _ _ _ _ _ _ _ _ _ _ _ _ _ _ _ _ _ _ _ _ _ _ _ _ _ _ _ _ _ _ _ _ _ _ _ _ _ _ _ _ _ _ _ _ _ _ _ _ _ _ _ _ _ _ _ _ _ _ _ _ _ _ _ _ _ _ _ _ _ _ _ _ _ _ _ _ _ _ _ _ _ _ _ _ _ _ _ _ _ _ _ _ _ _ _ _ _ _ _ _ _ _ _ _ _ _ _ _ _ _ _ _ _ _ _ _ _ _ _ (HS.out.kept hbz) hgN hwN (HM.out.below hbz) (owns_kept HW.out hbz (Nat.le_refl _)) (owns_base (owns_kept HO3.out hb5 (Nat.le_refl _)) (by omega))
end Go.Proofs.Ytfdkmmllemkogaa

/-
  The walk of TopEmberSent: the two maps are added.
-/
namespace Go.Proofs.Ytfdkmmllemkogaa
open Go.RowKit
set_option linter.unusedVariables false

theorem right_copy {w wx : World} {W H : Int} {b o n g' : Nat} {xs : List Nat} {ks : List Int} (h : RightMap wx W H b o n xs ks) (hc : ∀ j, j < n → w.cell? ⟨g', j, none⟩ = some (.float .f32 (xs[j]?.getD 0))) : RightMap w W H g' 0 n xs ks :=
  ⟨⟨h.len, h.lenk, h.small, fun j hj => by rw [Nat.zero_add]; exact hc j hj, h.words, h.smps, h.sizes⟩, h.wid, h.hei, h.area⟩
/-- The sum lies there, in a box. -/
structure SumAt (wz : World) (W H : Int) (n : Nat) (ks : List Int) (B33 gS : Nat) (wx : World) : Prop where
  box : wx.heap[B33]? = some (.cells #[.int .i64 W, .int .i64 H, .slice (some ⟨gS, 0, none⟩) n n] 50 (0, 0))
  lt : gS < wx.heap.size
  cells : ∀ j, j < n → wx.cell? ⟨gS, j, none⟩ = some (.float .f32 (smpOf (ks[j]?.getD 0)))
  below : Below wz.heap.size wz wx
theorem SumAt.drew {wz : World} {W H : Int} {n : Nat} {ks : List Int} {B33 gS : Nat} {wx : World} (h : SumAt wz W H n ks B33 gS wx) : SumAt wz W H n ks B33 gS wx.drew :=
  ⟨blk_drew h.box, h.lt, h.cells, h.below.drew⟩
theorem sum_alloc {wz : World} {W H : Int} {n : Nat} {ks : List Int} {gS : Nat} {wD : World} (hb : Below wz.heap.size wz wD) (hg : gS < wD.heap.size) (hc : ∀ j, j < n → wD.cell? ⟨gS, j, none⟩ = some (.float .f32 (smpOf (ks[j]?.getD 0)))) :
    SumAt wz W H n ks wD.heap.size gS (wD.alloc (.cells #[.int .i64 W, .int .i64 H, .slice (some ⟨gS, 0, none⟩) n n] 50)) :=
  ⟨blk_alloc_new _ _, by simp; omega, fun j hj => (((Below.refl _ wD).alloc (Nat.le_refl _) _).cell (p := ⟨gS, j, none⟩) hg).trans (hc j hj), hb.alloc hb.size _⟩
theorem sum_set {wz : World} {W H : Int} {n : Nat} {ks : List Int} {gS P : Nat} {wD : World} (hn : 1 ≤ n) (hb : Below wz.heap.size wz wD) (hP : wz.heap.size ≤ P) (hr : wD.heap[P]? = some (.cells #[.int .i64 0, .int .i64 0, .slice none 0 0] 50 (0, 0))) (hg : gS < wD.heap.size) (hc : ∀ j, j < n → wD.cell? ⟨gS, j, none⟩ = some (.float .f32 (smpOf (ks[j]?.getD 0)))) :
    SumAt wz W H n ks P gS (((wD.setCell ⟨P, 0, none⟩ (.int .i64 W)).setCell ⟨P, 1, none⟩ (.int .i64 H)).setCell ⟨P, 2, none⟩ (.slice (some ⟨gS, 0, none⟩) n n)) := by
  have hne : gS ≠ P := fun e => by
    subst e
    have h := hc 0 (by omega)
    rw [cell_of_row wD _ 0 _ _ (0, 0) hr] at h
    simp at h
  refine ⟨blk_set3 hr _ _ _, by simp [World.setCell]; exact hg, fun j hj => ?_, ((hb.setCell (p := ⟨P, 0, none⟩) hP _).setCell (p := ⟨P, 1, none⟩) hP _).setCell (p := ⟨P, 2, none⟩) hP _⟩
  have h1 : ∀ (w' : World) (i : Nat) (v : Value), (w'.setCell ⟨P, i, none⟩ v).cell? ⟨gS, j, none⟩ = w'.cell? ⟨gS, j, none⟩ := fun w' i v => World.cell?_setCell_other w' _ _ v (by intro e; injection e with e1 e2; exact hne e1.symm)
  rw [h1, h1, h1]
  exact hc j hj

set_option maxRecDepth 1000000 in
/-- What is still to be shown where the walk stands ahead of region 60. -/
def Tail60 (W H : Int) (b o n c : Nat) (xs : List Nat) (ks : List Int) (m g cc : Nat) (lev : List Int) (B : Nat) (lost : Int) (w : World) : Prop :=
  ∀ (p : MadeAt) (L : List Tel) (wz wx : World) (v27 v29 : Value) (a31 : Option Addr) (c31 B33 gS : Nat) (u3 u4 u7 u8 u9 u10 u11 u12 u13 u14 u15 u16 u17 u20 u21 u22 u23 u24 u25 u26 u28 u35 u36 u37 u38 u39 u40 u41 u42 u43 u44 u45 u46 u47 u48 u49 u50 u51 u52 u53 u54 u55 u56 u57 u58 u59 u60 u61 u62 u63 u64 u65 u66 u67 u68 u69 u70 u71 u72 u73 u74 u75 u76 u77 u78 u79 u80 u81 u82 u83 u84 u85 u86 u87 u88 u89 u90 u91 u92 u93 u94 u95 u96 u97 u98 u99 u100 u101 u102 u103 u104 u105 u106 u107 u108 u109 u110 u111 u112 u113 u114 u115 u116 u117 u118 u119 u120 u121 u122 u123 u124 u125 u126 u127 u128 u129 u130 u131 u132 u133 u134 u135 u136 u137 u138 u139 u140 u141 u142 u143 u144 u145 u146 u147 u148 u149 u150 u151 u152 u153 u154 u155 u156 u157 u158 u159 u160 u161 u162 u163 u164 u165 u166 u167 u168 u169 u170 u171 u172 u173 u174 u175 u176 u177 u178 u179 u180 u181 u182 u183 u184 u185 u186 u187 u188 u189 u190 u191 u192 u193 u194 u195 u196 u197 u198 u199 u200 u201 u202 u203 u204 u205 u206 u207 u208 u209 u210 u211 u212 u213 u214 u215 u216 u217 u218 u219 u220 u221 u222 u223 u224 u225 u226 u227 u228 u229 u230 u231 u232 u233 u234 u235 u236 u237 u238 u239 u240 u241 u242 u243 u244 u245 u246 u247 u248 u249 u250 u251 u252 u253 u254 u255 u256 u257 u258 u259 u260 u261 u262 u263 u264 u265 u266 u267 u268 u269 u270 u271 u272 u273 u274 u275 u276 u277 u278 u279 u280 u281 u282 u283 u284 u285 u286 u287 u288 u289 u290 u291 u292 u293 u294 u295 u296 u297 u298 u299 u300 u301 u302 u303 u304 u305 u306 u307 u308 u309 u310 u311 u312 u313 u314 u315 u316 u317 u318 u319 u320 u321 u322 u323 u324 u325 u326 u327 u328 u329 u330 u331 u332 u333 u334 u335 u336 u337 u338 u339 u340 u341 u342 u343 u344 u345 u346 u347 u348 u349 u350 u351 u352 u353 u354 u355 u356 u357 : Value), Sent w W H b o n c xs ks m g cc lev B wx → Made p W H n m L (csOf m (keptTo (keptF lost) m)) (avOf n lev (keptTo (keptF lost) m)) (rsOf n xs (keptTo (keptF lost) m)) wx → wx.ownsRow p.N 3 1 v27 (wantTo (keptTo (keptF lost) m) m).length ((wantTo (keptTo (keptF lost) m) m).map (Value.int .i64)) → wx.ownsRow p.N 3 1 v29 (wantTo (keptTo (keptF lost) m) m).length ((wantTo (keptTo (keptF lost) m) m).map (Value.int .i64)) → SumAt wz W H n ks B33 gS wx → Code.wp Try.prog (tailOf 60) (bodyPost Try.prog Try.f3 (SentPost w)) ⟨#[.agg #[.int .i64 W, .int .i64 H, .slice (some ⟨b, o, none⟩) n c], .int .u16 lost, .pointer (some ⟨w.heap.size, 0, none⟩), u3, u4, .slice (some ⟨g, 0, none⟩) (3 * m) cc, .int .i64 m, u7, u8, u9, u10, u11, u12, u13, u14, u15, u16, u17, .pointer (some ⟨p.B18, 0, none⟩), .pointer (some ⟨p.B19, 0, none⟩), u20, u21, u22, u23, u24, u25, u26, v27, u28, v29, .int .i64 0, .slice a31 0 c31, .int .i64 0, .pointer (some ⟨B33, 0, none⟩), .int .i64 0, u35, u36, u37, u38, u39, u40, u41, u42, u43, u44, u45, u46, u47, u48, u49, u50, u51, u52, u53, u54, u55, u56, u57, u58, u59, u60, u61, u62, u63, u64, u65, u66, u67, u68, u69, u70, u71, u72, u73, u74, u75, u76, u77, u78, u79, u80, u81, u82, u83, u84, u85, u86, u87, u88, u89, u90, u91, u92, u93, u94, u95, u96, u97, u98, u99, u100, u101, u102, u103, u104, u105, u106, u107, u108, u109, u110, u111, u112, u113, u114, u115, u116, u117, u118, u119, u120, u121, u122, u123, u124, u125, u126, u127, u128, u129, u130, u131, u132, u133, u134, u135, u136, u137, u138, u139, u140, u141, u142, u143, u144, u145, u146, u147, u148, u149, u150, u151, u152, u153, u154, u155, u156, u157, u158, u159, u160, u161, u162, u163, u164, u165, u166, u167, u168, u169, u170, u171, u172, u173, u174, u175, u176, u177, u178, u179, u180, u181, u182, u183, u184, u185, u186, u187, u188, u189, u190, u191, u192, u193, u194, u195, u196, u197, u198, u199, u200, u201, u202, u203, u204, u205, u206, u207, u208, u209, u210, u211, u212, u213, u214, u215, u216, u217, u218, u219, u220, u221, u222, u223, u224, u225, u226, u227, u228, u229, u230, u231, u232, u233, u234, u235, u236, u237, u238, u239, u240, u241, u242, u243, u244, u245, u246, u247, u248, u249, u250, u251, u252, u253, u254, u255, u256, u257, u258, u259, u260, u261, u262, u263, u264, u265, u266, u267, u268, u269, u270, u271, u272, u273, u274, u275, u276, u277, u278, u279, u280, u281, u282, u283, u284, u285, u286, u287, u288, u289, u290, u291, u292, u293, u294, u295, u296, u297, u298, u299, u300, u301, u302, u303, u304, u305, u306, u307, u308, u309, u310, u311, u312, u313, u314, u315, u316, u317, u318, u319, u320, u321, u322, u323, u324, u325, u326, u327, u328, u329, u330, u331, u332, u333, u334, u335, u336, u337, u338, u339, u340, u341, u342, u343, u344, u345, u346, u347, u348, u349, u350, u351, u352, u353, u354, u355, u356, u357], []⟩ wx

set_option maxRecDepth 1000000 in
set_option maxHeartbeats 51200000 in
theorem tail59 (W H : Int) (b o n c : Nat) (xs : List Nat) (ks : List Int) (m g cc : Nat) (lev : List Int) (B : Nat) (lost : Int) (hlost : 0 ≤ lost ∧ lost ≤ 65535) (w : World) (hT : Tail60 W H b o n c xs ks m g cc lev B lost w) : Tail59 W H b o n c xs ks m g cc lev B lost w := by
  unfold Tail59
  intro p L wz v27 v29 a31 c31 u3 u4 u7 u8 u9 u10 u11 u12 u13 u14 u15 u16 u17 u20 u21 u22 u23 u24 u25 u26 u28 u33 u34 u35 u36 u37 u38 u39 u40 u41 u42 u43 u44 u45 u46 u47 u48 u49 u50 u51 u52 u53 u54 u55 u56 u57 u58 u59 u60 u61 u62 u63 u64 u65 u66 u67 u68 u69 u70 u71 u72 u73 u74 u75 u76 u77 u78 u79 u80 u81 u82 u83 u84 u85 u86 u87 u88 u89 u90 u91 u92 u93 u94 u95 u96 u97 u98 u99 u100 u101 u102 u103 u104 u105 u106 u107 u108 u109 u110 u111 u112 u113 u114 u115 u116 u117 u118 u119 u120 u121 u122 u123 u124 u125 u126 u127 u128 u129 u130 u131 u132 u133 u134 u135 u136 u137 u138 u139 u140 u141 u142 u143 u144 u145 u146 u147 u148 u149 u150 u151 u152 u153 u154 u155 u156 u157 u158 u159 u160 u161 u162 u163 u164 u165 u166 u167 u168 u169 u170 u171 u172 u173 u174 u175 u176 u177 u178 u179 u180 u181 u182 u183 u184 u185 u186 u187 u188 u189 u190 u191 u192 u193 u194 u195 u196 u197 u198 u199 u200 u201 u202 u203 u204 u205 u206 u207 u208 u209 u210 u211 u212 u213 u214 u215 u216 u217 u218 u219 u220 u221 u222 u223 u224 u225 u226 u227 u228 u229 u230 u231 u232 u233 u234 u235 u236 u237 u238 u239 u240 u241 u242 u243 u244 u245 u246 u247 u248 u249 u250 u251 u252 u253 u254 u255 u256 u257 u258 u259 u260 u261 u262 u263 u264 u265 u266 u267 u268 u269 u270 u271 u272 u273 u274 u275 u276 u277 u278 u279 u280 u281 u282 u283 u284 u285 u286 u287 u288 u289 u290 u291 u292 u293 u294 u295 u296 u297 u298 u299 u300 u301 u302 u303 u304 u305 u306 u307 u308 u309 u310 u311 u312 u313 u314 u315 u316 u317 u318 u319 u320 u321 u322 u323 u324 u325 u326 u327 u328 u329 u330 u331 u332 u333 u334 u335 u336 u337 u338 u339 u340 u341 u342 u343 u344 u345 u346 u347 u348 u349 u350 u351 u352 u353 u354 u355 u356 u357 hS hgN hwN hM hW hV
  conv => arg 2; whnf
  dsimp only
  have hn1 := hS.n1
  have hn36 := hS.n36
  obtain ⟨Wn, rfl⟩ : ∃ Wn : Nat, W = Wn := ⟨W.toNat, by have := hS.right.wid; omega⟩
  obtain ⟨Hn, rfl⟩ : ∃ Hn : Nat, H = Hn := ⟨H.toNat, by have := hS.right.hei; omega⟩
  have hRA := again_right hS hM.again
  have hRR := rest_right hS hM.rest
  obtain ⟨av, hav⟩ : ∃ av, avOf n lev (keptTo (keptF lost) m) = av := ⟨_, rfl⟩
  obtain ⟨rs, hrs⟩ : ∃ rs, rsOf n xs (keptTo (keptF lost) m) = rs := ⟨_, rfl⟩
  have hsm := ak_rk n lev ks (keptTo (keptF lost) m) hS.levk
  have hbd := ak_rk_bd n lev (keptTo (keptF lost) m) hS.levb
  obtain ⟨ak, hak⟩ : ∃ ak, akOf n lev (keptTo (keptF lost) m) = ak := ⟨_, rfl⟩
  obtain ⟨rk, hrk⟩ : ∃ rk, rkOf n lev (keptTo (keptF lost) m) = rk := ⟨_, rfl⟩
  rw [hav, hak] at hRA
  rw [hrs, hrk] at hRR
  rw [hak, hrk] at hsm hbd
  have hgA : p.gA < wz.heap.size := (hM.again.lt _ rfl).2
  have hgR : p.gR < wz.heap.size := (hM.rest.lt _ rfl).2
  have h18 := lt_of_blk hM.b18
  have h19 := lt_of_blk hM.b19
  have a0 : wz.cell? ⟨p.B18, 0, none⟩ = some (.int .i64 Wn) := by rw [cell_of_row wz _ 0 _ _ (0, 0) hM.b18]; rfl
  have a1 : wz.cell? ⟨p.B18, 1, none⟩ = some (.int .i64 Hn) := by rw [cell_of_row wz _ 1 _ _ (0, 0) hM.b18]; rfl
  have a2 : wz.cell? ⟨p.B18, 2, none⟩ = some (.slice (some ⟨p.gA, 0, none⟩) n n) := by rw [cell_of_row wz _ 2 _ _ (0, 0) hM.b18]; rfl
  have c0 : wz.cell? ⟨p.B19, 0, none⟩ = some (.int .i64 Wn) := by rw [cell_of_row wz _ 0 _ _ (0, 0) hM.b19]; rfl
  have c1 : wz.cell? ⟨p.B19, 1, none⟩ = some (.int .i64 Hn) := by rw [cell_of_row wz _ 1 _ _ (0, 0) hM.b19]; rfl
  have c2 : wz.cell? ⟨p.B19, 2, none⟩ = some (.slice (some ⟨p.gR, 0, none⟩) n p.cR) := by rw [cell_of_row wz _ 2 _ _ (0, 0) hM.b19]; rfl
  have HKA : Hid (∀ w1 : World, Blw wz.heap.size wz w1 → Calls Try.prog 13 #[.agg #[.int .i64 Wn, .int .i64 Hn, .slice (some ⟨p.gA, 0, none⟩) n n]] w1 fun e w' =>
      ∃ g c, e = .returned (.agg #[.int .i64 Wn, .int .i64 Hn, .slice (some ⟨g, 0, none⟩) n c]) ∧ g < w'.heap.size ∧ (∀ j, j < n → w'.cell? ⟨g, j, none⟩ = some (.float .f32 (av[j]?.getD 0))) ∧ Below w1.heap.size w1 w' ∧ Below wz.heap.size wz w') := Lib.hid fun w1 (h1 : Below wz.heap.size wz w1) =>
    (emberMap_any Wn Hn p.gA 0 n n av hRA.len hn1 (by omega) (by have := h1.size; omega) (hRA.below h1 hgA).cells).mono fun e w' ⟨g, c, he, _, h3, h4, h5, _⟩ => ⟨g, c, he, h3, h4, h5, h1.trans (h5.mono h1.size)⟩
  have HKR : Hid (∀ w1 : World, Blw wz.heap.size wz w1 → Calls Try.prog 13 #[.agg #[.int .i64 Wn, .int .i64 Hn, .slice (some ⟨p.gR, 0, none⟩) n p.cR]] w1 fun e w' =>
      ∃ g c, e = .returned (.agg #[.int .i64 Wn, .int .i64 Hn, .slice (some ⟨g, 0, none⟩) n c]) ∧ g < w'.heap.size ∧ (∀ j, j < n → w'.cell? ⟨g, j, none⟩ = some (.float .f32 (rs[j]?.getD 0))) ∧ Below w1.heap.size w1 w' ∧ Below wz.heap.size wz w') := Lib.hid fun w1 (h1 : Below wz.heap.size wz w1) =>
    (emberMap_any Wn Hn p.gR 0 n p.cR rs hRR.len hn1 (by omega) (by have := h1.size; omega) (hRR.below h1 hgR).cells).mono fun e w' ⟨g, c, he, _, h3, h4, h5, _⟩ => ⟨g, c, he, h3, h4, h5, h1.trans (h5.mono h1.size)⟩
  have HKD : Hid (∀ (wA wB w1 : World) (g1 c1 g2 c2 : Nat), g1 < wA.heap.size → g2 < wB.heap.size → (∀ j, j < n → wA.cell? ⟨g1, j, none⟩ = some (.float .f32 (av[j]?.getD 0))) → (∀ j, j < n → wB.cell? ⟨g2, j, none⟩ = some (.float .f32 (rs[j]?.getD 0))) → Below wA.heap.size wA w1 → Below wB.heap.size wB w1 →
      Calls Try.prog 12 #[.agg #[.int .i64 Wn, .int .i64 Hn, .slice (some ⟨g1, 0, none⟩) n c1], .agg #[.int .i64 Wn, .int .i64 Hn, .slice (some ⟨g2, 0, none⟩) n c2]] w1 fun e w' =>
      ∃ g, e = .returned (.tuple #[.agg #[.int .i64 Wn, .int .i64 Hn, .slice (some ⟨g, 0, none⟩) n n], .int .i64 0]) ∧ g < w'.heap.size ∧ (∀ j, j < n → w'.cell? ⟨g, j, none⟩ = some (.float .f32 (smpOf (ks[j]?.getD 0)))) ∧ Below w1.heap.size w1 w') := Lib.hid fun wA wB w1 g1 c1 g2 c2 h1 h2 hc1 hc2 hb1 hb2 => by
    have hr1 : RightMap w1 Wn Hn g1 0 n av ak := (right_copy hRA hc1).below hb1 h1
    have hr2 : RightMap w1 Wn Hn g2 0 n rs rk := (right_copy hRR hc2).below hb2 h2
    refine (added_any Wn Hn g1 0 c1 g2 0 c2 n av rs ak rk w1 hr1 hr2 (by have := hb1.size; omega) (by have := hb2.size; omega) hbd).mono ?_
    rintro e w' ⟨g, he, hg, hc, hb⟩
    exact ⟨g, he, hg, fun j hj => by rw [hc j hj, hsm j hj], hb⟩
  have HS := Lib.hid hS
  have HM := Lib.hid hM
  have HW := Lib.hid hW
  have HV := Lib.hid hV
  clear hS hM hW hV hRA hRR hsm hbd hav hrs hak hrk
  go_upto_region 59 with fail
  go_cut [33, 34] (fun s33 s34 wx => ∃ B33 gS, s33 = .pointer (some ⟨B33, 0, none⟩) ∧ s34 = .int .i64 0 ∧ SumAt wz Wn Hn n ks B33 gS wx)
  case first =>
   have HS3 : wz.heap.size ≤ wz.heap.size := Nat.le_refl _
   have hb3 : Below wz.heap.size wz wz := Below.refl _ _
   go_region_held3 (fun w' => w'.cell? ⟨p.B18, 0, none⟩ = some (.int .i64 Wn) ∧ w'.cell? ⟨p.B18, 1, none⟩ = some (.int .i64 Hn) ∧ w'.cell? ⟨p.B18, 2, none⟩ = some (.slice (some ⟨p.gA, 0, none⟩) n n) ∧
      w'.cell? ⟨p.B19, 0, none⟩ = some (.int .i64 Wn) ∧ w'.cell? ⟨p.B19, 1, none⟩ = some (.int .i64 Hn) ∧ w'.cell? ⟨p.B19, 2, none⟩ = some (.slice (some ⟨p.gR, 0, none⟩) n p.cR) ∧ Blw wz.heap.size wz w')
    ((go_split_ands; refine ⟨?_, ?_, ?_, ?_, ?_, ?_, ?_⟩ <;> first
      | (with_reducible refine Eq.trans (Below.cell (B := wz.heap.size) (w := wz) ?_ (by first | (simp; done) | (simp; omega))) (by with_reducible assumption); (repeat (first | (with_reducible exact hb3) | (with_reducible refine below_alloc ?_ HS3 _) | (with_reducible refine Below.drew ?_) | (with_reducible refine Below.setCell ?_ (by dsimp only; omega) _))); done)
      | (show Below _ _ _; (repeat (first | (with_reducible exact hb3) | (with_reducible refine below_alloc ?_ HS3 _) | (with_reducible refine Below.drew ?_) | (with_reducible refine Below.setCell ?_ (by dsimp only; omega) _))); done)))
    (first
      | (go_at_call_of 13 (Value.agg #[.int .i64 Wn, .int .i64 Hn, .slice (some ⟨p.gA, 0, none⟩) n n]); refine (HKA.out _ ?_).mono ?_; rotate_left 1; rintro e wA ⟨gA', cA', rfl, hga2, hca, hba, hb3⟩; (have hzA := hb3.size); (obtain ⟨hcc, hff⟩ := bcell hba); (have hls := hba.size); (try simp at hls); (try have hqA0 : wz.heap.size < wA.heap.size := by omega); rotate_left 1; (simp [*]))
      | (go_at_call_of 13 (Value.agg #[.int .i64 Wn, .int .i64 Hn, .slice (some ⟨p.gR, 0, none⟩) n p.cR]); refine (HKR.out _ ?_).mono ?_; rotate_left 1; rintro e wB ⟨gB', cB', rfl, hgb2, hcb, hbb, hb3⟩; (have hzB := hb3.size); (obtain ⟨hcc, hff⟩ := bcell hbb); (have hls := hbb.size); (try simp at hls); (try have hqB0 : wz.heap.size < wB.heap.size := by omega); (try have hqBA : wA.heap.size < wB.heap.size := by omega)
         (have hAB : Below wA.heap.size wA wB := by (refine Below.trans ?_ (Below.mono hbb ?_)); (repeat (first | (with_reducible exact Below.refl _ _) | (with_reducible refine Below.alloc ?_ (Nat.le_refl _) _) | (with_reducible refine Below.drew ?_))); (first | exact Nat.le_refl _ | simp))
         rotate_left 1; (simp [*]))
      | (go_at_call 12; refine (HKD.out wA wB _ gA' cA' gB' cB' hga2 hgb2 hca hcb ?_ ?_).mono ?_; rotate_left 2; rintro e wD ⟨gS, rfl, hgS, hcS, hbS⟩
         (have hb3 : Below wz.heap.size wz wD := by first | exact hb3.trans (hbS.mono hb3.size) | exact (hb3.alloc hb3.size _).trans (hbS.mono (by simp; omega)))
         (have hzD := hb3.size); (obtain ⟨hcc, hff⟩ := bcell hbS); (have hls := hbS.size); (try simp at hls); (try have hqD0 : wz.heap.size < wD.heap.size := by omega); (try have hqDA : wA.heap.size < wD.heap.size := by omega); (try have hqDB : wB.heap.size < wD.heap.size := by omega)
         rotate_left 1; (first | exact hAB | exact hAB.alloc hAB.size _); (first | exact Below.refl _ _ | exact (Below.refl _ _).alloc (Nat.le_refl _) _)))
   all_goals go_wp2_with fail
   all_goals go_meet
   all_goals refine ⟨_, gS, rfl, rfl, ?_⟩
   all_goals first
     | (with_reducible exact sum_alloc hb3 hgS hcS)
     | (with_reducible exact SumAt.drew (sum_alloc hb3 hgS hcS))
     | (with_reducible refine sum_set hn1 hb3 ?_ ?_ hgS hcS)
     | (with_reducible refine SumAt.drew (sum_set hn1 hb3 ?_ ?_ hgS hcS))
   all_goals first
     | omega
     | (refine (hbS.block _ ?_).trans (blk_alloc_new wB _) <;> first | omega | (simp; done))
     | (refine (hbS.block _ ?_).trans ((hbb.block _ ?_).trans (blk_alloc_new wA _)) <;> first | omega | (simp; done))
     | (refine (hbS.block _ ?_).trans ((hbb.block _ ?_).trans ((hba.block _ ?_).trans (blk_alloc_new wz _))) <;> first | omega | (simp; done))
  case rest =>
    rename_i hK
    obtain ⟨B33, gS, rfl, rfl, hsum⟩ := hcut
    refine hK _ _ ?_
    clear hK
    unfold Tail60 at hT
    exact hT p L wz _ _ _ _ _ _ _ _ _ _ _ _ _ _ _ _ _ _ _ _ _ _ _ _ _ _ _ _ _ _ _ _ _ _ _ _ _ _ _ _ _ _ _ _ _ _ _ _ _ _ _ _ _ _ _ _ _ _ _ _ _ _ _ _ _ _ _ _ _ _ _ _ _ _ _ _ _ _ _ _ _ _ _ _ _ _ _ _ _ _ _ _ _ _ _ _ _ _ _ _ _ _ _ _ _ _ _ _ _ _ _ _ _ _ _ _ _ _ _ _ _ _ _ _ _ _ _ _ _ _ _ _ _ _ _ _ _ _ _ _ _ _ _ _ _ _ _ _ _ _ _ _ _ _ _ _ _ _ _ _ _ _ _ _ _ _ _ _ _ _ _ _ _ _ _ _ _ _ _ _ _ _ _ _ _ _ _ _ _ _ _ _ _ _ _ _ _ _ _ _ _ _ _ _ _ _ _ _ _ _ _ _ _ _ _ _ _ _ _ _ _ _ _ _ _ _ _ _ _ _ _ _ _ _ _ _ _ _ _ _ _ _ _ _ _ _ _ _ _ _ _ _ _ _ _ _ _ _ _ _ _ _ _ _ _ _ _ _ _ _ _ _ _ _ _ _ _ _ _ _ _ _ _ _ _ _ _ _ _ _ _ _ _ _ _ _ _ _ _ _ _ _ _ _ _ _ _ _ _ _ _ _ _ _ _ _ _ _ _ _ _ _ _ _ _ _ _ _ _ _ _ _ _ _ _ _ _ _ _ _ _ _ _ _ _ _ _ _ _ _ _ (HS.out.kept hsum.below) (HM.out.below hsum.below) (owns_kept HW.out hsum.below (Nat.le_refl _)) (owns_kept HV.out hsum.below (Nat.le_refl _)) hsum
end Go.Proofs.Ytfdkmmllemkogaa
