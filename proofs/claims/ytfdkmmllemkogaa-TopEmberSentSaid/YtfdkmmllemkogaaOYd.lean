/-
  The walk of TopEmberSent: what is received, and what is made for it.
-/
import Derived.Test.YtfdkmmllemkogaaOYa
import Derived.Test.YtfdkmmllemkogaaOYf
namespace Go.Proofs.Ytfdkmmllemkogaa
open Go.RowKit
set_option linter.unusedVariables false

theorem flat_bytes_at : ∀ (L : List Tel) (k j : Nat) (v : Value), k < L.length → (L[k]?.getD tel0).bytes[j]? = some v → (L.flatMap Tel.bytes)[24 * k + j]? = some v
  | [], _, _, _, h, _ => by simp at h
  | t :: L, 0, j, v, _, h => by
    simp only [List.getElem?_cons_zero, Option.getD_some] at h
    rw [List.flatMap_cons, List.getElem?_append_left (by have := (List.getElem?_eq_some_iff.1 h).1; omega)]
    rw [Nat.mul_zero, Nat.zero_add]; exact h
  | t :: L, k + 1, j, v, hk, h => by
    have hl : t.bytes.length = 24 := by simp [Tel.bytes, frame_len]
    rw [List.flatMap_cons, List.getElem?_append_right (by omega), hl, show 24 * (k + 1) + j - 24 = 24 * k + j by omega]
    exact flat_bytes_at L k j v (by simpa using hk) (by simpa using h)
theorem Try.infoBool : (Try.prog.info? 4).map (fun i => (i.zero, i.size, i.bytes)) = some (some (.bool false), 1, 1) := by kernel_rfl
theorem owns_cap {w : World} {B T n c g : Nat} {xs : List Value} (h : w.ownsRow B T 1 (.slice (some ⟨g, 0, none⟩) n c) n xs) : n ≤ c ∧ c ≤ maxLen := by
  rcases h.2 with ⟨h, _⟩ | ⟨g', cap, cur, h1, h2, h3, h4, h5, _⟩
  · cases h
  · simp at h1
    obtain ⟨rfl, rfl⟩ := h1
    exact ⟨h4, h5⟩

/-- What is made ahead of region 26. -/
structure Half (W H : Int) (n m : Nat) (L : List Tel) (N : Nat) (gl : Option Addr) (cl gc B18 gA : Nat) (wz : World) : Prop where
  tels : wz.ownsRow N 35 6 (.slice gl L.length cl) L.length (L.flatMap Tel.val)
  came : wz.ownsRow N 4 1 (.slice (some ⟨gc, 0, none⟩) m m) m ((List.replicate m false).map Value.bool)
  b18 : wz.heap[B18]? = some (.cells #[.int .i64 W, .int .i64 H, .slice (some ⟨gA, 0, none⟩) n n] 24 (0, 0))
  again : wz.ownsRow N 27 1 (.slice (some ⟨gA, 0, none⟩) n n) n ((List.replicate n 0).map (Value.float .f32))
  nums : N ≤ gc ∧ N ≤ B18 ∧ N ≤ gA ∧ gc ≠ B18 ∧ gc ≠ gA ∧ B18 ≠ gA ∧ gc < wz.heap.size ∧ B18 < wz.heap.size ∧ gA < wz.heap.size
  apart : ∀ k, (Value.slice gl 0 cl).ownBlock = some k → N ≤ k ∧ k ≠ gc ∧ k ≠ B18 ∧ k ≠ gA ∧ k < wz.heap.size

set_option maxRecDepth 1000000 in
/-- What is still to be shown where the walk stands ahead of region 26. -/
def Tail26 (W H : Int) (b o n c : Nat) (xs : List Nat) (ks : List Int) (m g cc : Nat) (lev : List Int) (B : Nat) (lost : Int) (w : World) : Prop :=
  ∀ (N : Nat) (gl : Option Addr) (cl gc B18 gA : Nat) (L : List Tel) (wz : World) (u3 u4 u7 u8 u9 u10 u11 u12 u13 u19 u20 u21 u22 u23 u24 u25 u26 u27 u28 u29 u30 u31 u32 u33 u34 u35 u36 u37 u38 u39 u40 u41 u42 u43 u44 u45 u46 u47 u48 u49 u50 u51 u52 u53 u54 u55 u56 u57 u58 u59 u60 u61 u62 u63 u64 u65 u66 u67 u68 u69 u70 u71 u72 u73 u74 u75 u76 u77 u78 u79 u80 u81 u82 u83 u84 u85 u86 u87 u88 u89 u90 u91 u92 u93 u94 u95 u96 u97 u98 u99 u100 u101 u102 u103 u104 u105 u106 u107 u108 u109 u110 u111 u112 u113 u114 u115 u116 u117 u118 u119 u120 u121 u122 u123 u124 u125 u126 u127 u128 u129 u130 u131 u132 u133 u134 u135 u136 u137 u138 u139 u140 u141 u142 u143 u144 u145 u146 u147 u148 u149 u150 u151 u152 u153 u154 u155 u156 u157 u158 u159 u160 u161 u162 u163 u164 u165 u166 u167 u168 u169 u170 u171 u172 u173 u174 u175 u176 u177 u178 u179 u180 u181 u182 u183 u184 u185 u186 u187 u188 u189 u190 u191 u192 u193 u194 u195 u196 u197 u198 u199 u200 u201 u202 u203 u204 u205 u206 u207 u208 u209 u210 u211 u212 u213 u214 u215 u216 u217 u218 u219 u220 u221 u222 u223 u224 u225 u226 u227 u228 u229 u230 u231 u232 u233 u234 u235 u236 u237 u238 u239 u240 u241 u242 u243 u244 u245 u246 u247 u248 u249 u250 u251 u252 u253 u254 u255 u256 u257 u258 u259 u260 u261 u262 u263 u264 u265 u266 u267 u268 u269 u270 u271 u272 u273 u274 u275 u276 u277 u278 u279 u280 u281 u282 u283 u284 u285 u286 u287 u288 u289 u290 u291 u292 u293 u294 u295 u296 u297 u298 u299 u300 u301 u302 u303 u304 u305 u306 u307 u308 u309 u310 u311 u312 u313 u314 u315 u316 u317 u318 u319 u320 u321 u322 u323 u324 u325 u326 u327 u328 u329 u330 u331 u332 u333 u334 u335 u336 u337 u338 u339 u340 u341 u342 u343 u344 u345 u346 u347 u348 u349 u350 u351 u352 u353 u354 u355 u356 u357 : Value), Sent w W H b o n c xs ks m g cc lev B wz → g < N → w.heap.size < N → telsTo lev (keptF lost) m = L → Half W H n m L N gl cl gc B18 gA wz → Code.wp Try.prog (tailOf 26) (bodyPost Try.prog Try.f3 (SentPost w)) ⟨#[.agg #[.int .i64 W, .int .i64 H, .slice (some ⟨b, o, none⟩) n c], .int .u16 lost, .pointer (some ⟨w.heap.size, 0, none⟩), u3, u4, .slice (some ⟨g, 0, none⟩) (3 * m) cc, .int .i64 m, u7, u8, u9, u10, u11, u12, u13, .slice gl L.length cl, .slice none 0 0, .int .i64 0, .slice (some ⟨gc, 0, none⟩) m m, .pointer (some ⟨B18, 0, none⟩), u19, u20, u21, u22, u23, u24, u25, u26, u27, u28, u29, u30, u31, u32, u33, u34, u35, u36, u37, u38, u39, u40, u41, u42, u43, u44, u45, u46, u47, u48, u49, u50, u51, u52, u53, u54, u55, u56, u57, u58, u59, u60, u61, u62, u63, u64, u65, u66, u67, u68, u69, u70, u71, u72, u73, u74, u75, u76, u77, u78, u79, u80, u81, u82, u83, u84, u85, u86, u87, u88, u89, u90, u91, u92, u93, u94, u95, u96, u97, u98, u99, u100, u101, u102, u103, u104, u105, u106, u107, u108, u109, u110, u111, u112, u113, u114, u115, u116, u117, u118, u119, u120, u121, u122, u123, u124, u125, u126, u127, u128, u129, u130, u131, u132, u133, u134, u135, u136, u137, u138, u139, u140, u141, u142, u143, u144, u145, u146, u147, u148, u149, u150, u151, u152, u153, u154, u155, u156, u157, u158, u159, u160, u161, u162, u163, u164, u165, u166, u167, u168, u169, u170, u171, u172, u173, u174, u175, u176, u177, u178, u179, u180, u181, u182, u183, u184, u185, u186, u187, u188, u189, u190, u191, u192, u193, u194, u195, u196, u197, u198, u199, u200, u201, u202, u203, u204, u205, u206, u207, u208, u209, u210, u211, u212, u213, u214, u215, u216, u217, u218, u219, u220, u221, u222, u223, u224, u225, u226, u227, u228, u229, u230, u231, u232, u233, u234, u235, u236, u237, u238, u239, u240, u241, u242, u243, u244, u245, u246, u247, u248, u249, u250, u251, u252, u253, u254, u255, u256, u257, u258, u259, u260, u261, u262, u263, u264, u265, u266, u267, u268, u269, u270, u271, u272, u273, u274, u275, u276, u277, u278, u279, u280, u281, u282, u283, u284, u285, u286, u287, u288, u289, u290, u291, u292, u293, u294, u295, u296, u297, u298, u299, u300, u301, u302, u303, u304, u305, u306, u307, u308, u309, u310, u311, u312, u313, u314, u315, u316, u317, u318, u319, u320, u321, u322, u323, u324, u325, u326, u327, u328, u329, u330, u331, u332, u333, u334, u335, u336, u337, u338, u339, u340, u341, u342, u343, u344, u345, u346, u347, u348, u349, u350, u351, u352, u353, u354, u355, u356, u357], []⟩ wz

set_option maxRecDepth 1000000 in
set_option maxHeartbeats 12800000 in
theorem tail21 (W H : Int) (b o n c : Nat) (xs : List Nat) (ks : List Int) (m g cc : Nat) (lev : List Int) (B : Nat) (lost : Int) (hlost : 0 ≤ lost ∧ lost ≤ 65535) (w wx : World) (hS : Sent w W H b o n c xs ks m g cc lev B wx) (hT : Tail26 W H b o n c xs ks m g cc lev B lost w) : Tail21 W H b o n c m g cc lev lost w wx := by
  unfold Tail21
  intro v n7 wy u3 u4 u8 u9 u10 u11 u12 u13 u14 u15 u16 u17 u18 u19 u20 u21 u22 u23 u24 u25 u26 u27 u28 u29 u30 u31 u32 u33 u34 u35 u36 u37 u38 u39 u40 u41 u42 u43 u44 u45 u46 u47 u48 u49 u50 u51 u52 u53 u54 u55 u56 u57 u58 u59 u60 u61 u62 u63 u64 u65 u66 u67 u68 u69 u70 u71 u72 u73 u74 u75 u76 u77 u78 u79 u80 u81 u82 u83 u84 u85 u86 u87 u88 u89 u90 u91 u92 u93 u94 u95 u96 u97 u98 u99 u100 u101 u102 u103 u104 u105 u106 u107 u108 u109 u110 u111 u112 u113 u114 u115 u116 u117 u118 u119 u120 u121 u122 u123 u124 u125 u126 u127 u128 u129 u130 u131 u132 u133 u134 u135 u136 u137 u138 u139 u140 u141 u142 u143 u144 u145 u146 u147 u148 u149 u150 u151 u152 u153 u154 u155 u156 u157 u158 u159 u160 u161 u162 u163 u164 u165 u166 u167 u168 u169 u170 u171 u172 u173 u174 u175 u176 u177 u178 u179 u180 u181 u182 u183 u184 u185 u186 u187 u188 u189 u190 u191 u192 u193 u194 u195 u196 u197 u198 u199 u200 u201 u202 u203 u204 u205 u206 u207 u208 u209 u210 u211 u212 u213 u214 u215 u216 u217 u218 u219 u220 u221 u222 u223 u224 u225 u226 u227 u228 u229 u230 u231 u232 u233 u234 u235 u236 u237 u238 u239 u240 u241 u242 u243 u244 u245 u246 u247 u248 u249 u250 u251 u252 u253 u254 u255 u256 u257 u258 u259 u260 u261 u262 u263 u264 u265 u266 u267 u268 u269 u270 u271 u272 u273 u274 u275 u276 u277 u278 u279 u280 u281 u282 u283 u284 u285 u286 u287 u288 u289 u290 u291 u292 u293 u294 u295 u296 u297 u298 u299 u300 u301 u302 u303 u304 u305 u306 u307 u308 u309 u310 u311 u312 u313 u314 u315 u316 u317 u318 u319 u320 u321 u322 u323 u324 u325 u326 u327 u328 u329 u330 u331 u332 u333 u334 u335 u336 u337 u338 u339 u340 u341 u342 u343 u344 u345 u346 u347 u348 u349 u350 u351 u352 u353 u354 u355 u356 u357 hown hb
  conv => arg 2; whnf
  dsimp only
  obtain ⟨i0, hi, hz0, hz1, hz2⟩ := info_parts Try.infoU8
  have hm1 := hS.m1
  have hm12 := hS.m12
  have hSy := hS.kept hb
  have HSENT := Lib.hid hSy
  have hn7 : n7 = 24 * (telsTo lev (keptF lost) m).length := by
    have h1 := hown.1
    rw [bytes_len] at h1
    omega
  have hnl := telsTo_len lev (keptF lost) m
  have hn600 : n7 ≤ 600 := by omega
  obtain ⟨L, hL⟩ : ∃ L, telsTo lev (keptF lost) m = L := ⟨_, rfl⟩
  have hgood : ∀ t ∈ L, t.Good := fun t ht => by
    rw [← hL] at ht
    obtain ⟨i, hi, h⟩ := telsTo_mem ht
    rcases h with rfl | ⟨rfl, _⟩
    · exact hS.good 8 (.inr rfl) i hi
    · exact hS.good 7 (.inl rfl) i hi
  have hL1 : 1 ≤ L.length := by
    rw [← hL, show m = (m - 1) + 1 by omega, telsTo_succ]
    simp only [List.length_append, List.length_cons, List.length_nil]; omega
  rw [hL] at hown hn7 hnl
  obtain ⟨gs, co, rfl, hgs, _⟩ := owns_some hown (by omega)
  have hc1 : ∀ j u, (L.flatMap Tel.bytes)[j]? = some u → (wy.alloc (.cells #[] 5)).cell? ((⟨gs, 0, none⟩ : Addr).add j) = some u := fun j u hu => by
    have h := (hown.alloc (.cells #[] 5)).cells (g := gs) rfl j u hu
    exact h
  have hone : ∀ u ∈ L.flatMap Tel.bytes, u.oneCell' = true := fun u hu => by
    obtain ⟨t, _, h⟩ := List.mem_flatMap.1 hu
    obtain ⟨x, _, rfl⟩ := List.mem_map.1 h
    rfl
  have hlenb : (L.flatMap Tel.bytes).length = n7 := by rw [bytes_len]; omega
  have hmade : (wy.alloc (.cells #[] 5)).ownsRow wy.heap.size 5 1 (.slice (some ⟨wy.heap.size, 0, none⟩) 0 0) 0 [] := World.ownsRow_made (base := wy.heap.size) (e := 5) (size := 1) wy #[] 0 (by simp) (by unfold maxLen; omega) rfl
  have HN7 := Lib.hid hn7
  have HNL := Lib.hid hnl
  have HLB := Lib.hid hlenb
  have HC1 := Lib.hid hc1
  have HON := Lib.hid hone
  have HGOOD := Lib.hid hgood
  have HL := Lib.hid hL
  have HL1 := Lib.hid hL1
  clear hS hSy hn7 hnl hlenb hc1 hone hgood hL hL1 hown
  have t2m : (L.length : Int) ≤ 2 * (m : Int) := by have := HNL.out; omega
  have t2n : ¬ (2 * (m : Int) < (L.length : Int)) := by omega
  obtain ⟨ib, hib, hzb0, hzb1, hzb2⟩ := info_parts Try.infoBool
  go_wp2_with (first
    | ((at_builtin; refine wpList_append_own _ rfl (.tmp 113) (.tmp 114) 31 rfl wy.heap.size 5 i0 (.int .u8 0) 1 1 Try.underlying31 hi hz0 hz1 hz2 rfl (by decide) (.slice (some ⟨wy.heap.size, 0, none⟩) 0 0) 0 [] rfl hmade ⟨gs, 0, none⟩ n7 co (L.flatMap Tel.bytes) rfl (by rw [HLB.out, Nat.mul_one]) HC1.out HON.out (by unfold maxLen; omega) (by omega) (by simp) ?_; intro v2 w2 hown2 hgrow2 _
        rw [Nat.zero_add, List.nil_append] at hown2
        obtain ⟨g2, c2, rfl, hg2, hgb2⟩ := owns_some hown2 (by have := HN7.out; have := HL1.out; omega)
        have hcap := owns_cap hown2
        have hb2 : Below wy.heap.size wy w2 := ((Below.refl _ wy).alloc (Nat.le_refl _) _).grown hgrow2 (by simp) (fun j hj => (hmade.lt j hj).1)
        have K8 := Lib.hid (received_any L HGOOD.out g2 0 n7 c2 HN7.out (by omega) hcap.1 hcap.2 w2 hg2 (fun k hk j v hv => by
          rw [Nat.zero_add]
          exact owns_cell hown2 (flat_bytes_at L k j v hk hv)))
        have HB2 := Lib.hid hb2
        clear hb2 hown2 hgrow2 hcap))
    | ((go_at_call 8; refine K8.out.mono ?_; rintro e w3 ⟨v3, rfl, hown3, hb3⟩
        obtain ⟨ao3, c3, rfl⟩ := owns_slice hown3
        have HO3 := Lib.hid hown3
        have HB3 := Lib.hid hb3
        clear hown3 hb3))
    | ((at_make; refine wpList_make_full _ rfl (.tmp 134) (.tmp 134) 44 rfl w3.heap.size 4 ib (.bool false) 1 Try.underlying44 hib hzb0 hzb1 .i64 .i64 (m : Int) (m : Int) m rfl rfl rfl rfl (by rw [hzb2]; omega) (by unfold maxLen; omega) (Nat.le_refl _) ?_; intro w4 hown4 hgrow4)))
  have hS4 := ((HSENT.out.kept HB2.out).kept HB3.out).kept ((Below.refl w3.heap.size w3).grown hgrow4 (Nat.le_refl _) (fun j hj => by cases hj))
  have b0 := hS4.b0
  have b1 := hS4.b1
  have b2 := hS4.b2
  have HS4 := Lib.hid hS4
  have n0 := World.new_ne w4 _ b0
  obtain ⟨iF, hiF, hzF0, hzF1, hzF2⟩ := info_parts Try.infoF32
  obtain ⟨w5, hrun5, hown5, hgrow5⟩ := run_make_full (P := Try.prog) w4.drew w4.heap.size 22 27 iF (.float .f32 0) 1 Try.underlying22 hiF hzF0 hzF1 .i64 .i64 n (by rw [hzF2]; have := HS4.out.n36; omega) (by unfold maxLen; have := HS4.out.n36; omega) (Nat.le_refl _)
  obtain ⟨w6, hrun6, hown6, hgrow6⟩ := run_make_full (P := Try.prog) (w4.alloc (.cells #[.int .i64 0, .int .i64 0, .slice none 0 0] 24)).drew w4.heap.size 22 27 iF (.float .f32 0) 1 Try.underlying22 hiF hzF0 hzF1 .i64 .i64 n (by rw [hzF2]; have := HS4.out.n36; omega) (by unfold maxLen; have := HS4.out.n36; omega) (by simp)
  simp only [World.size_drew, World.size_alloc] at hrun5 hown5 hrun6 hown6
  have hb5 : Below w4.heap.size w4 w5 := ((Below.refl w4.heap.size w4).drew).grown hgrow5 (Nat.le_refl _) (fun j hj => by cases hj)
  have hb6 : Below (w4.heap.size + 1) (w4.alloc (.cells #[.int .i64 0, .int .i64 0, .slice none 0 0] 24)) w6 := ((Below.refl (w4.heap.size + 1) _).drew).grown hgrow6 (by simp) (fun j hj => by cases hj)
  have hwl : w.heap.size < w4.heap.size := lt_of_blk HS4.out.box
  have b05 := (hb5.cell (p := ⟨w.heap.size, 0, none⟩) hwl).trans b0
  have b15 := (hb5.cell (p := ⟨w.heap.size, 1, none⟩) hwl).trans b1
  have b25 := (hb5.cell (p := ⟨w.heap.size, 2, none⟩) hwl).trans b2
  have hb46 : Below w4.heap.size w4 w6 := ((Below.refl w4.heap.size w4).alloc (Nat.le_refl _) (.cells #[.int .i64 0, .int .i64 0, .slice none 0 0] 24)).trans (hb6.mono (by omega))
  have b06 := (hb46.cell (p := ⟨w.heap.size, 0, none⟩) hwl).trans b0
  have b16 := (hb46.cell (p := ⟨w.heap.size, 1, none⟩) hwl).trans b1
  have b26 := (hb46.cell (p := ⟨w.heap.size, 2, none⟩) hwl).trans b2
  have r6 := (hb6.block w4.heap.size (by omega)).trans (blk_alloc_new w4 _)
  have z0 : w6.cell? ⟨w4.heap.size, 0, none⟩ = some (.int .i64 0) := by rw [cell_of_row w6 _ 0 _ _ (0, 0) r6]; rfl
  have z1 : w6.cell? ⟨w4.heap.size, 1, none⟩ = some (.int .i64 0) := by rw [cell_of_row w6 _ 1 _ _ (0, 0) r6]; rfl
  have z2 : w6.cell? ⟨w4.heap.size, 2, none⟩ = some (.slice none 0 0) := by rw [cell_of_row w6 _ 2 _ _ (0, 0) r6]; rfl
  have zf : ∀ j, w6.frozen? ⟨w4.heap.size, j, none⟩ = false := fun j => by simp [World.frozen?, r6]
  have zf0 := zf 0
  have zf1 := zf 1
  have zf2 := zf 2
  have hlw6 : w4.heap.size < w6.heap.size := lt_of_blk r6
  have hne6 : ¬ (w4.heap.size = w.heap.size) := by omega
  have hne6' : ¬ (w.heap.size = w4.heap.size) := by omega
  have HR6 := Lib.hid r6
  have HOW5 := Lib.hid hown5
  have HOW6 := Lib.hid hown6
  have HBB5 := Lib.hid hb5
  have HBB6 := Lib.hid hb46
  have hl5 := hb5.size
  clear r6 hown5 hown6 hb5 hb46 hb6 zf hgrow5 hgrow6
  go_cut [18] (fun s18 wx => ∃ B18 gA, s18 = .pointer (some ⟨B18, 0, none⟩) ∧ wx.heap[B18]? = some (.cells #[.int .i64 W, .int .i64 H, .slice (some ⟨gA, 0, none⟩) n n] 24 (0, 0)) ∧ wx.ownsRow w4.heap.size 27 1 (.slice (some ⟨gA, 0, none⟩) n n) n (madeCells (Value.float .f32 0).cells (n * 1)).toList ∧ Below w4.heap.size w4 wx ∧ w4.heap.size ≤ B18 ∧ B18 ≠ gA)
  case first =>
    go_region_held3 (fun w' => w'.cell? ⟨w.heap.size, 0, none⟩ = some (.int .i64 W) ∧ w'.cell? ⟨w.heap.size, 1, none⟩ = some (.int .i64 H) ∧ w'.cell? ⟨w.heap.size, 2, none⟩ = some (.slice (some ⟨b, o, none⟩) n c))
      (go_keep) (fail)
    all_goals go_wp2_with fail
    all_goals go_meet
    · have hlt5 := (HOW5.out.lt w4.heap.size rfl).2
      exact ⟨w5.heap.size, w4.heap.size, rfl, blk_alloc_new _ _, HOW5.out.alloc _, HBB5.out.alloc hl5 _, hl5, by omega⟩
    · refine ⟨w4.heap.size, w4.heap.size + 1, rfl, blk_set3 HR6.out _ _ _, ?_, ?_, Nat.le_refl _, by omega⟩
      · exact (((HOW6.out.kept (OnlyBlk.set w6 w4.heap.size 0 _).1 (.inr (fun e => absurd (show some (w4.heap.size + 1) = some w4.heap.size from e) (by simp)))).kept (OnlyBlk.set _ w4.heap.size 1 _).1 (.inr (fun e => absurd (show some (w4.heap.size + 1) = some w4.heap.size from e) (by simp)))).kept (OnlyBlk.set _ w4.heap.size 2 _).1 (.inr (fun e => absurd (show some (w4.heap.size + 1) = some w4.heap.size from e) (by simp))))
      · exact ((HBB6.out.setCell (p := ⟨w4.heap.size, 0, none⟩) (Nat.le_refl _) _).setCell (p := ⟨w4.heap.size, 1, none⟩) (Nat.le_refl _) _).setCell (p := ⟨w4.heap.size, 2, none⟩) (Nat.le_refl _) _
  case rest =>
    rename_i hK
    obtain ⟨B18, gA, rfl, r18, hownA, hb7, hB18, hneA⟩ := hcut
    refine hK _ _ ?_
    clear hK b05 b15 b25 b06 b16 b26 z0 z1 z2 zf0 zf1 zf2 hrun5 hrun6 b0 b1 b2
    have hS7 := HS4.out.kept hb7
    have hs2 := HB2.out.size
    have hs3 := HB3.out.size
    have hs4 := hown4.lt w3.heap.size rfl
    have hs7 := hb7.size
    have hAg := hownA.lt gA rfl
    have hB18s := lt_of_blk r18
    have hgl := HSENT.out.gl
    have hbx := lt_of_blk HSENT.out.box
    have htel : ∀ k, (Value.slice ao3 0 c3).ownBlock = some k → w2.heap.size ≤ k ∧ k < w3.heap.size := fun k hk => HO3.out.lt k (ownBlock_len.trans hk)
    have hb34 : Below w3.heap.size w3 w4 := (Below.refl w3.heap.size w3).grown hgrow4 (Nat.le_refl _) (fun j hj => by cases hj)
    have hHalf : Half W H n m L w2.heap.size ao3 c3 w3.heap.size B18 gA wc := by
      refine ⟨owns_kept (owns_kept HO3.out hb34 (Nat.le_refl _)) hb7 (Nat.le_refl _), ?_, r18, ?_, ⟨by omega, by omega, by omega, by omega, by omega, hneA, by omega, hB18s, hAg.2⟩, fun k hk => ?_⟩
      · have h := owns_base (B := w2.heap.size) (owns_kept hown4 hb7 (Nat.le_refl _)) (by omega)
        rw [Nat.mul_one, show (Value.bool false).cells = #[.bool false] from rfl, toList_madeCells_one] at h
        rw [List.map_replicate]
        exact h
      · have h := owns_base (B := w2.heap.size) hownA (by omega)
        rw [Nat.mul_one, show (Value.float .f32 0).cells = #[.float .f32 0] from rfl, toList_madeCells_one] at h
        rw [List.map_replicate]
        exact h
      · have h1 := htel k hk
        omega
    unfold Tail26 at hT
    exact hT w2.heap.size ao3 c3 w3.heap.size B18 gA L _ _ _ _ _ _ _ _ _ _ _ _ _ _ _ _ _ _ _ _ _ _ _ _ _ _ _ _ _ _ _ _ _ _ _ _ _ _ _ _ _ _ _ _ _ _ _ _ _ _ _ _ _ _ _ _ _ _ _ _ _ _ _ _ _ _ _ _ _ _ _ _ _ _ _ _ _ _ _ _ _ _ _ _ _ _ _ _ _ _ _ _ _ _ _ _ _ _ _ _ _ _ _ _ _ _ _ _ _ _ _ _ _ _ _ _ _ _ _ _ _ _ _ _ _ _ _ _ _ _ _ _ _ _ _ _ _ _ _ _ _ _ _ _ _ _ _ _ _ _ _ _ _ _ _ _ _ _ _ _ _ _ _ _ _ _ _ _ _ _ _ _ _ _ _ _ _ _ _ _ _ _ _ _ _ _ _ _ _ _ _ _ _ _ _ _ _ _ _ _ _ _ _ _ _ _ _ _ _ _ _ _ _ _ _ _ _ _ _ _ _ _ _ _ _ _ _ _ _ _ _ _ _ _ _ _ _ _ _ _ _ _ _ _ _ _ _ _ _ _ _ _ _ _ _ _ _ _ _ _ _ _ _ _ _ _ _ _ _ _ _ _ _ _ _ _ _ _ _ _ _ _ _ _ _ _ _ _ _ _ _ _ _ _ _ _ _ _ _ _ _ _ _ _ _ _ _ _ _ _ _ _ _ _ _ _ _ _ _ _ _ _ _ _ _ _ _ _ _ _ _ _ _ _ _ _ _ _ _ _ _ _ _ _ _ _ _ _ _ hS7 (by omega) (by omega) HL.out hHalf
end Go.Proofs.Ytfdkmmllemkogaa

/-
  The walk of TopEmberSent: its own copy, and the two maps stand ready.
-/
namespace Go.Proofs.Ytfdkmmllemkogaa
open Go.RowKit
set_option linter.unusedVariables false

set_option maxRecDepth 1000000 in
/-- What is still to be shown where the walk stands ahead of region 28. -/
def Tail28 (W H : Int) (b o n c : Nat) (xs : List Nat) (ks : List Int) (m g cc : Nat) (lev : List Int) (B : Nat) (lost : Int) (w : World) : Prop :=
  ∀ (p : MadeAt) (L : List Tel) (wz : World) (u3 u4 u7 u8 u9 u10 u11 u12 u13 u22 u23 u24 u25 u26 u27 u28 u29 u30 u31 u32 u33 u34 u35 u36 u37 u38 u39 u40 u41 u42 u43 u44 u45 u46 u47 u48 u49 u50 u51 u52 u53 u54 u55 u56 u57 u58 u59 u60 u61 u62 u63 u64 u65 u66 u67 u68 u69 u70 u71 u72 u73 u74 u75 u76 u77 u78 u79 u80 u81 u82 u83 u84 u85 u86 u87 u88 u89 u90 u91 u92 u93 u94 u95 u96 u97 u98 u99 u100 u101 u102 u103 u104 u105 u106 u107 u108 u109 u110 u111 u112 u113 u114 u115 u116 u117 u118 u119 u120 u121 u122 u123 u124 u125 u126 u127 u128 u129 u130 u131 u132 u133 u134 u135 u136 u137 u138 u139 u140 u141 u142 u143 u144 u145 u146 u147 u148 u149 u150 u151 u152 u153 u154 u155 u156 u157 u158 u159 u160 u161 u162 u163 u164 u165 u166 u167 u168 u169 u170 u171 u172 u173 u174 u175 u176 u177 u178 u179 u180 u181 u182 u183 u184 u185 u186 u187 u188 u189 u190 u191 u192 u193 u194 u195 u196 u197 u198 u199 u200 u201 u202 u203 u204 u205 u206 u207 u208 u209 u210 u211 u212 u213 u214 u215 u216 u217 u218 u219 u220 u221 u222 u223 u224 u225 u226 u227 u228 u229 u230 u231 u232 u233 u234 u235 u236 u237 u238 u239 u240 u241 u242 u243 u244 u245 u246 u247 u248 u249 u250 u251 u252 u253 u254 u255 u256 u257 u258 u259 u260 u261 u262 u263 u264 u265 u266 u267 u268 u269 u270 u271 u272 u273 u274 u275 u276 u277 u278 u279 u280 u281 u282 u283 u284 u285 u286 u287 u288 u289 u290 u291 u292 u293 u294 u295 u296 u297 u298 u299 u300 u301 u302 u303 u304 u305 u306 u307 u308 u309 u310 u311 u312 u313 u314 u315 u316 u317 u318 u319 u320 u321 u322 u323 u324 u325 u326 u327 u328 u329 u330 u331 u332 u333 u334 u335 u336 u337 u338 u339 u340 u341 u342 u343 u344 u345 u346 u347 u348 u349 u350 u351 u352 u353 u354 u355 u356 u357 : Value), Sent w W H b o n c xs ks m g cc lev B wz → g < p.N → w.heap.size < p.N → p.Apart → telsTo lev (keptF lost) m = L → Made p W H n m L (List.replicate m false) (List.replicate n 0) xs wz → Code.wp Try.prog (tailOf 28) (bodyPost Try.prog Try.f3 (SentPost w)) ⟨#[.agg #[.int .i64 W, .int .i64 H, .slice (some ⟨b, o, none⟩) n c], .int .u16 lost, .pointer (some ⟨w.heap.size, 0, none⟩), u3, u4, .slice (some ⟨g, 0, none⟩) (3 * m) cc, .int .i64 m, u7, u8, u9, u10, u11, u12, u13, .slice p.gl L.length p.cl, .slice none 0 0, .int .i64 0, .slice (some ⟨p.gc, 0, none⟩) m m, .pointer (some ⟨p.B18, 0, none⟩), .pointer (some ⟨p.B19, 0, none⟩), .int .i64 (-1), .int .i64 (-1), u22, u23, u24, u25, u26, u27, u28, u29, u30, u31, u32, u33, u34, u35, u36, u37, u38, u39, u40, u41, u42, u43, u44, u45, u46, u47, u48, u49, u50, u51, u52, u53, u54, u55, u56, u57, u58, u59, u60, u61, u62, u63, u64, u65, u66, u67, u68, u69, u70, u71, u72, u73, u74, u75, u76, u77, u78, u79, u80, u81, u82, u83, u84, u85, u86, u87, u88, u89, u90, u91, u92, u93, u94, u95, u96, u97, u98, u99, u100, u101, u102, u103, u104, u105, u106, u107, u108, u109, u110, u111, u112, u113, u114, u115, u116, u117, u118, u119, u120, u121, u122, u123, u124, u125, u126, u127, u128, u129, u130, u131, u132, u133, u134, u135, u136, u137, u138, u139, u140, u141, u142, u143, u144, u145, u146, u147, u148, u149, u150, u151, u152, u153, u154, u155, u156, u157, u158, u159, u160, u161, u162, u163, u164, u165, u166, u167, u168, u169, u170, u171, u172, u173, u174, u175, u176, u177, u178, u179, u180, u181, u182, u183, u184, u185, u186, u187, u188, u189, u190, u191, u192, u193, u194, u195, u196, u197, u198, u199, u200, u201, u202, u203, u204, u205, u206, u207, u208, u209, u210, u211, u212, u213, u214, u215, u216, u217, u218, u219, u220, u221, u222, u223, u224, u225, u226, u227, u228, u229, u230, u231, u232, u233, u234, u235, u236, u237, u238, u239, u240, u241, u242, u243, u244, u245, u246, u247, u248, u249, u250, u251, u252, u253, u254, u255, u256, u257, u258, u259, u260, u261, u262, u263, u264, u265, u266, u267, u268, u269, u270, u271, u272, u273, u274, u275, u276, u277, u278, u279, u280, u281, u282, u283, u284, u285, u286, u287, u288, u289, u290, u291, u292, u293, u294, u295, u296, u297, u298, u299, u300, u301, u302, u303, u304, u305, u306, u307, u308, u309, u310, u311, u312, u313, u314, u315, u316, u317, u318, u319, u320, u321, u322, u323, u324, u325, u326, u327, u328, u329, u330, u331, u332, u333, u334, u335, u336, u337, u338, u339, u340, u341, u342, u343, u344, u345, u346, u347, u348, u349, u350, u351, u352, u353, u354, u355, u356, u357], []⟩ wz

set_option maxRecDepth 1000000 in
set_option maxHeartbeats 12800000 in
theorem tail26 (W H : Int) (b o n c : Nat) (xs : List Nat) (ks : List Int) (m g cc : Nat) (lev : List Int) (B : Nat) (lost : Int) (hlost : 0 ≤ lost ∧ lost ≤ 65535) (w : World) (hT : Tail28 W H b o n c xs ks m g cc lev B lost w) : Tail26 W H b o n c xs ks m g cc lev B lost w := by
  unfold Tail26
  intro N gl cl gc B18 gA L wc u3 u4 u7 u8 u9 u10 u11 u12 u13 u19 u20 u21 u22 u23 u24 u25 u26 u27 u28 u29 u30 u31 u32 u33 u34 u35 u36 u37 u38 u39 u40 u41 u42 u43 u44 u45 u46 u47 u48 u49 u50 u51 u52 u53 u54 u55 u56 u57 u58 u59 u60 u61 u62 u63 u64 u65 u66 u67 u68 u69 u70 u71 u72 u73 u74 u75 u76 u77 u78 u79 u80 u81 u82 u83 u84 u85 u86 u87 u88 u89 u90 u91 u92 u93 u94 u95 u96 u97 u98 u99 u100 u101 u102 u103 u104 u105 u106 u107 u108 u109 u110 u111 u112 u113 u114 u115 u116 u117 u118 u119 u120 u121 u122 u123 u124 u125 u126 u127 u128 u129 u130 u131 u132 u133 u134 u135 u136 u137 u138 u139 u140 u141 u142 u143 u144 u145 u146 u147 u148 u149 u150 u151 u152 u153 u154 u155 u156 u157 u158 u159 u160 u161 u162 u163 u164 u165 u166 u167 u168 u169 u170 u171 u172 u173 u174 u175 u176 u177 u178 u179 u180 u181 u182 u183 u184 u185 u186 u187 u188 u189 u190 u191 u192 u193 u194 u195 u196 u197 u198 u199 u200 u201 u202 u203 u204 u205 u206 u207 u208 u209 u210 u211 u212 u213 u214 u215 u216 u217 u218 u219 u220 u221 u222 u223 u224 u225 u226 u227 u228 u229 u230 u231 u232 u233 u234 u235 u236 u237 u238 u239 u240 u241 u242 u243 u244 u245 u246 u247 u248 u249 u250 u251 u252 u253 u254 u255 u256 u257 u258 u259 u260 u261 u262 u263 u264 u265 u266 u267 u268 u269 u270 u271 u272 u273 u274 u275 u276 u277 u278 u279 u280 u281 u282 u283 u284 u285 u286 u287 u288 u289 u290 u291 u292 u293 u294 u295 u296 u297 u298 u299 u300 u301 u302 u303 u304 u305 u306 u307 u308 u309 u310 u311 u312 u313 u314 u315 u316 u317 u318 u319 u320 u321 u322 u323 u324 u325 u326 u327 u328 u329 u330 u331 u332 u333 u334 u335 u336 u337 u338 u339 u340 u341 u342 u343 u344 u345 u346 u347 u348 u349 u350 u351 u352 u353 u354 u355 u356 u357 hS7 hgN hwN hL hHalf
  conv => arg 2; whnf
  dsimp only
  have b0 := hS7.b0
  have b1 := hS7.b1
  have b2 := hS7.b2
  have HS7 := Lib.hid hS7
  have HH := Lib.hid hHalf
  have hbl := hS7.bl
  have hsw := lt_of_blk hS7.box
  have K9 := Lib.hid (own_any (w := wc) W H b o n c xs hS7.right.len hS7.n1 (by have := hS7.n36; omega) (by omega) hS7.right.cells)
  clear hS7 hHalf
  go_upto_region 27 with ((go_at_call 9; refine K9.out.mono ?_; rintro e w8 ⟨gR, cR, rfl, hgR1, hgR2, hcR, hb8, hownR⟩))
  go_cut [20, 21] (fun s20 s21 wr => s20 = .int .i64 (-1) ∧ s21 = .int .i64 (-1) ∧ wr = w8.alloc (.cells #[.int .i64 W, .int .i64 H, .slice (some ⟨gR, 0, none⟩) n cR] 24))
  case first =>
    go_wp2_with fail
    go_meet
    exact ⟨rfl, rfl, rfl⟩
  case rest =>
    rename_i hK
    obtain ⟨rfl, rfl, rfl⟩ := hcut
    refine hK _ _ ?_
    clear hK
    have hs8 := hb8.size
    obtain ⟨n1, n2, n3, n4, n5, n6, n7, n8, n9⟩ := HH.out.nums
    have hbx : Below wc.heap.size wc (w8.alloc (.cells #[.int .i64 W, .int .i64 H, .slice (some ⟨gR, 0, none⟩) n cR] 24)) := hb8.alloc hs8 _
    have hA : (⟨N, gl, cl, gc, B18, gA, w8.heap.size, gR, cR⟩ : MadeAt).Apart := by
      refine ⟨n1, n2, n3, by show N ≤ w8.heap.size; omega, by show N ≤ gR; omega, n4, n5, by show gc ≠ w8.heap.size; omega, by show gc ≠ gR; omega, n6, by show B18 ≠ w8.heap.size; omega, by show B18 ≠ gR; omega, by show gA ≠ w8.heap.size; omega, by show gA ≠ gR; omega, by show w8.heap.size ≠ gR; omega, ?_⟩
      intro k hk
      obtain ⟨k1, k2, k3, k4, k5⟩ := HH.out.apart k hk
      refine ⟨k1, k2, k3, k4, ?_, ?_⟩
      · show k ≠ w8.heap.size; omega
      · show k ≠ gR; omega
    have hM : Made ⟨N, gl, cl, gc, B18, gA, w8.heap.size, gR, cR⟩ W H n m L (List.replicate m false) (List.replicate n 0) xs (w8.alloc (.cells #[.int .i64 W, .int .i64 H, .slice (some ⟨gR, 0, none⟩) n cR] 24)) :=
      ⟨owns_kept HH.out.tels hbx (Nat.le_refl _), owns_kept HH.out.came hbx (Nat.le_refl _), (hbx.block _ n8).trans HH.out.b18, blk_alloc_new _ _, owns_kept HH.out.again hbx (Nat.le_refl _), owns_base (hownR.alloc _) (by show N ≤ wc.heap.size; omega)⟩
    unfold Tail28 at hT
    exact hT ⟨N, gl, cl, gc, B18, gA, w8.heap.size, gR, cR⟩ L _ _ _ _ _ _ _ _ _ _ _ _ _ _ _ _ _ _ _ _ _ _ _ _ _ _ _ _ _ _ _ _ _ _ _ _ _ _ _ _ _ _ _ _ _ _ _ _ _ _ _ _ _ _ _ _ _ _ _ _ _ _ _ _ _ _ _ _ _ _ _ _ _ _ _ _ _ _ _ _ _ _ _ _ _ _ _ _ _ _ _ _ _ _ _ _ _ _ _ _ _ _ _ _ _ _ _ _ _ _ _ _ _ _ _ _ _ _ _ _ _ _ _ _ _ _ _ _ _ _ _ _ _ _ _ _ _ _ _ _ _ _ _ _ _ _ _ _ _ _ _ _ _ _ _ _ _ _ _ _ _ _ _ _ _ _ _ _ _ _ _ _ _ _ _ _ _ _ _ _ _ _ _ _ _ _ _ _ _ _ _ _ _ _ _ _ _ _ _ _ _ _ _ _ _ _ _ _ _ _ _ _ _ _ _ _ _ _ _ _ _ _ _ _ _ _ _ _ _ _ _ _ _ _ _ _ _ _ _ _ _ _ _ _ _ _ _ _ _ _ _ _ _ _ _ _ _ _ _ _ _ _ _ _ _ _ _ _ _ _ _ _ _ _ _ _ _ _ _ _ _ _ _ _ _ _ _ _ _ _ _ _ _ _ _ _ _ _ _ _ _ _ _ _ _ _ _ _ _ _ _ _ _ _ _ _ _ _ _ _ _ _ _ _ _ _ _ _ _ _ _ _ _ _ _ _ _ _ _ _ _ _ _ _ _ _ (HS7.out.kept hbx) hgN hwN hA hL hM
end Go.Proofs.Ytfdkmmllemkogaa
