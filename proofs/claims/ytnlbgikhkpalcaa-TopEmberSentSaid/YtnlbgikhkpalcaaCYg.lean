/-
  The walk of TopEmberSent: its own copy, and the two maps stand ready.
-/
import Derived.Test.YtnlbgikhkpalcaaCYd
import Derived.Test.YtnlbgikhkpalcaaCYb
namespace Go.Proofs.Ytnlbgikhkpalcaa
open Go.RowKit
set_option linter.unusedVariables false

set_option maxRecDepth 1000000 in
/-- What is still to be shown where the walk stands ahead of region 28. -/
def Tail28 (W H : Int) (b o n c : Nat) (xs : List Nat) (ks : List Int) (m g cc : Nat) (lev : List Int) (B : Nat) (lost : Int) (w : World) : Prop :=
  ∀ (p : MadeAt) (L : List Tel) (wz : World) (u3 u4 u7 u8 u9 u10 u11 u12 u13 u22 u23 u24 u25 u26 u27 u28 u29 u30 u31 u32 u33 u34 u35 u36 u37 u38 u39 u40 u41 u42 u43 u44 u45 u46 u47 u48 u49 u50 u51 u52 u53 u54 u55 u56 u57 u58 u59 u60 u61 u62 u63 u64 u65 u66 u67 u68 u69 u70 u71 u72 u73 u74 u75 u76 u77 u78 u79 u80 u81 u82 u83 u84 u85 u86 u87 u88 u89 u90 u91 u92 u93 u94 u95 u96 u97 u98 u99 u100 u101 u102 u103 u104 u105 u106 u107 u108 u109 u110 u111 u112 u113 u114 u115 u116 u117 u118 u119 u120 u121 u122 u123 u124 u125 u126 u127 u128 u129 u130 u131 u132 u133 u134 u135 u136 u137 u138 u139 u140 u141 u142 u143 u144 u145 u146 u147 u148 u149 u150 u151 u152 u153 u154 u155 u156 u157 u158 u159 u160 u161 u162 u163 u164 u165 u166 u167 u168 u169 u170 u171 u172 u173 u174 u175 u176 u177 u178 u179 u180 u181 u182 u183 u184 u185 u186 u187 u188 u189 u190 u191 u192 u193 u194 u195 u196 u197 u198 u199 u200 u201 u202 u203 u204 u205 u206 u207 u208 u209 u210 u211 u212 u213 u214 u215 u216 u217 u218 u219 u220 u221 u222 u223 u224 u225 u226 u227 u228 u229 u230 u231 u232 u233 u234 u235 u236 u237 u238 u239 u240 u241 u242 u243 u244 u245 u246 u247 u248 u249 u250 u251 u252 u253 u254 u255 u256 u257 u258 u259 u260 u261 u262 u263 u264 u265 u266 u267 u268 u269 u270 u271 u272 u273 u274 u275 u276 u277 u278 u279 u280 u281 u282 u283 u284 u285 u286 u287 u288 u289 u290 u291 u292 u293 u294 u295 u296 u297 u298 u299 u300 u301 u302 u303 u304 u305 u306 u307 u308 u309 u310 u311 u312 u313 u314 u315 u316 u317 u318 u319 u320 u321 u322 u323 u324 u325 u326 u327 u328 u329 u330 u331 u332 u333 u334 u335 u336 u337 u338 u339 u340 u341 u342 u343 u344 u345 u346 u347 u348 u349 u350 u351 u352 u353 u354 u355 u356 u357 : Value), Sent w W H b o n c xs ks m g cc lev B wz → g < p.N → w.heap.size < p.N → p.Apart → telsTo lev (keptF lost) m = L → Made p W H n m L (List.replicate m false) (List.replicate n 0) xs wz → Code.wp Try.prog (tailOf 28) (bodyPost Try.prog Try.f3 (SentPost w)) ⟨#[.agg #[.int .i64 W, .int .i64 H, .slice (some ⟨b, o, none⟩) n c], .int .u16 lost, .pointer (some ⟨w.heap.size, 0, none⟩), u3, u4, .slice (some ⟨g, 0, none⟩) (3 * m) cc, .int .i64 m, u7, u8, u9, u10, u11, u12, u13, .slice p.gl L.length p.cl, .slice none 0 0, .int .i64 0, .slice (some ⟨p.gc, 0, none⟩) m m, .pointer (some ⟨p.B18, 0, none⟩), .pointer (some ⟨p.B19, 0, none⟩), .int .i64 (-1), .int .i64 (-1), u22, u23, u24, u25, u26, u27, u28, u29, u30, u31, u32, u33, u34, u35, u36, u37, u38, u39, u40, u41, u42, u43, u44, u45, u46, u47, u48, u49, u50, u51, u52, u53, u54, u55, u56, u57, u58, u59, u60, u61, u62, u63, u64, u65, u66, u67, u68, u69, u70, u71, u72, u73, u74, u75, u76, u77, u78, u79, u80, u81, u82, u83, u84, u85, u86, u87, u88, u89, u90, u91, u92, u93, u94, u95, u96, u97, u98, u99, u100, u101, u102, u103, u104, u105, u106, u107, u108, u109, u110, u111, u112, u113, u114, u115, u116, u117, u118, u119, u120, u121, u122, u123, u124, u125, u126, u127, u128, u129, u130, u131, u132, u133, u134, u135, u136, u137, u138, u139, u140, u141, u142, u143, u144, u145, u146, u147, u148, u149, u150, u151, u152, u153, u154, u155, u156, u157, u158, u159, u160, u161, u162, u163, u164, u165, u166, u167, u168, u169, u170, u171, u172, u173, u174, u175, u176, u177, u178, u179, u180, u181, u182, u183, u184, u185, u186, u187, u188, u189, u190, u191, u192, u193, u194, u195, u196, u197, u198, u199, u200, u201, u202, u203, u204, u205, u206, u207, u208, u209, u210, u211, u212, u213, u214, u215, u216, u217, u218, u219, u220, u221, u222, u223, u224, u225, u226, u227, u228, u229, u230, u231, u232, u233, u234, u235, u236, u237, u238, u239, u240, u241, u242, u243, u244, u245, u246, u247, u248, u249, u250, u251, u252, u253, u254, u255, u256, u257, u258, u259, u260, u261, u262, u263, u264, u265, u266, u267, u268, u269, u270, u271, u272, u273, u274, u275, u276, u277, u278, u279, u280, u281, u282, u283, u284, u285, u286, u287, u288, u289, u290, u291, u292, u293, u294, u295, u296, u297, u298, u299, u300, u301, u302, u303, u304, u305, u306, u307, u308, u309, u310, u311, u312, u313, u314, u315, u316, u317, u318, u319, u320, u321, u322, u323, u324, u325, u326, u327, u328, u329, u330, u331, u332, u333, u334, u335, u336, u337, u338, u339, u340, u341, u342, u343, u344, u345, u346, u347, u348, u349, u350, u351, u352, u353, u354, u355, u356, u357], []⟩ wz

set_option maxRecDepth 1000000 in
set_option maxHeartbeats 12800000 in
theorem tail26 (W H : Int) (b o n c : Nat) (xs : List Nat) (ks : List Int) (m g cc : Nat) (lev : List Int) (B : Nat) (lost : Int) (hlost : 0 ≤ lost ∧ lost ≤ 65535) (w : World) (hT : Tail28 W H b o n c xs ks m g cc lev B lost w) : Tail26 W H b o n c xs ks m g cc lev B lost w := by
  unfold Tail26
  intro N gl cl gc B18 gA L wc u3 u4 u7 u8 u9 u10 u11 u12 u13 u19 u20 u21 u22 u23 u24 u25 u26 u27 u28 u29 u30 u31 u32 u33 u34 u35 u36 u37 u38 u39 u40 u41 u42 u43 u44 u45 u46 u47 u48 u49 u50 u51 u52 u53 u54 u55 u56 u57 u58 u59 u60 u61 u62 u63 u64 u65 u66 u67 u68 u69 u70 u71 u72 u73 u74 u75 u76 u77 u78 u79 u80 u81 u82 u83 u84 u85 u86 u87 u88 u89 u90 u91 u92 u93 u94 u95 u96 u97 u98 u99 u100 u101 u102 u103 u104 u105 u106 u107 u108 u109 u110 u111 u112 u113 u114 u115 u116 u117 u118 u119 u120 u121 u122 u123 u124 u125 u126 u127 u128 u129 u130 u131 u132 u133 u134 u135 u136 u137 u138 u139 u140 u141 u142 u143 u144 u145 u146 u147 u148 u149 u150 u151 u152 u153 u154 u155 u156 u157 u158 u159 u160 u161 u162 u163 u164 u165 u166 u167 u168 u169 u170 u171 u172 u173 u174 u175 u176 u177 u178 u179 u180 u181 u182 u183 u184 u185 u186 u187 u188 u189 u190 u191 u192 u193 u194 u195 u196 u197 u198 u199 u200 u201 u202 u203 u204 u205 u206 u207 u208 u209 u210 u211 u212 u213 u214 u215 u216 u217 u218 u219 u220 u221 u222 u223 u224 u225 u226 u227 u228 u229 u230 u231 u232 u233 u234 u235 u236 u237 u238 u239 u240 u241 u242 u243 u244 u245 u246 u247 u248 u249 u250 u251 u252 u253 u254 u255 u256 u257 u258 u259 u260 u261 u262 u263 u264 u265 u266 u267 u268 u269 u270 u271 u272 u273 u274 u275 u276 u277 u278 u279 u280 u281 u282 u283 u284 u285 u286 u287 u288 u289 u290 u291 u292 u293 u294 u295 u296 u297 u298 u299 u300 u301 u302 u303 u304 u305 u306 u307 u308 u309 u310 u311 u312 u313 u314 u315 u316 u317 u318 u319 u320 u321 u322 u323 u324 u325 u326 u327 u328 u329 u330 u331 u332 u333 u334 u335 u336 u337 u338 u339 u340 u341 u342 u343 u344 u345 u346 u347 u348 u349 u350 u351 u352 u353 u354 u355 u356 u357 hS7 hgN hwN hL hHalf
  conv => arg 2; whnf
  dsimp only
  have b0 := hS7.b0
  have b1 := hS7.b1
  have b2 := hS7.b2
  have HS7 := Lib.hid hS7
  have HH := Lib.hid hHalf
  have hbl := hS7.bl
  have hsw := lt_of_blk hS7.box
  have K9 := Lib.hid (own_any (w := wc) W H b o n c xs hS7.right.len hS7.n1 (by have := hS7.n36; omega) (by omega) hS7.right.cells)
  clear hS7 hHalf
  go_upto_region 27 with ((go_at_call 9; refine K9.out.mono ?_; rintro e w8 ⟨gR, cR, rfl, hgR1, hgR2, hcR, hb8, hownR⟩))
  go_cut [20, 21] (fun s20 s21 wr => s20 = .int .i64 (-1) ∧ s21 = .int .i64 (-1) ∧ wr = w8.alloc (.cells #[.int .i64 W, .int .i64 H, .slice (some ⟨gR, 0, none⟩) n cR] 24))
  case first =>
    go_wp2_with fail
    go_meet
    exact ⟨rfl, rfl, rfl⟩
  case rest =>
    rename_i hK
    obtain ⟨rfl, rfl, rfl⟩ := hcut
    refine hK _ _ ?_
    clear hK
    have hs8 := hb8.size
    obtain ⟨n1, n2, n3, n4, n5, n6, n7, n8, n9⟩ := HH.out.nums
    have hbx : Below wc.heap.size wc (w8.alloc (.cells #[.int .i64 W, .int .i64 H, .slice (some ⟨gR, 0, none⟩) n cR] 24)) := hb8.alloc hs8 _
    have hA : (⟨N, gl, cl, gc, B18, gA, w8.heap.size, gR, cR⟩ : MadeAt).Apart := by
      refine ⟨n1, n2, n3, by show N ≤ w8.heap.size; omega, by show N ≤ gR; omega, n4, n5, by show gc ≠ w8.heap.size; omega, by show gc ≠ gR; omega, n6, by show B18 ≠ w8.heap.size; omega, by show B18 ≠ gR; omega, by show gA ≠ w8.heap.size; omega, by show gA ≠ gR; omega, by show w8.heap.size ≠ gR; omega, ?_⟩
      intro k hk
      obtain ⟨k1, k2, k3, k4, k5⟩ := HH.out.apart k hk
      refine ⟨k1, k2, k3, k4, ?_, ?_⟩
      · show k ≠ w8.heap.size; omega
      · show k ≠ gR; omega
    have hM : Made ⟨N, gl, cl, gc, B18, gA, w8.heap.size, gR, cR⟩ W H n m L (List.replicate m false) (List.replicate n 0) xs (w8.alloc (.cells #[.int .i64 W, .int .i64 H, .slice (some ⟨gR, 0, none⟩) n cR] 24)) :=
      ⟨owns_kept HH.out.tels hbx (Nat.le_refl _), owns_kept HH.out.came hbx (Nat.le_refl _), (hbx.block _ n8).trans HH.out.b18, blk_alloc_new _ _, owns_kept HH.out.again hbx (Nat.le_refl _), owns_base (hownR.alloc _) (by show N ≤ wc.heap.size; omega)⟩
    unfold Tail28 at hT
    exact hT ⟨N, gl, cl, gc, B18, gA, w8.heap.size, gR, cR⟩ L _ _ _ _ _ _ _ _ _ _ _ _ _ _ _ _ _ _ _ _ _ _ _ _ _ _ _ _ _ _ _ _ _ _ _ _ _ _ _ _ _ _ _ _ _ _ _ _ _ _ _ _ _ _ _ _ _ _ _ _ _ _ _ _ _ _ _ _ _ _ _ _ _ _ _ _ _ _ _ _ _ _ _ _ _ _ _ _ _ _ _ _ _ _ _ _ _ _ _ _ _ _ _ _ _ _ _ _ _ _ _ _ _ _ _ _ _ _ _ _ _ _ _ _ _ _ _ _ _ _ _ _ _ _ _ _ _ _ _ _ _ _ _ _ _ _ _ _ _ _ _ _ _ _ _ _ _ _ _ _ _ _ _ _ _ _ _ _ _ _ _ _ _ _ _ _ _ _ _ _ _ _ _ _ _ _ _ _ _ _ _ _ _ _ _ _ _ _ _ _ _ _ _ _ _ _ _ _ _ _ _ _ _ _ _ _ _ _ _ _ _ _ _ _ _ _ _ _ _ _ _ _ _ _ _ _ _ _ _ _ _ _ _ _ _ _ _ _ _ _ _ _ _ _ _ _ _ _ _ _ _ _ _ _ _ _ _ _ _ _ _ _ _ _ _ _ _ _ _ _ _ _ _ _ _ _ _ _ _ _ _ _ _ _ _ _ _ _ _ _ _ _ _ _ _ _ _ _ _ _ _ _ _ _ _ _ _ _ _ _ _ _ _ _ _ _ _ _ _ _ _ _ _ _ _ _ _ _ _ _ _ _ _ _ _ _ (HS7.out.kept hbx) hgN hwN hA hL hM
end Go.Proofs.Ytnlbgikhkpalcaa
