/-
  The walk of TopEmberSent: the fifth loop: which counters are missed.
-/
import Derived.Test.YtfdkmmllemkogaaOYh
namespace Go.Proofs.Ytfdkmmllemkogaa
open Go.RowKit
set_option linter.unusedVariables false

set_option maxRecDepth 1000000 in
/-- What is still to be shown where the walk stands ahead of region 57. -/
def Tail57 (W H : Int) (b o n c : Nat) (xs : List Nat) (ks : List Int) (m g cc : Nat) (lev : List Int) (B : Nat) (lost : Int) (w : World) : Prop :=
  ∀ (p : MadeAt) (L : List Tel) (wz : World) (v27 : Value) (u3 u4 u7 u8 u9 u10 u11 u12 u13 u15 u16 u17 u20 u21 u22 u23 u24 u25 u26 u28 u29 u30 u31 u32 u33 u34 u35 u36 u37 u38 u39 u40 u41 u42 u43 u44 u45 u46 u47 u48 u49 u50 u51 u52 u53 u54 u55 u56 u57 u58 u59 u60 u61 u62 u63 u64 u65 u66 u67 u68 u69 u70 u71 u72 u73 u74 u75 u76 u77 u78 u79 u80 u81 u82 u83 u84 u85 u86 u87 u88 u89 u90 u91 u92 u93 u94 u95 u96 u97 u98 u99 u100 u101 u102 u103 u104 u105 u106 u107 u108 u109 u110 u111 u112 u113 u114 u115 u116 u117 u118 u119 u120 u121 u122 u123 u124 u125 u126 u127 u128 u129 u130 u131 u132 u133 u134 u135 u136 u137 u138 u139 u140 u141 u142 u143 u144 u145 u146 u147 u148 u149 u150 u151 u152 u153 u154 u155 u156 u157 u158 u159 u160 u161 u162 u163 u164 u165 u166 u167 u168 u169 u170 u171 u172 u173 u174 u175 u176 u177 u178 u179 u180 u181 u182 u183 u184 u185 u186 u187 u188 u189 u190 u191 u192 u193 u194 u195 u196 u197 u198 u199 u200 u201 u202 u203 u204 u205 u206 u207 u208 u209 u210 u211 u212 u213 u214 u215 u216 u217 u218 u219 u220 u221 u222 u223 u224 u225 u226 u227 u228 u229 u230 u231 u232 u233 u234 u235 u236 u237 u238 u239 u240 u241 u242 u243 u244 u245 u246 u247 u248 u249 u250 u251 u252 u253 u254 u255 u256 u257 u258 u259 u260 u261 u262 u263 u264 u265 u266 u267 u268 u269 u270 u271 u272 u273 u274 u275 u276 u277 u278 u279 u280 u281 u282 u283 u284 u285 u286 u287 u288 u289 u290 u291 u292 u293 u294 u295 u296 u297 u298 u299 u300 u301 u302 u303 u304 u305 u306 u307 u308 u309 u310 u311 u312 u313 u314 u315 u316 u317 u318 u319 u320 u321 u322 u323 u324 u325 u326 u327 u328 u329 u330 u331 u332 u333 u334 u335 u336 u337 u338 u339 u340 u341 u342 u343 u344 u345 u346 u347 u348 u349 u350 u351 u352 u353 u354 u355 u356 u357 : Value), Sent w W H b o n c xs ks m g cc lev B wz → g < p.N → w.heap.size < p.N → p.Apart → telsTo lev (keptF lost) m = L → Made p W H n m L (csOf m (keptTo (keptF lost) m)) (avOf n lev (keptTo (keptF lost) m)) (rsOf n xs (keptTo (keptF lost) m)) wz → wz.ownsRow p.N 3 1 v27 (wantTo (keptTo (keptF lost) m) m).length ((wantTo (keptTo (keptF lost) m) m).map (Value.int .i64)) → Code.wp Try.prog (tailOf 57) (bodyPost Try.prog Try.f3 (SentPost w)) ⟨#[.agg #[.int .i64 W, .int .i64 H, .slice (some ⟨b, o, none⟩) n c], .int .u16 lost, .pointer (some ⟨w.heap.size, 0, none⟩), u3, u4, .slice (some ⟨g, 0, none⟩) (3 * m) cc, .int .i64 m, u7, u8, u9, u10, u11, u12, u13, .slice p.gl L.length p.cl, u15, u16, u17, .pointer (some ⟨p.B18, 0, none⟩), .pointer (some ⟨p.B19, 0, none⟩), u20, u21, u22, u23, u24, u25, u26, v27, u28, u29, u30, u31, u32, u33, u34, u35, u36, u37, u38, u39, u40, u41, u42, u43, u44, u45, u46, u47, u48, u49, u50, u51, u52, u53, u54, u55, u56, u57, u58, u59, u60, u61, u62, u63, u64, u65, u66, u67, u68, u69, u70, u71, u72, u73, u74, u75, u76, u77, u78, u79, u80, u81, u82, u83, u84, u85, u86, u87, u88, u89, u90, u91, u92, u93, u94, u95, u96, u97, u98, u99, u100, u101, u102, u103, u104, u105, u106, u107, u108, u109, u110, u111, u112, u113, u114, u115, u116, u117, u118, u119, u120, u121, u122, u123, u124, u125, u126, u127, u128, u129, u130, u131, u132, u133, u134, u135, u136, u137, u138, u139, u140, u141, u142, u143, u144, u145, u146, u147, u148, u149, u150, u151, u152, u153, u154, u155, u156, u157, u158, u159, u160, u161, u162, u163, u164, u165, u166, u167, u168, u169, u170, u171, u172, u173, u174, u175, u176, u177, u178, u179, u180, u181, u182, u183, u184, u185, u186, u187, u188, u189, u190, u191, u192, u193, u194, u195, u196, u197, u198, u199, u200, u201, u202, u203, u204, u205, u206, u207, u208, u209, u210, u211, u212, u213, u214, u215, u216, u217, u218, u219, u220, u221, u222, u223, u224, u225, u226, u227, u228, u229, u230, u231, u232, u233, u234, u235, u236, u237, u238, u239, u240, u241, u242, u243, u244, u245, u246, u247, u248, u249, u250, u251, u252, u253, u254, u255, u256, u257, u258, u259, u260, u261, u262, u263, u264, u265, u266, u267, u268, u269, u270, u271, u272, u273, u274, u275, u276, u277, u278, u279, u280, u281, u282, u283, u284, u285, u286, u287, u288, u289, u290, u291, u292, u293, u294, u295, u296, u297, u298, u299, u300, u301, u302, u303, u304, u305, u306, u307, u308, u309, u310, u311, u312, u313, u314, u315, u316, u317, u318, u319, u320, u321, u322, u323, u324, u325, u326, u327, u328, u329, u330, u331, u332, u333, u334, u335, u336, u337, u338, u339, u340, u341, u342, u343, u344, u345, u346, u347, u348, u349, u350, u351, u352, u353, u354, u355, u356, u357], []⟩ wz

set_option maxRecDepth 1000000 in
set_option maxHeartbeats 51200000 in
theorem tail48 (W H : Int) (b o n c : Nat) (xs : List Nat) (ks : List Int) (m g cc : Nat) (lev : List Int) (B : Nat) (lost : Int) (hlost : 0 ≤ lost ∧ lost ≤ 65535) (w : World) (hT : Tail57 W H b o n c xs ks m g cc lev B lost w) : Tail48 W H b o n c xs ks m g cc lev B lost w := by
  unfold Tail48
  intro p L wz u3 u4 u7 u8 u9 u10 u11 u12 u13 u15 u16 u22 u23 u24 u25 u26 u27 u28 u29 u30 u31 u32 u33 u34 u35 u36 u37 u38 u39 u40 u41 u42 u43 u44 u45 u46 u47 u48 u49 u50 u51 u52 u53 u54 u55 u56 u57 u58 u59 u60 u61 u62 u63 u64 u65 u66 u67 u68 u69 u70 u71 u72 u73 u74 u75 u76 u77 u78 u79 u80 u81 u82 u83 u84 u85 u86 u87 u88 u89 u90 u91 u92 u93 u94 u95 u96 u97 u98 u99 u100 u101 u102 u103 u104 u105 u106 u107 u108 u109 u110 u111 u112 u113 u114 u115 u116 u117 u118 u119 u120 u121 u122 u123 u124 u125 u126 u127 u128 u129 u130 u131 u132 u133 u134 u135 u136 u137 u138 u139 u140 u141 u142 u143 u144 u145 u146 u147 u148 u149 u150 u151 u152 u153 u154 u155 u156 u157 u158 u159 u160 u161 u162 u163 u164 u165 u166 u167 u168 u169 u170 u171 u172 u173 u174 u175 u176 u177 u178 u179 u180 u181 u182 u183 u184 u185 u186 u187 u188 u189 u190 u191 u192 u193 u194 u195 u196 u197 u198 u199 u200 u201 u202 u203 u204 u205 u206 u207 u208 u209 u210 u211 u212 u213 u214 u215 u216 u217 u218 u219 u220 u221 u222 u223 u224 u225 u226 u227 u228 u229 u230 u231 u232 u233 u234 u235 u236 u237 u238 u239 u240 u241 u242 u243 u244 u245 u246 u247 u248 u249 u250 u251 u252 u253 u254 u255 u256 u257 u258 u259 u260 u261 u262 u263 u264 u265 u266 u267 u268 u269 u270 u271 u272 u273 u274 u275 u276 u277 u278 u279 u280 u281 u282 u283 u284 u285 u286 u287 u288 u289 u290 u291 u292 u293 u294 u295 u296 u297 u298 u299 u300 u301 u302 u303 u304 u305 u306 u307 u308 u309 u310 u311 u312 u313 u314 u315 u316 u317 u318 u319 u320 u321 u322 u323 u324 u325 u326 u327 u328 u329 u330 u331 u332 u333 u334 u335 u336 u337 u338 u339 u340 u341 u342 u343 u344 u345 u346 u347 u348 u349 u350 u351 u352 u353 u354 u355 u356 u357 hS hgN hwN hA hL hM
  conv => arg 2; whnf
  dsimp only
  obtain ⟨i0, hi, hz0, hz1, hz2⟩ := info_parts Try.infoInt
  have hm12 := hS.m12
  have HS := Lib.hid hS
  have HM := Lib.hid hM
  have HA := Lib.hid hA
  have HL := Lib.hid hL
  have hNz : p.N ≤ wz.heap.size := by have := hM.came.lt _ rfl; omega
  clear hS hM hA hL
  go_upto_block 8 with fail
  go_cut [27] (fun s27 wr => ∃ v, s27 = v ∧ wr.ownsRow wz.heap.size 3 1 v (wantTo (keptTo (keptF lost) m) m).length ((wantTo (keptTo (keptF lost) m) m).map (Value.int .i64)) ∧ Below wz.heap.size wz wr)
  case first =>
    go_wp2_with fail
    go_loopw [27, 248] (fun v i wr => ∃ k : Nat, k ≤ m ∧ i = .int .i64 k ∧ wr.ownsRow wz.heap.size 3 1 v (wantTo (keptTo (keptF lost) m) k).length ((wantTo (keptTo (keptF lost) m) k).map (Value.int .i64)) ∧ Below wz.heap.size wz wr)
      (fun _ i _ => m - (intOf i).toNat)
    case atStart => exact ⟨0, Nat.zero_le _, rfl, World.ownsRow_nil _ _ _ _, Below.refl _ _⟩
    case round =>
      obtain ⟨k, hk, rfl, hown, hnx⟩ := hrel
      by_cases hlt : k < m
      · obtain ⟨c1, f1⟩ := (HM.out.below hnx).cameAt (i := k) (by rw [csOf_len]; exact hlt)
        rw [csOf_at m _ k hlt, keptTo_in _ _ _ hlt] at c1
        have hwl := wantTo_len (keptTo (keptF lost) m) k
        have hws := wantTo_succ (keptTo (keptF lost) m) k
        rw [keptTo_in _ _ _ hlt] at hws
        have i1 : (k : Int) < (m : Int) := by omega
        have hgc : p.gc < wr.heap.size := by have h1 : p.gc < wz.heap.size := (HM.out.came.lt _ rfl).2; have h2 := hnx.size; omega
        have hsz := hnx.size
        by_cases hkp : keptF lost k = true
        · have hkt : (bits BinOp.and IntKind.u16 (lost / 2 ^ k) 1 == 0) = true := hkp
          rw [hkp] at c1 hws
          have HWS := Lib.hid hws
          have HN := Lib.hid hnx
          have HO := Lib.hid hown
          clear hkp hws hnx hown
          go_upto_region 52 with fail
          go_quiet (fail)
          obtain ⟨W1, hW1⟩ : ∃ W1, wr.drewN nq = W1 := ⟨_, rfl⟩
          have hb1 : Below wr.heap.size wr W1 := by rw [← hW1]; exact below_drewN (Below.refl _ _) _
          rw [hW1]
          have c2 := (hb1.cell (p := ⟨p.gc, k, none⟩) hgc).trans c1
          have HB1 := Lib.hid hb1
          clear hW1 hb1 c1 f1
          go_wp2_with fail
          go_roundw
          case rel =>
            refine ⟨k + 1, by omega, by go_num, ?_, HN.out.trans (HB1.out.mono hsz)⟩
            rw [show wantTo (keptTo (keptF lost) m) (k + 1) = wantTo (keptTo (keptF lost) m) k from HWS.out]
            exact owns_kept HO.out HB1.out (Nat.le_refl _)
          case measure => simp [intOf]; omega
        · have hkt : (bits BinOp.and IntKind.u16 (lost / 2 ^ k) 1 == 0) = false := by simpa [keptF] using hkp
          rw [show keptF lost k = false by simpa using hkp] at c1 hws
          have HN := Lib.hid hnx
          have HO := Lib.hid hown
          have HWS := Lib.hid hws
          clear hkp hws hnx hown
          go_upto_region 52 with fail
          go_quiet (fail)
          obtain ⟨W1, hW1⟩ : ∃ W1, wr.drewN nq = W1 := ⟨_, rfl⟩
          have hb1 : Below wr.heap.size wr W1 := by rw [← hW1]; exact below_drewN (Below.refl _ _) _
          rw [hW1]
          have c2 := (hb1.cell (p := ⟨p.gc, k, none⟩) hgc).trans c1
          have HB1 := Lib.hid hb1
          clear hW1 hb1 c1 f1
          by_cases hf : headOf (keptTo (keptF lost) m) < (k : Int)
          · by_cases he : (k : Int) < endOf (keptTo (keptF lost) m)
            · have hws2 : wantTo (keptTo (keptF lost) m) (k + 1) = wantTo (keptTo (keptF lost) m) k ++ [(k : Int)] := HWS.out.trans (by simp [hf, he])
              have HWS2 := Lib.hid hws2
              have hownk := owns_kept HO.out HB1.out (Nat.le_refl _)
              have hs1 := HB1.out.size
              have hlt' := hownk.lt
              clear hws2
              go_wp2_with (first
                | (at_builtin; refine wpList_append_own _ rfl (.tmp 276) (.tmp 278) 29 rfl wz.heap.size 3 i0 (.int .i64 0) 1 8 Try.underlying29 hi hz0 hz1 hz2 rfl (by decide) _ _ _ rfl (hownk.alloc _) ⟨W1.heap.size, 0, none⟩ 1 1 [.int .i64 (k : Int)] rfl rfl (cell_one_new _ _ _) (by intro u hu; simp at hu; subst hu; rfl) (by unfold maxLen; omega) (by omega) (by simp; omega) ?_; intro v3 w3 hown3 hgrow3 _))
              go_roundw
              case rel =>
                refine ⟨k + 1, by omega, by go_num, ?_, (((HN.out.trans (HB1.out.mono hsz)).alloc (by omega) _).grown hgrow3 (by simp; omega) (fun j hj => (hlt' j hj).1))⟩
                rw [HWS2.out, List.map_append, List.length_append]
                exact hown3
              case measure => simp [intOf]; omega
            · have hws2 : wantTo (keptTo (keptF lost) m) (k + 1) = wantTo (keptTo (keptF lost) m) k := HWS.out.trans (by simp [hf, he])
              have HWS2 := Lib.hid hws2
              clear hws2
              go_wp2_with fail
              go_roundw
              case rel =>
                refine ⟨k + 1, by omega, by go_num, ?_, HN.out.trans (HB1.out.mono hsz)⟩
                rw [HWS2.out]
                exact owns_kept HO.out HB1.out (Nat.le_refl _)
              case measure => simp [intOf]; omega
          · have hws2 : wantTo (keptTo (keptF lost) m) (k + 1) = wantTo (keptTo (keptF lost) m) k := HWS.out.trans (by simp [hf])
            have HWS2 := Lib.hid hws2
            clear hws2
            go_wp2_with fail
            go_roundw
            case rel =>
              refine ⟨k + 1, by omega, by go_num, ?_, HN.out.trans (HB1.out.mono hsz)⟩
              rw [HWS2.out]
              exact owns_kept HO.out HB1.out (Nat.le_refl _)
            case measure => simp [intOf]; omega
      · obtain rfl : k = m := by omega
        go_wp2_with fail
        go_meet
        exact ⟨_, rfl, hown, hnx⟩
  case rest =>
    rename_i hK
    obtain ⟨v, rfl, hown, hbr⟩ := hcut
    refine hK _ _ ?_
    clear hK
    unfold Tail57 at hT
    exact hT p L _ _ _ _ _ _ _ _ _ _ _ _ _ _ _ _ _ _ _ _ _ _ _ _ _ _ _ _ _ _ _ _ _ _ _ _ _ _ _ _ _ _ _ _ _ _ _ _ _ _ _ _ _ _ _ _ _ _ _ _ _ _ _ _ _ _ _ _ _ _ _ _ _ _ _ _ _ _ _ _ _ _ _ _ _ _ _ _ _ _ _ _ _ _ _ _ _ _ _ _ _ _ _ _ _ _ _ _ _ _ _ _ _ _ _ _ _ _ _ _ _ _ _ _ _ _ _ _ _ _ _ _ _ _ _ _ _ _ _ _ _ _ _ _ _ _ _ _ _ _ _ _ _ _ _ _ _ _ _ _ _ _ _ _ _ _ _ _ _ _ _ _ _ _ _ _ _ _ _ _ _ _ _ _ _ _ _ _ _ _ _ _ _ _ _ _ _ _ _ _ _ _ _ _ _ _ _ _ _ _ _ _ _ _ _ _ _ _ _ _ _ _ _ _ _ _ _ _ _ _ _ _ _ _ _ _ _ _ _ _ _ _ _ _ _ _ _ _ _ _ _ _ _ _ _ _ _ _ _ _ _ _ _ _ _ _ _ _ _ _ _ _ _ _ _ _ _ _ _ _ _ _ _ _ _ _ _ _ _ _ _ _ _ _ _ _ _ _ _ _ _ _ _ _ _ _ _ _ _ _ _ _ _ _ _ _ _ _ _ _ _ _ _ _ _ _ _ _ _ _ _ _ _ _ _ _ _ _ _ _ _ _ _ _ _ _ _ _ _ _ _ (HS.out.kept hbr) hgN hwN HA.out HL.out (HM.out.below hbr) (owns_base hown hNz)
end Go.Proofs.Ytfdkmmllemkogaa

/-
  TopEmberSent: the two maps are right maps, and together the whole one; what is to be shown ahead of region 59.
-/
namespace Go.Proofs.Ytfdkmmllemkogaa
open Go.RowKit
set_option linter.unusedVariables false

def akOf (n : Nat) (lev : List Int) (C : List Int) : List Int := (List.range n).map (againK lev C)
def rkOf (n : Nat) (lev : List Int) (C : List Int) : List Int := (List.range n).map (restK lev C)
theorem range_at {α : Type} (n : Nat) (f : Nat → α) (d : α) (j : Nat) (hj : j < n) : ((List.range n).map f)[j]?.getD d = f j := by
  simp [List.getElem?_range hj]
theorem range_off {α : Type} (n : Nat) (f : Nat → α) (d : α) (j : Nat) (hj : n ≤ j) : ((List.range n).map f)[j]?.getD d = d := by
  rw [List.getElem?_eq_none (by simp; exact hj)]; rfl
theorem smp_zero : Smp 0 0 := by
  have h := smpOf_smp 0 (by decide)
  rw [show smpOf 0 = 0 by kernel_rfl] at h
  exact h
theorem again_right {w wx : World} {W H : Int} {b o n c : Nat} {xs : List Nat} {ks : List Int} {m g cc : Nat} {lev : List Int} {B : Nat} {gA cA N : Nat} {C : List Int} (hS : Sent w W H b o n c xs ks m g cc lev B wx)
    (hA : wx.ownsRow N 27 1 (.slice (some ⟨gA, 0, none⟩) n cA) n ((avOf n lev C).map (Value.float .f32))) : RightMap wx W H gA 0 n (avOf n lev C) (akOf n lev C) := by
  refine ⟨⟨by simp [avOf], by simp [akOf], hS.right.small, fun j hj => ?_, fun j hj => ?_, fun j hj => ?_, fun j hj => ?_⟩, hS.right.wid, hS.right.hei, hS.right.area⟩
  · rw [Nat.zero_add]
    exact owns_cell hA (by rw [List.getElem?_map, List.getElem?_eq_getElem (by simp [avOf]; exact hj)]; rfl)
  · rw [avOf, range_at n _ _ j hj, againW]
    split
    · exact smpOf_lt _ (Nat.lt_of_le_of_lt (hS.levb j) (by decide))
    · decide
  · rw [avOf, akOf, range_at n _ _ j hj, range_at n _ _ j hj, againW, againK]
    split
    · exact smpOf_smp _ (Nat.lt_of_le_of_lt (hS.levb j) (by decide))
    · exact smp_zero
  · rw [akOf, range_at n _ _ j hj, againK]
    split
    · exact hS.levb j
    · decide
theorem rest_right {w wx : World} {W H : Int} {b o n c : Nat} {xs : List Nat} {ks : List Int} {m g cc : Nat} {lev : List Int} {B : Nat} {gR cR N : Nat} {C : List Int} (hS : Sent w W H b o n c xs ks m g cc lev B wx)
    (hA : wx.ownsRow N 27 1 (.slice (some ⟨gR, 0, none⟩) n cR) n ((rsOf n xs C).map (Value.float .f32))) : RightMap wx W H gR 0 n (rsOf n xs C) (rkOf n lev C) := by
  refine ⟨⟨by simp [rsOf], by simp [rkOf], hS.right.small, fun j hj => ?_, fun j hj => ?_, fun j hj => ?_, fun j hj => ?_⟩, hS.right.wid, hS.right.hei, hS.right.area⟩
  · rw [Nat.zero_add]
    exact owns_cell hA (by rw [List.getElem?_map, List.getElem?_eq_getElem (by simp [rsOf]; exact hj)]; rfl)
  · rw [rsOf, range_at n _ _ j hj, restW]
    split
    · decide
    · exact hS.right.words j hj
  · rw [rsOf, rkOf, range_at n _ _ j hj, range_at n _ _ j hj, restW, restK]
    split
    · exact smp_zero
    · rw [hS.levk j hj]; exact hS.right.smps j hj
  · rw [rkOf, range_at n _ _ j hj, restK]
    split
    · decide
    · exact hS.levb j
/-- The two maps' integers make those of the whole one. -/
theorem ak_rk (n : Nat) (lev ks : List Int) (C : List Int) (hk : ∀ j, j < n → lev[j]?.getD 0 = ks[j]?.getD 0) (j : Nat) (hj : j < n) : (akOf n lev C)[j]?.getD 0 + (rkOf n lev C)[j]?.getD 0 = ks[j]?.getD 0 := by
  rw [akOf, rkOf, range_at n _ _ j hj, range_at n _ _ j hj, againK_restK, hk j hj]
theorem ak_rk_bd (n : Nat) (lev : List Int) (C : List Int) (hb : ∀ j : Nat, (lev[j]?.getD 0 : Int).natAbs ≤ 16384) (j : Nat) : ((akOf n lev C)[j]?.getD 0 + (rkOf n lev C)[j]?.getD 0 : Int).natAbs ≤ 16384 := by
  by_cases hj : j < n
  · rw [akOf, rkOf, range_at n _ _ j hj, range_at n _ _ j hj, againK_restK]; exact hb j
  · rw [akOf, rkOf, range_off n _ _ j (by omega), range_off n _ _ j (by omega)]; decide
theorem ak_rk_sum (n : Nat) (lev ks : List Int) (C : List Int) (hl : ks.length = n) (hk : ∀ j, j < n → lev[j]?.getD 0 = ks[j]?.getD 0) : (akOf n lev C).sum + (rkOf n lev C).sum = ks.sum := by
  rw [akOf, rkOf, sum_two _ _ _ (againK_restK lev C)]
  congr 1
  refine List.ext_getElem (by simp [hl]) fun j h1 h2 => ?_
  simp only [List.length_map, List.length_range] at h1
  rw [List.getElem_map, List.getElem_range, hk j h1, List.getElem?_eq_getElem h2]
  rfl
theorem ints_ex {w : World} {B n c : Nat} {a : Option Addr} {zs : List Int} (h : w.ownsRow B 3 1 (.slice a n c) n (zs.map (Value.int .i64))) : ∀ j, j < n → ∃ b o, a = some ⟨b, o, none⟩ ∧ b < w.heap.size ∧ w.cell? ⟨b, o + j, none⟩ = some (.int .i64 (zs[j]?.getD 0)) := fun j hj => by
  obtain ⟨g, c', e, hg, _⟩ := owns_some h (by omega)
  injection e with e1 e2 e3
  subst e1
  have hl := h.1
  rw [Nat.mul_one, List.length_map] at hl
  exact ⟨g, 0, rfl, hg, by rw [Nat.zero_add]; exact owns_cell h (by rw [List.getElem?_map, List.getElem?_eq_getElem (by omega)]; rfl)⟩

set_option maxRecDepth 1000000 in
/-- What is still to be shown where the walk stands ahead of region 59. -/
def Tail59 (W H : Int) (b o n c : Nat) (xs : List Nat) (ks : List Int) (m g cc : Nat) (lev : List Int) (B : Nat) (lost : Int) (w : World) : Prop :=
  ∀ (p : MadeAt) (L : List Tel) (wz : World) (v27 v29 : Value) (a31 : Option Addr) (c31 : Nat) (u3 u4 u7 u8 u9 u10 u11 u12 u13 u14 u15 u16 u17 u20 u21 u22 u23 u24 u25 u26 u28 u33 u34 u35 u36 u37 u38 u39 u40 u41 u42 u43 u44 u45 u46 u47 u48 u49 u50 u51 u52 u53 u54 u55 u56 u57 u58 u59 u60 u61 u62 u63 u64 u65 u66 u67 u68 u69 u70 u71 u72 u73 u74 u75 u76 u77 u78 u79 u80 u81 u82 u83 u84 u85 u86 u87 u88 u89 u90 u91 u92 u93 u94 u95 u96 u97 u98 u99 u100 u101 u102 u103 u104 u105 u106 u107 u108 u109 u110 u111 u112 u113 u114 u115 u116 u117 u118 u119 u120 u121 u122 u123 u124 u125 u126 u127 u128 u129 u130 u131 u132 u133 u134 u135 u136 u137 u138 u139 u140 u141 u142 u143 u144 u145 u146 u147 u148 u149 u150 u151 u152 u153 u154 u155 u156 u157 u158 u159 u160 u161 u162 u163 u164 u165 u166 u167 u168 u169 u170 u171 u172 u173 u174 u175 u176 u177 u178 u179 u180 u181 u182 u183 u184 u185 u186 u187 u188 u189 u190 u191 u192 u193 u194 u195 u196 u197 u198 u199 u200 u201 u202 u203 u204 u205 u206 u207 u208 u209 u210 u211 u212 u213 u214 u215 u216 u217 u218 u219 u220 u221 u222 u223 u224 u225 u226 u227 u228 u229 u230 u231 u232 u233 u234 u235 u236 u237 u238 u239 u240 u241 u242 u243 u244 u245 u246 u247 u248 u249 u250 u251 u252 u253 u254 u255 u256 u257 u258 u259 u260 u261 u262 u263 u264 u265 u266 u267 u268 u269 u270 u271 u272 u273 u274 u275 u276 u277 u278 u279 u280 u281 u282 u283 u284 u285 u286 u287 u288 u289 u290 u291 u292 u293 u294 u295 u296 u297 u298 u299 u300 u301 u302 u303 u304 u305 u306 u307 u308 u309 u310 u311 u312 u313 u314 u315 u316 u317 u318 u319 u320 u321 u322 u323 u324 u325 u326 u327 u328 u329 u330 u331 u332 u333 u334 u335 u336 u337 u338 u339 u340 u341 u342 u343 u344 u345 u346 u347 u348 u349 u350 u351 u352 u353 u354 u355 u356 u357 : Value), Sent w W H b o n c xs ks m g cc lev B wz → g < p.N → w.heap.size < p.N → Made p W H n m L (csOf m (keptTo (keptF lost) m)) (avOf n lev (keptTo (keptF lost) m)) (rsOf n xs (keptTo (keptF lost) m)) wz → wz.ownsRow p.N 3 1 v27 (wantTo (keptTo (keptF lost) m) m).length ((wantTo (keptTo (keptF lost) m) m).map (Value.int .i64)) → wz.ownsRow p.N 3 1 v29 (wantTo (keptTo (keptF lost) m) m).length ((wantTo (keptTo (keptF lost) m) m).map (Value.int .i64)) → Code.wp Try.prog (tailOf 59) (bodyPost Try.prog Try.f3 (SentPost w)) ⟨#[.agg #[.int .i64 W, .int .i64 H, .slice (some ⟨b, o, none⟩) n c], .int .u16 lost, .pointer (some ⟨w.heap.size, 0, none⟩), u3, u4, .slice (some ⟨g, 0, none⟩) (3 * m) cc, .int .i64 m, u7, u8, u9, u10, u11, u12, u13, u14, u15, u16, u17, .pointer (some ⟨p.B18, 0, none⟩), .pointer (some ⟨p.B19, 0, none⟩), u20, u21, u22, u23, u24, u25, u26, v27, u28, v29, .int .i64 0, .slice a31 0 c31, .int .i64 0, u33, u34, u35, u36, u37, u38, u39, u40, u41, u42, u43, u44, u45, u46, u47, u48, u49, u50, u51, u52, u53, u54, u55, u56, u57, u58, u59, u60, u61, u62, u63, u64, u65, u66, u67, u68, u69, u70, u71, u72, u73, u74, u75, u76, u77, u78, u79, u80, u81, u82, u83, u84, u85, u86, u87, u88, u89, u90, u91, u92, u93, u94, u95, u96, u97, u98, u99, u100, u101, u102, u103, u104, u105, u106, u107, u108, u109, u110, u111, u112, u113, u114, u115, u116, u117, u118, u119, u120, u121, u122, u123, u124, u125, u126, u127, u128, u129, u130, u131, u132, u133, u134, u135, u136, u137, u138, u139, u140, u141, u142, u143, u144, u145, u146, u147, u148, u149, u150, u151, u152, u153, u154, u155, u156, u157, u158, u159, u160, u161, u162, u163, u164, u165, u166, u167, u168, u169, u170, u171, u172, u173, u174, u175, u176, u177, u178, u179, u180, u181, u182, u183, u184, u185, u186, u187, u188, u189, u190, u191, u192, u193, u194, u195, u196, u197, u198, u199, u200, u201, u202, u203, u204, u205, u206, u207, u208, u209, u210, u211, u212, u213, u214, u215, u216, u217, u218, u219, u220, u221, u222, u223, u224, u225, u226, u227, u228, u229, u230, u231, u232, u233, u234, u235, u236, u237, u238, u239, u240, u241, u242, u243, u244, u245, u246, u247, u248, u249, u250, u251, u252, u253, u254, u255, u256, u257, u258, u259, u260, u261, u262, u263, u264, u265, u266, u267, u268, u269, u270, u271, u272, u273, u274, u275, u276, u277, u278, u279, u280, u281, u282, u283, u284, u285, u286, u287, u288, u289, u290, u291, u292, u293, u294, u295, u296, u297, u298, u299, u300, u301, u302, u303, u304, u305, u306, u307, u308, u309, u310, u311, u312, u313, u314, u315, u316, u317, u318, u319, u320, u321, u322, u323, u324, u325, u326, u327, u328, u329, u330, u331, u332, u333, u334, u335, u336, u337, u338, u339, u340, u341, u342, u343, u344, u345, u346, u347, u348, u349, u350, u351, u352, u353, u354, u355, u356, u357], []⟩ wz
end Go.Proofs.Ytfdkmmllemkogaa
