/-
  LightFound: its round over an order, from the frame that is broken on.
-/
import Derived.Test.YtfpagmalblmnkaaGreatDoorGVk
import Derived.Test.YtfpagmalblmnkaaGreatDoorGWt
import Derived.Test.YtfpagmalblmnkaaGreatDoorGWg
namespace Go.Proofs.YtfpagmalblmnkaaGreatDoor
open Go.RowKit Go.Shelf
set_option linter.unusedVariables false
set_option linter.unusedSimpArgs false

theorem hif24 (F : List Int) (h : F.length = 24) : (Tryz.prog.info? 80).map (·.size) = some (F.map (Value.int .u8)).toArray.size := by rw [size24]; simp [h]
theorem size24Z (F : List Int) (h : F.length = 24) : (List.replicate 24 (Value.int .u8 0)).toArray.size = (F.map (Value.int .u8)).toArray.size := by simp [h]

set_option maxRecDepth 1000000 in
set_option maxHeartbeats 25600000 in
theorem found22 (W0 : World) (N0 : Nat) (hN0 : N0 = W0.heap.size) (k i : Nat) (hi8 : i < 9) (t : Tel) (L : List Tel) (hL : L.length = i) (S10 S11 : List Int) (g10 n10 c10 g11 n11 c11 : Nat) (hn10 : n10 ≤ 1000) (hn11 : n11 ≤ 1000) (hg : g10 ≠ g11) (v13 : Value) (hgd : t.Good) (hft : FitT t.s t.c t.o t.x t.y t.z) (n0 n1 n2 n3 : Int) (hn2 : 0 ≤ n2 ∧ n2 ≤ 255) (hn3 : 0 ≤ n3 ∧ n3 ≤ 255) (Bn : Nat) (hbn : W0.heap[Bn]? = some (.cells #[.int .u8 n0, .int .u8 n1, .int .u8 n2, .int .u8 n3] 72 (0, 0))) (B16 B17 : Nat) (wr : World) (Q : Exit → Act → World → Prop) (u0 u1 u2 u3 u4 u6 u7 u8 u9 u15 u18 u19 u20 u21 u22 u23 u24 u25 u26 u27 u28 u29 u30 u31 u32 u33 u34 u35 u36 u37 u38 u39 u40 u41 u42 u43 u44 u45 u46 u47 u48 u49 u50 u51 u52 u53 u54 u55 u56 u57 u58 u59 u60 u61 u62 u63 u64 u65 u66 u67 u68 u69 u70 u71 u72 u73 u74 u75 u76 u78 u79 u80 u81 u82 u83 u84 u85 u86 u87 u88 u89 u90 u91 u92 u93 u94 u95 u96 u97 u98 u99 u100 u101 u102 u103 u104 u105 u106 u107 u108 u109 u110 u111 u112 u113 u114 u115 u116 u117 u118 u119 u120 u121 u122 u123 u124 u125 u126 u127 u128 u129 u130 u131 u132 u133 u134 u135 u136 u137 u138 u139 u140 u141 u142 u143 u144 u145 u146 u147 u148 u149 u150 u151 u152 u153 u154 u155 u156 u157 u158 u159 u160 u161 u162 u163 u164 u165 u166 u167 u168 u169 u170 u171 u172 u173 u174 u175 u176 u177 u178 u179 u180 u181 u182 u183 u184 u185 u186 u187 u188 u189 u190 u191 u192 u193 u194 u195 u196 u197 u198 u199 u200 u201 u202 u203 u204 u205 u206 u207 u208 u209 u210 u211 u212 u213 u214 u215 u216 u217 u218 u219 u220 u221 u222 u223 u224 u225 u226 u227 u228 u229 u230 u231 u232 u233 u234 u235 u236 u237 u238 u239 u240 u241 u242 u243 u244 u245 u246 u247 u248 u249 u250 u251 u252 u253 u254 u255 u256 u257 u258 u259 u260 u261 u262 u263 u264 u265 u266 u267 u268 u269 u270 : Value)
    (hBW : Below N0 W0 wr) (h10 : wr.ownsRow N0 5 1 (.slice (some ⟨g10, 0, none⟩) n10 c10) n10 (S10.map (Value.int .u8))) (h11 : wr.ownsRow N0 5 1 (.slice (some ⟨g11, 0, none⟩) n11 c11) n11 (S11.map (Value.int .u8))) (h13 : wr.ownsRow N0 79 6 v13 i (L.flatMap Tel.val))
    (hb17 : wr.heap[B17]? = some (.cells (t.frame.map (Value.int .u8)).toArray 80 (0, 0))) (hb16 : wr.heap[B16]? = some (.cells #[.int .i64 t.s, .int .i64 t.c, .int .i64 t.o, .int .i64 t.x, .int .i64 t.y, .int .i64 t.z] 79 (0, 0)))
    (hQ : ∀ (w' : World) (g10' c10' g11' c11' : Nat) (v13' : Value) (v6 v21 v22 v23 v24 v121 v122 v123 v124 v125 v126 v127 v128 v129 v130 v131 v132 v133 v134 v135 v136 v137 v138 v139 v140 v141 v142 v143 v144 v145 v146 v147 v148 v149 v150 v151 v152 v153 v154 v155 v156 v157 v158 v159 : Value), Below N0 W0 w' → g10' ≠ g11' → w'.ownsRow N0 5 1 (.slice (some ⟨g10', 0, none⟩) (n10 + 24) c10') (n10 + 24) ((S10 ++ t.frame).map (Value.int .u8)) → w'.ownsRow N0 5 1 (.slice (some ⟨g11', 0, none⟩) (n11 + (if i = k then 0 else 24)) c11') (n11 + (if i = k then 0 else 24)) ((S11 ++ (if i = k then [] else t.frame)).map (Value.int .u8)) → w'.ownsRow N0 79 6 v13' (i + 1) ((L ++ [t]).flatMap Tel.val) → Q .normal ⟨#[u0, u1, u2, u3, u4, .pointer (some ⟨Bn, 0, none⟩), v6, u7, u8, u9, .slice (some ⟨g10', 0, none⟩) (n10 + 24) c10', .slice (some ⟨g11', 0, none⟩) (n11 + (if i = k then 0 else 24)) c11', .int .i64 (k : Nat), v13', .int .i64 (i : Nat), u15, .pointer (some ⟨B16, 0, none⟩), .pointer (some ⟨B17, 0, none⟩), u18, u19, u20, v21, v22, v23, v24, u25, u26, u27, u28, u29, u30, u31, u32, u33, u34, u35, u36, u37, u38, u39, u40, u41, u42, u43, u44, u45, u46, u47, u48, u49, u50, u51, u52, u53, u54, u55, u56, u57, u58, u59, u60, u61, u62, u63, u64, u65, u66, u67, u68, u69, u70, u71, u72, u73, u74, u75, u76, .int .i64 (i : Nat), u78, u79, u80, u81, u82, u83, u84, u85, u86, u87, u88, u89, u90, u91, u92, u93, u94, u95, u96, u97, u98, u99, u100, u101, u102, u103, u104, u105, u106, u107, u108, u109, u110, u111, u112, u113, u114, u115, u116, u117, u118, u119, u120, v121, v122, v123, v124, v125, v126, v127, v128, v129, v130, v131, v132, v133, v134, v135, v136, v137, v138, v139, v140, v141, v142, v143, v144, v145, v146, v147, v148, v149, v150, v151, v152, v153, v154, v155, v156, v157, v158, v159, u160, u161, u162, u163, u164, u165, u166, u167, u168, u169, u170, u171, u172, u173, u174, u175, u176, u177, u178, u179, u180, u181, u182, u183, u184, u185, u186, u187, u188, u189, u190, u191, u192, u193, u194, u195, u196, u197, u198, u199, u200, u201, u202, u203, u204, u205, u206, u207, u208, u209, u210, u211, u212, u213, u214, u215, u216, u217, u218, u219, u220, u221, u222, u223, u224, u225, u226, u227, u228, u229, u230, u231, u232, u233, u234, u235, u236, u237, u238, u239, u240, u241, u242, u243, u244, u245, u246, u247, u248, u249, u250, u251, u252, u253, u254, u255, u256, u257, u258, u259, u260, u261, u262, u263, u264, u265, u266, u267, u268, u269, u270], []⟩ w') :
    Code.wp Tryz.prog (cutF 22) Q ⟨#[u0, u1, u2, u3, u4, .pointer (some ⟨Bn, 0, none⟩), u6, u7, u8, u9, .slice (some ⟨g10, 0, none⟩) n10 c10, .slice (some ⟨g11, 0, none⟩) n11 c11, .int .i64 (k : Nat), v13, .int .i64 (i : Nat), u15, .pointer (some ⟨B16, 0, none⟩), .pointer (some ⟨B17, 0, none⟩), u18, u19, u20, u21, u22, u23, u24, u25, u26, u27, u28, u29, u30, u31, u32, u33, u34, u35, u36, u37, u38, u39, u40, u41, u42, u43, u44, u45, u46, u47, u48, u49, u50, u51, u52, u53, u54, u55, u56, u57, u58, u59, u60, u61, u62, u63, u64, u65, u66, u67, u68, u69, u70, u71, u72, u73, u74, u75, u76, .int .i64 (i : Nat), u78, u79, u80, u81, u82, u83, u84, u85, u86, u87, u88, u89, u90, u91, u92, u93, u94, u95, u96, u97, u98, u99, u100, u101, u102, u103, u104, u105, u106, u107, u108, u109, u110, u111, u112, u113, u114, u115, u116, u117, u118, u119, u120, u121, u122, u123, u124, u125, u126, u127, u128, u129, u130, u131, u132, u133, u134, u135, u136, u137, u138, u139, u140, u141, u142, u143, u144, u145, u146, u147, u148, u149, u150, u151, u152, u153, u154, u155, u156, u157, u158, u159, u160, u161, u162, u163, u164, u165, u166, u167, u168, u169, u170, u171, u172, u173, u174, u175, u176, u177, u178, u179, u180, u181, u182, u183, u184, u185, u186, u187, u188, u189, u190, u191, u192, u193, u194, u195, u196, u197, u198, u199, u200, u201, u202, u203, u204, u205, u206, u207, u208, u209, u210, u211, u212, u213, u214, u215, u216, u217, u218, u219, u220, u221, u222, u223, u224, u225, u226, u227, u228, u229, u230, u231, u232, u233, u234, u235, u236, u237, u238, u239, u240, u241, u242, u243, u244, u245, u246, u247, u248, u249, u250, u251, u252, u253, u254, u255, u256, u257, u258, u259, u260, u261, u262, u263, u264, u265, u266, u267, u268, u269, u270], []⟩ wr := by
  conv => arg 2; whnf
  dsimp only
  have lBn : Bn < N0 := by rw [hN0]; exact lt_of_blk hbn
  have hNz : N0 ≤ wr.heap.size := by rw [hN0]; exact hBW.size
  have hbn' := (hBW.block Bn lBn).trans hbn
  obtain ⟨at', hat⟩ : ∃ a : Nat, n2.toNat % 24 = a := ⟨_, rfl⟩
  have ha24 : at' < 24 := by rw [← hat]; exact Nat.mod_lt _ (by omega)
  have ea : n2.tmod 24 = (at' : Int) := by rw [Int.tmod_eq_emod_of_nonneg hn2.1, ← hat]; omega
  have wn2 : IntKind.i64.wrap n2 = n2 := IntWalk.i64_in _ ⟨by omega, by omega⟩
  have wn3 : IntKind.i64.wrap n3 = n3 := IntWalk.i64_in _ ⟨by omega, by omega⟩
  have wat : IntKind.i64.wrap (at' : Int) = (at' : Int) := IntWalk.i64_in _ ⟨by omega, by omega⟩
  obtain ⟨fb, hfb⟩ : ∃ fb, t.frame[at']?.getD 0 = fb := ⟨_, rfl⟩
  have hfg : t.frame[at']? = some fb := by
    rw [← hfb, List.getElem?_eq_getElem (by show at' < 24; exact ha24)]; rfl
  have bfb : 0 ≤ fb ∧ fb ≤ 255 := (frame24 t hgd).2 fb (List.mem_of_getElem? hfg)
  obtain ⟨nv, hnv⟩ : ∃ nv, (fb + 1 + n3.tmod 255).tmod 256 = nv := ⟨_, rfl⟩
  have e3 : n3.tmod 255 = n3 % 255 := Int.tmod_eq_emod_of_nonneg hn3.1
  have hnv' : nv = (fb + 1 + n3 % 255) % 256 := by rw [← hnv, e3, Int.tmod_eq_emod_of_nonneg (by omega)]
  have bnv : 0 ≤ nv ∧ nv ≤ 255 := by omega
  have hne : nv ≠ fb := by omega
  have wfb : IntKind.i64.wrap fb = fb := IntWalk.i64_in _ ⟨by omega, by omega⟩
  have wf1 : IntKind.i64.wrap (fb + 1) = fb + 1 := IntWalk.i64_in _ ⟨by omega, by omega⟩
  have wm3 : IntKind.i64.wrap (n3.tmod 255) = n3.tmod 255 := IntWalk.i64_in _ ⟨by omega, by omega⟩
  have ws3 : IntKind.i64.wrap (fb + 1 + n3 % 255) = fb + 1 + n3 % 255 := IntWalk.i64_in _ ⟨by omega, by omega⟩
  have wm4 : IntKind.i64.wrap (n3 % 255) = n3 % 255 := IntWalk.i64_in _ ⟨by omega, by omega⟩
  have hnv2 : (fb + 1 + n3 % 255).tmod 256 = nv := by rw [← e3]; exact hnv
  have hnv3 : (fb + 1 + n3 % 255) % 256 = nv := hnv'.symm
  have wnv : IntKind.i64.wrap nv = nv := IntWalk.i64_in _ ⟨by omega, by omega⟩
  have unv : IntKind.u8.wrap nv = nv := IntWalk.u8_in _ ⟨by omega, by omega⟩
  obtain ⟨F', hF'⟩ : ∃ F', t.frame.set at' nv = F' := ⟨_, rfl⟩
  have hF24 : Bytes24 F' := by
    rw [← hF']
    exact ⟨by rw [List.length_set]; rfl, fun u hu => by
      rcases List.mem_or_eq_of_mem_set hu with h1 | h1
      · exact (frame24 t hgd).2 u h1
      · rw [h1]; exact bnv⟩
  have hr : decErr F' ≠ 0 := by rw [← hF']; exact decErr_broken t hgd hft at' nv bnv ha24 (by rw [hfb]; exact hne)
  obtain ⟨r, hre⟩ : ∃ r, decErr F' = r := ⟨_, rfl⟩
  rw [hre] at hr
  obtain ⟨t', ht'⟩ : ∃ t', decTel F' = t' := ⟨_, rfl⟩
  have KD : Hid (∀ w1 : World, Calls Tryz.prog 33 #[.agg (F'.map (Value.int .u8)).toArray] w1 fun e w' => e = .returned (.tuple #[.agg #[.int .i64 t'.s, .int .i64 t'.c, .int .i64 t'.o, .int .i64 t'.x, .int .i64 t'.y, .int .i64 t'.z], .int .i64 r]) ∧ Below w1.heap.size w1 w') := Lib.hid fun w1 => by
    have k := decode_all F' hF24 w1
    rw [hre, ht'] at k
    exact k
  have hrne : (r == 0) = false := by simp [hr]
  have hi17 := hif24 t.frame rfl
  have hiF := hif24 F' hF24.1
  have HQ := Lib.hid hQ
  have H10 := Lib.hid h10
  have H11 := Lib.hid h11
  have H13 := Lib.hid h13
  have B16H := Lib.hid hb16
  have B17H := Lib.hid hb17
  have HBW := Lib.hid hBW
  have BNH := Lib.hid hbn'
  have HF := Lib.hid hF'
  have HFG := Lib.hid hfg
  have l16 := lt_of_blk hb16
  have l17 := lt_of_blk hb17
  have lbn := lt_of_blk hbn'
  clear hQ h10 h11 h13 hb16 hb17 hBW hbn hbn' hF' hfg hfb hF24 hre ht' hgd hft hnv'
  have K0 : Hid (Kp wr (wr.alloc (.cells (List.replicate 24 (Value.int .u8 0)).toArray 80)) [(wr.heap.size, .cells (List.replicate 24 (Value.int .u8 0)).toArray 80 (0, 0))]) := Lib.hid ((Kp.none wr).alloc _)
  have K1 : Hid (Kp wr ((wr.alloc (.cells (List.replicate 24 (Value.int .u8 0)).toArray 80)).setRow wr.heap.size (t.frame.map (Value.int .u8)).toArray) [(wr.heap.size, .cells (t.frame.map (Value.int .u8)).toArray 80 (0, 0))]) := Lib.hid ((Kp.none wr).stored _ _ 80)
  obtain ⟨n0', n1', n2', n3'⟩ := cells4 BNH.out
  go_upto_region 23 with (first
    | (refine wpList_load_row rfl 80 (.tmp 17) rfl B17 rfl 80 _ (0, 0) _ B17H.out Tryz.underlying80 rfl hi17 ?_)
    | (refine wpList_store_row rfl 80 (.tmp 21) (.tmp 121) rfl wr.heap.size rfl (t.frame.map (Value.int .u8)).toArray rfl 80 (List.replicate 24 (Value.int .u8 0)).toArray (K0.out.2 _ (.head _)) (size24Z t.frame rfl) hi17 (fun v hv => one_byts t.frame v (by simpa using hv)) ?_))
  obtain ⟨W1, hW1⟩ : ∃ W1, (wr.alloc (.cells (List.replicate 24 (Value.int .u8 0)).toArray 80)).setRow wr.heap.size (t.frame.map (Value.int .u8)).toArray = W1 := ⟨_, rfl⟩
  have k1 := K1.out
  rw [hW1] at k1
  simp only [List.replicate] at hW1
  rw [hW1]
  have KA := Lib.hid k1
  clear K0 K1 k1 hW1 n0' n1' n2' n3'
  have hb1 : Below wr.heap.size wr W1 := KA.out.1
  have bn1 := (hb1.block Bn lbn).trans BNH.out
  obtain ⟨n0', n1', n2', n3'⟩ := cells4 bn1
  have c21 : W1.cell? ⟨wr.heap.size, at', none⟩ = some (.int .u8 fb) := by
    rw [cell_of_row _ _ at' _ _ (0, 0) (KA.out.2 _ (.head _))]
    simp [HFG.out]
  have z21 : W1.frozen? ⟨wr.heap.size, at', none⟩ = false := by simp [World.frozen?, KA.out.2 _ (.head _)]
  have hal : (at' : Int) < 24 := by omega
  have hBk : (W1.setCell ⟨wr.heap.size, at', none⟩ (.int .u8 nv)).heap[wr.heap.size]? = some (.cells (F'.map (Value.int .u8)).toArray 80 (0, 0)) := by
    rw [blk_setL (KA.out.2 _ (.head _)) (.int .u8 nv) (by rw [List.length_map]; exact ha24), ← HF.out, List.map_set]
  have HBK := Lib.hid hBk
  have HW2 : Hid (Below wr.heap.size wr (W1.setCell ⟨wr.heap.size, at', none⟩ (.int .u8 nv))) := Lib.hid (hb1.setCell (p := ⟨wr.heap.size, at', none⟩) (Nat.le_refl _) _)
  clear bn1 hBk hb1
  go_upto_region 24 with fail
  go_cut [] from 126 to 139 (fun wc => wc.heap[wr.heap.size]? = some (.cells (F'.map (Value.int .u8)).toArray 80 (0, 0)) ∧ Below wr.heap.size wr wc)
  case first =>
    have d21 : W1.drew.cell? ⟨wr.heap.size, at', none⟩ = some (.int .u8 fb) := c21
    have y21 : W1.drew.frozen? ⟨wr.heap.size, at', none⟩ = false := z21
    have m3 : W1.drew.cell? ⟨Bn, 3, none⟩ = some (.int .u8 n3) := n3'
    refine wp_region_noPanic ?_
    go_region_with fail
    all_goals
      dsimp only [NoPanic]
      try simp only [ws3, hnv2, hnv3, unv, wnv]
      go_wp2_with fail
      go_meet
      exact ⟨HBK.out, HW2.out.drew⟩
  case rest =>
    rename_i hK
    obtain ⟨hb21, hbw⟩ := hcut
    refine hK _ _ ?_
    clear hK
    have B21H := Lib.hid hb21
    have HWC := Lib.hid hbw
    have lbw := hbw.size
    clear hb21 hbw HBK HW2 KA c21 z21 n0' n1' n2' n3'
    have J0 : Hid (∀ w1 : World, Kp w1 (w1.alloc (.cells #[.int .i64 0, .int .i64 0, .int .i64 0, .int .i64 0, .int .i64 0, .int .i64 0] 79)) [(w1.heap.size, .cells #[.int .i64 0, .int .i64 0, .int .i64 0, .int .i64 0, .int .i64 0, .int .i64 0] 79 (0, 0))]) := Lib.hid fun w1 => (Kp.none w1).alloc _
    have J1 : Hid (∀ w1 : World, Kp w1 ((w1.alloc (.cells #[.int .i64 0, .int .i64 0, .int .i64 0, .int .i64 0, .int .i64 0, .int .i64 0] 79)).setRow w1.heap.size #[.int .i64 t'.s, .int .i64 t'.c, .int .i64 t'.o, .int .i64 t'.x, .int .i64 t'.y, .int .i64 t'.z]) [(w1.heap.size, .cells #[.int .i64 t'.s, .int .i64 t'.c, .int .i64 t'.o, .int .i64 t'.x, .int .i64 t'.y, .int .i64 t'.z] 79 (0, 0))]) := Lib.hid fun w1 => (Kp.none w1).stored _ _ 79
    go_upto_if 146 with (first
      | (refine wpList_load_row rfl 80 (.tmp 21) rfl wr.heap.size rfl 80 _ (0, 0) _ B21H.out Tryz.underlying80 rfl hiF ?_)
      | (go_at_call 33; refine (KD.out _).mono ?_; rintro e w5 ⟨rfl, hb5⟩)
      | (refine wpList_store_row rfl 79 (.tmp 23) (.tmp 143) rfl w5.heap.size rfl #[.int .i64 t'.s, .int .i64 t'.c, .int .i64 t'.o, .int .i64 t'.x, .int .i64 t'.y, .int .i64 t'.z] rfl 79 #[.int .i64 0, .int .i64 0, .int .i64 0, .int .i64 0, .int .i64 0, .int .i64 0] ((J0.out w5).2 _ (.head _)) (by rfl) (by kernel_rfl) (by simp [Value.oneCell']) ?_))
    have HWE : Hid (Below wr.heap.size wr ((w5.alloc (.cells #[.int .i64 0, .int .i64 0, .int .i64 0, .int .i64 0, .int .i64 0, .int .i64 0] 79)).setRow w5.heap.size #[.int .i64 t'.s, .int .i64 t'.c, .int .i64 t'.o, .int .i64 t'.x, .int .i64 t'.y, .int .i64 t'.z])) := Lib.hid ((HWC.out.trans (hb5.mono lbw)).trans ((J1.out w5).1.mono (by have := hb5.size; omega)))
    go_cut [] from 121 to 146 (fun wc => Below wr.heap.size wr wc)
    case first =>
      go_wp2_with fail
      go_meet
      exact HWE.out
    case rest =>
      rename_i hK
      have HE := Lib.hid hcut
      clear hcut HWE HWC
      refine hK _ _ ?_
      clear hK
      refine found28 W0 N0 hN0 k i hi8 t L hL S10 S11 g10 n10 c10 g11 n11 c11 hn10 hn11 hg v13 B16 B17 _ Q _ _ _ _ _ _ _ _ _ _ _ _ _ _ _ _ _ _ _ _ _ _ _ _ _ _ _ _ _ _ _ _ _ _ _ _ _ _ _ _ _ _ _ _ _ _ _ _ _ _ _ _ _ _ _ _ _ _ _ _ _ _ _ _ _ _ _ _ _ _ _ _ _ _ _ _ _ _ _ _ _ _ _ _ _ _ _ _ _ _ _ _ _ _ _ _ _ _ _ _ _ _ _ _ _ _ _ _ _ _ _ _ _ _ _ _ _ _ _ _ _ _ _ _ _ _ _ _ _ _ _ _ _ _ _ _ _ _ _ _ _ _ _ _ _ _ _ _ _ _ _ _ _ _ _ _ _ _ _ _ _ _ _ _ _ _ _ _ _ _ _ _ _ _ _ _ _ _ _ _ _ _ _ _ _ _ _ _ _ _ _ _ _ _ _ _ _ _ _ _ _ _ _ _ _ _ _ _ _ _ _ _ _ _ _ _ _ _ _ _ _ _ _ _ _ _ _ _ _ _ _ _ _ _ _ _ _ _ _ _ _ _ _ _ _ _ _ _ _ _ _ _ _ _ _ _ _ _ _ _ _ _ _ (HBW.out.trans (HE.out.mono hNz)) (owns_kept H10.out HE.out (Nat.le_refl _)) (owns_kept H11.out HE.out (Nat.le_refl _)) (owns_kept H13.out HE.out (Nat.le_refl _)) ((HE.out.block B17 l17).trans B17H.out) ((HE.out.block B16 l16).trans B16H.out) ?_
      intro w' g10' c10' g11' c11' v13' v147 v148 v149 v150 v151 v152 v153 v154 v155 v156 v157 v158 v159 q1 q2 q3 q4 q5
      exact HQ.out _ _ _ _ _ _ _ _ _ _ _ _ _ _ _ _ _ _ _ _ _ _ _ _ _ _ _ _ _ _ _ _ _ _ _ _ _ _ _ _ _ _ _ _ _ _ _ _ _ _ q1 q2 q3 q4 q5
end Go.Proofs.YtfpagmalblmnkaaGreatDoor

/-
  LightFound: its round over an order.
-/
namespace Go.Proofs.YtfpagmalblmnkaaGreatDoor
open Go.RowKit Go.Shelf
set_option linter.unusedVariables false
set_option linter.unusedSimpArgs false

set_option maxRecDepth 1000000 in
set_option maxHeartbeats 25600000 in
theorem found16 (W0 : World) (N0 : Nat) (hN0 : N0 = W0.heap.size) (k i : Nat) (hi8 : i < 9) (L : List Tel) (hL : L.length = i) (S10 S11 : List Int) (g10 n10 c10 g11 n11 c11 : Nat) (hn10 : n10 ≤ 1000) (hn11 : n11 ≤ 1000) (hg : g10 ≠ g11) (v13 : Value) (x y z c : Int) (hx : -32768 ≤ x ∧ x ≤ 32767) (hy : -32768 ≤ y ∧ y ≤ 32767) (hz : -32768 ≤ z ∧ z ≤ 32767) (hc : ctr i = c) (n0 n1 n2 n3 : Int) (hn1 : 0 ≤ n1 ∧ n1 ≤ 255) (hn2 : 0 ≤ n2 ∧ n2 ≤ 255) (hn3 : 0 ≤ n3 ∧ n3 ≤ 255) (t : Tel) (ht : t = ⟨n1, c, (i : Nat), x, y, z⟩) (Bn : Nat) (hbn : W0.heap[Bn]? = some (.cells #[.int .u8 n0, .int .u8 n1, .int .u8 n2, .int .u8 n3] 72 (0, 0)))
    (ob oo om oc : Nat) (him : i < om) (hob : ob < N0) (ho0 : W0.cell? ⟨ob, oo + i * 3, none⟩ = some (.int .i16 x)) (ho1 : W0.cell? ⟨ob, oo + i * 3 + 1, none⟩ = some (.int .i16 y)) (ho2 : W0.cell? ⟨ob, oo + i * 3 + 2, none⟩ = some (.int .i16 z)) (wr : World) (Q : Exit → Act → World → Prop) (u0 u1 u2 u3 u4 u6 u7 u8 u9 u14 u15 u16 u17 u18 u19 u20 u21 u22 u23 u24 u25 u26 u27 u28 u29 u30 u31 u32 u33 u34 u35 u36 u37 u38 u39 u40 u41 u42 u43 u44 u45 u46 u47 u48 u49 u50 u51 u52 u53 u54 u55 u56 u57 u58 u59 u60 u61 u62 u63 u64 u65 u66 u67 u68 u69 u70 u71 u72 u73 u74 u76 u78 u79 u80 u81 u82 u83 u84 u85 u86 u87 u88 u89 u90 u91 u92 u93 u94 u95 u96 u97 u98 u99 u100 u101 u102 u103 u104 u105 u106 u107 u108 u109 u110 u111 u112 u113 u114 u115 u116 u117 u118 u119 u120 u121 u122 u123 u124 u125 u126 u127 u128 u129 u130 u131 u132 u133 u134 u135 u136 u137 u138 u139 u140 u141 u142 u143 u144 u145 u146 u147 u148 u149 u150 u151 u152 u153 u154 u155 u156 u157 u158 u159 u160 u161 u162 u163 u164 u165 u166 u167 u168 u169 u170 u171 u172 u173 u174 u175 u176 u177 u178 u179 u180 u181 u182 u183 u184 u185 u186 u187 u188 u189 u190 u191 u192 u193 u194 u195 u196 u197 u198 u199 u200 u201 u202 u203 u204 u205 u206 u207 u208 u209 u210 u211 u212 u213 u214 u215 u216 u217 u218 u219 u220 u221 u222 u223 u224 u225 u226 u227 u228 u229 u230 u231 u232 u233 u234 u235 u236 u237 u238 u239 u240 u241 u242 u243 u244 u245 u246 u247 u248 u249 u250 u251 u252 u253 u254 u255 u256 u257 u258 u259 u260 u261 u262 u263 u264 u265 u266 u267 u268 u269 u270 : Value)
    (hBW : Below N0 W0 wr) (h10 : wr.ownsRow N0 5 1 (.slice (some ⟨g10, 0, none⟩) n10 c10) n10 (S10.map (Value.int .u8))) (h11 : wr.ownsRow N0 5 1 (.slice (some ⟨g11, 0, none⟩) n11 c11) n11 (S11.map (Value.int .u8))) (h13 : wr.ownsRow N0 79 6 v13 i (L.flatMap Tel.val))
    (hQ : ∀ (w' : World) (g10' c10' g11' c11' : Nat) (v13' : Value) (v6 v14 v15 v16 v17 v18 v19 v20 v21 v22 v23 v24 v79 v80 v81 v82 v83 v84 v85 v86 v87 v88 v89 v90 v91 v92 v93 v94 v95 v96 v97 v98 v99 v100 v101 v102 v103 v104 v105 v106 v107 v108 v109 v110 v111 v112 v113 v114 v115 v116 v117 v118 v119 v120 v121 v122 v123 v124 v125 v126 v127 v128 v129 v130 v131 v132 v133 v134 v135 v136 v137 v138 v139 v140 v141 v142 v143 v144 v145 v146 v147 v148 v149 v150 v151 v152 v153 v154 v155 v156 v157 v158 v159 : Value), Below N0 W0 w' → g10' ≠ g11' → w'.ownsRow N0 5 1 (.slice (some ⟨g10', 0, none⟩) (n10 + 24) c10') (n10 + 24) ((S10 ++ t.frame).map (Value.int .u8)) → w'.ownsRow N0 5 1 (.slice (some ⟨g11', 0, none⟩) (n11 + (if i = k then 0 else 24)) c11') (n11 + (if i = k then 0 else 24)) ((S11 ++ (if i = k then [] else t.frame)).map (Value.int .u8)) → w'.ownsRow N0 79 6 v13' (i + 1) ((L ++ [t]).flatMap Tel.val) → Q .normal ⟨#[u0, u1, u2, u3, u4, .pointer (some ⟨Bn, 0, none⟩), v6, u7, u8, u9, .slice (some ⟨g10', 0, none⟩) (n10 + 24) c10', .slice (some ⟨g11', 0, none⟩) (n11 + (if i = k then 0 else 24)) c11', .int .i64 (k : Nat), v13', v14, v15, v16, v17, v18, v19, v20, v21, v22, v23, v24, u25, u26, u27, u28, u29, u30, u31, u32, u33, u34, u35, u36, u37, u38, u39, u40, u41, u42, u43, u44, u45, u46, u47, u48, u49, u50, u51, u52, u53, u54, u55, u56, u57, u58, u59, u60, u61, u62, u63, u64, u65, u66, u67, u68, u69, u70, u71, u72, u73, u74, .slice (some ⟨ob, oo, none⟩) om oc, u76, .int .i64 (i : Nat), u78, v79, v80, v81, v82, v83, v84, v85, v86, v87, v88, v89, v90, v91, v92, v93, v94, v95, v96, v97, v98, v99, v100, v101, v102, v103, v104, v105, v106, v107, v108, v109, v110, v111, v112, v113, v114, v115, v116, v117, v118, v119, v120, v121, v122, v123, v124, v125, v126, v127, v128, v129, v130, v131, v132, v133, v134, v135, v136, v137, v138, v139, v140, v141, v142, v143, v144, v145, v146, v147, v148, v149, v150, v151, v152, v153, v154, v155, v156, v157, v158, v159, u160, u161, u162, u163, u164, u165, u166, u167, u168, u169, u170, u171, u172, u173, u174, u175, u176, u177, u178, u179, u180, u181, u182, u183, u184, u185, u186, u187, u188, u189, u190, u191, u192, u193, u194, u195, u196, u197, u198, u199, u200, u201, u202, u203, u204, u205, u206, u207, u208, u209, u210, u211, u212, u213, u214, u215, u216, u217, u218, u219, u220, u221, u222, u223, u224, u225, u226, u227, u228, u229, u230, u231, u232, u233, u234, u235, u236, u237, u238, u239, u240, u241, u242, u243, u244, u245, u246, u247, u248, u249, u250, u251, u252, u253, u254, u255, u256, u257, u258, u259, u260, u261, u262, u263, u264, u265, u266, u267, u268, u269, u270], []⟩ w') :
    Code.wp Tryz.prog (cutF 16) Q ⟨#[u0, u1, u2, u3, u4, .pointer (some ⟨Bn, 0, none⟩), u6, u7, u8, u9, .slice (some ⟨g10, 0, none⟩) n10 c10, .slice (some ⟨g11, 0, none⟩) n11 c11, .int .i64 (k : Nat), v13, u14, u15, u16, u17, u18, u19, u20, u21, u22, u23, u24, u25, u26, u27, u28, u29, u30, u31, u32, u33, u34, u35, u36, u37, u38, u39, u40, u41, u42, u43, u44, u45, u46, u47, u48, u49, u50, u51, u52, u53, u54, u55, u56, u57, u58, u59, u60, u61, u62, u63, u64, u65, u66, u67, u68, u69, u70, u71, u72, u73, u74, .slice (some ⟨ob, oo, none⟩) om oc, u76, .int .i64 (i : Nat), u78, u79, u80, u81, u82, u83, u84, u85, u86, u87, u88, u89, u90, u91, u92, u93, u94, u95, u96, u97, u98, u99, u100, u101, u102, u103, u104, u105, u106, u107, u108, u109, u110, u111, u112, u113, u114, u115, u116, u117, u118, u119, u120, u121, u122, u123, u124, u125, u126, u127, u128, u129, u130, u131, u132, u133, u134, u135, u136, u137, u138, u139, u140, u141, u142, u143, u144, u145, u146, u147, u148, u149, u150, u151, u152, u153, u154, u155, u156, u157, u158, u159, u160, u161, u162, u163, u164, u165, u166, u167, u168, u169, u170, u171, u172, u173, u174, u175, u176, u177, u178, u179, u180, u181, u182, u183, u184, u185, u186, u187, u188, u189, u190, u191, u192, u193, u194, u195, u196, u197, u198, u199, u200, u201, u202, u203, u204, u205, u206, u207, u208, u209, u210, u211, u212, u213, u214, u215, u216, u217, u218, u219, u220, u221, u222, u223, u224, u225, u226, u227, u228, u229, u230, u231, u232, u233, u234, u235, u236, u237, u238, u239, u240, u241, u242, u243, u244, u245, u246, u247, u248, u249, u250, u251, u252, u253, u254, u255, u256, u257, u258, u259, u260, u261, u262, u263, u264, u265, u266, u267, u268, u269, u270], []⟩ wr := by
  conv => arg 2; whnf
  dsimp only
  have lBn : Bn < N0 := by rw [hN0]; exact lt_of_blk hbn
  have hNz : N0 ≤ wr.heap.size := by rw [hN0]; exact hBW.size
  have hbn' := (hBW.block Bn lBn).trans hbn
  have o0 : wr.cell? ⟨ob, oo + i * 3, none⟩ = some (.int .i16 x) := (hBW.cell (p := ⟨ob, oo + i * 3, none⟩) hob).trans ho0
  have o1 : wr.cell? ⟨ob, oo + i * 3 + 1, none⟩ = some (.int .i16 y) := (hBW.cell (p := ⟨ob, oo + i * 3 + 1, none⟩) hob).trans ho1
  have o2 : wr.cell? ⟨ob, oo + i * 3 + 2, none⟩ = some (.int .i16 z) := (hBW.cell (p := ⟨ob, oo + i * 3 + 2, none⟩) hob).trans ho2
  have hcb : 0 ≤ c ∧ c ≤ 65535 := by rw [← hc]; unfold ctr; omega
  have hcv : c = ((65530 : Int) + (i : Int)) % 65536 := by rw [← hc]; rfl
  have wi0 : IntKind.i64.wrap (65530 + (i : Int)) = 65530 + (i : Int) := IntWalk.i64_in _ ⟨by omega, by omega⟩
  have hc1 : ((65530 : Int) + (i : Int)).tmod 65536 = c := by rw [Int.tmod_eq_emod_of_nonneg (by omega), hcv]
  have hc2 : ((65530 : Int) + (i : Int)) % 65536 = c := hcv.symm
  have wc' : IntKind.i64.wrap c = c := IntWalk.i64_in _ ⟨by omega, by omega⟩
  have wn1 : IntKind.i64.wrap n1 = n1 := IntWalk.i64_in _ ⟨by omega, by omega⟩
  have wx' : IntKind.i64.wrap x = x := IntWalk.i64_in _ ⟨by omega, by omega⟩
  have wy' : IntKind.i64.wrap y = y := IntWalk.i64_in _ ⟨by omega, by omega⟩
  have wz' : IntKind.i64.wrap z = z := IntWalk.i64_in _ ⟨by omega, by omega⟩
  have hgd : GoodT n1 c (i : Nat) x y z := by constructor <;> (try omega)
  have hft : FitT n1 c (i : Nat) x y z := by constructor <;> (try omega)
  have himI : (i : Int) < (om : Int) := by omega
  have KE : Hid (∀ w1 : World, Calls Tryz.prog 32 #[.agg #[.int .i64 n1, .int .i64 c, .int .i64 (i : Nat), .int .i64 x, .int .i64 y, .int .i64 z]] w1 fun e w' => e = .returned (.tuple #[.agg ((frame n1 c (i : Nat) x y z).map (Value.int .u8)).toArray, .int .i64 0]) ∧ Below w1.heap.size w1 w') := Lib.hid fun w1 => encode_any n1 c (i : Nat) x y z hgd w1
  have KD : Hid (∀ w1 : World, Calls Tryz.prog 33 #[.agg ((frame n1 c (i : Nat) x y z).map (Value.int .u8)).toArray] w1 fun e w' => e = .returned (.tuple #[.agg #[.int .i64 n1, .int .i64 c, .int .i64 (i : Nat), .int .i64 x, .int .i64 y, .int .i64 z], .int .i64 0]) ∧ Below w1.heap.size w1 w') := Lib.hid fun w1 => decode_any n1 c (i : Nat) x y z hgd w1
  have HGD := Lib.hid hgd
  have HFT := Lib.hid hft
  have hiF : (Tryz.prog.info? 80).map (·.size) = some ((frame n1 c (i : Nat) x y z).map (Value.int .u8)).toArray.size := hif24 (frame n1 c (i : Nat) x y z) rfl
  have hzF : (List.replicate 24 (Value.int .u8 0)).toArray.size = ((frame n1 c (i : Nat) x y z).map (Value.int .u8)).toArray.size := size24Z (frame n1 c (i : Nat) x y z) rfl
  have hoF : ∀ v ∈ ((frame n1 c (i : Nat) x y z).map (Value.int .u8)).toArray.toList, v.oneCell' = true := fun v hv => one_byts (frame n1 c (i : Nat) x y z) v (by simpa using hv)
  have HOF := Lib.hid hoF
  obtain ⟨FA, hFA⟩ : ∃ FA, ((frame n1 c (i : Nat) x y z).map (Value.int .u8)).toArray = FA := ⟨_, rfl⟩
  rw [hFA] at KE KD hiF hzF HOF
  have HFA := Lib.hid hFA
  have HQ := Lib.hid hQ
  have H10 := Lib.hid h10
  have H11 := Lib.hid h11
  have H13 := Lib.hid h13
  have HBW := Lib.hid hBW
  have BNH := Lib.hid hbn'
  have HBN := Lib.hid hbn
  have HT := Lib.hid ht
  have HN := Lib.hid (And.intro hn2 hn3)
  have lbn := lt_of_blk hbn'
  clear hQ h10 h11 h13 hBW hbn hbn' ht hn2 hn3 hoF hFA hcv hc hgd hft ho0 ho1 ho2
  have K0 : Hid (Kp wr (wr.alloc (.cells #[.int .i16 0, .int .i16 0, .int .i16 0] 75)) [(wr.heap.size, .cells #[.int .i16 0, .int .i16 0, .int .i16 0] 75 (0, 0))]) := Lib.hid ((Kp.none wr).alloc _)
  have K1 : Hid (Kp wr ((wr.alloc (.cells #[.int .i16 0, .int .i16 0, .int .i16 0] 75)).setRow wr.heap.size #[.int .i16 x, .int .i16 y, .int .i16 z]) [(wr.heap.size, .cells #[.int .i16 x, .int .i16 y, .int .i16 z] 75 (0, 0))]) := Lib.hid ((Kp.none wr).stored _ _ 75)
  go_upto_region 17 with (refine wpList_store_row rfl 75 (.tmp 15) (.tmp 81) rfl wr.heap.size rfl #[.int .i16 x, .int .i16 y, .int .i16 z] rfl 75 #[.int .i16 0, .int .i16 0, .int .i16 0] (K0.out.2 _ (.head _)) (by rfl) (by kernel_rfl) (by simp [Value.oneCell']) ?_)
  obtain ⟨W1, hW1⟩ : ∃ W1, (wr.alloc (.cells #[.int .i16 0, .int .i16 0, .int .i16 0] 75)).setRow wr.heap.size #[.int .i16 x, .int .i16 y, .int .i16 z] = W1 := ⟨_, rfl⟩
  have k1 := K1.out
  rw [hW1] at k1 ⊢
  clear K0 K1 hW1 o0 o1 o2
  have bn1 := (k1.1.block Bn lbn).trans BNH.out
  obtain ⟨n0', n1', n2', n3'⟩ := cells4 bn1
  obtain ⟨x0, x1, x2⟩ := cells3 (k1.2 _ (.head _))
  have KA := Lib.hid k1
  have K0 : Hid (Kp wr (W1.alloc (.cells #[.int .i64 0, .int .i64 0, .int .i64 0, .int .i64 0, .int .i64 0, .int .i64 0] 79)) ((W1.heap.size, .cells #[.int .i64 0, .int .i64 0, .int .i64 0, .int .i64 0, .int .i64 0, .int .i64 0] 79 (0, 0)) :: [(wr.heap.size, .cells #[.int .i16 x, .int .i16 y, .int .i16 z] 75 (0, 0))])) := Lib.hid (k1.alloc _)
  have K1 : Hid (Kp wr ((W1.alloc (.cells #[.int .i64 0, .int .i64 0, .int .i64 0, .int .i64 0, .int .i64 0, .int .i64 0] 79)).setRow W1.heap.size #[.int .i64 n1, .int .i64 c, .int .i64 (i : Nat), .int .i64 x, .int .i64 y, .int .i64 z]) ((W1.heap.size, .cells #[.int .i64 n1, .int .i64 c, .int .i64 (i : Nat), .int .i64 x, .int .i64 y, .int .i64 z] 79 (0, 0)) :: [(wr.heap.size, .cells #[.int .i16 x, .int .i16 y, .int .i16 z] 75 (0, 0))])) := Lib.hid (k1.stored _ _ 79)
  clear k1 bn1
  go_upto_region 18 with (refine wpList_store_row rfl 79 (.tmp 16) (.tmp 99) rfl W1.heap.size rfl #[.int .i64 n1, .int .i64 c, .int .i64 (i : Nat), .int .i64 x, .int .i64 y, .int .i64 z] rfl 79 #[.int .i64 0, .int .i64 0, .int .i64 0, .int .i64 0, .int .i64 0, .int .i64 0] (K0.out.2 _ (.head _)) (by rfl) (by kernel_rfl) (by simp [Value.oneCell']) ?_)
  obtain ⟨W2, hW2⟩ : ∃ W2, (W1.alloc (.cells #[.int .i64 0, .int .i64 0, .int .i64 0, .int .i64 0, .int .i64 0, .int .i64 0] 79)).setRow W1.heap.size #[.int .i64 n1, .int .i64 c, .int .i64 (i : Nat), .int .i64 x, .int .i64 y, .int .i64 z] = W2 := ⟨_, rfl⟩
  have k2 := K1.out
  rw [hW2] at k2 ⊢
  obtain ⟨B16, hB16⟩ : ∃ B, W1.heap.size = B := ⟨_, rfl⟩
  rw [hB16] at k2 ⊢
  have K2 := Lib.hid (k2.subs (m := [(B16, .cells #[.int .i64 n1, .int .i64 c, .int .i64 (i : Nat), .int .i64 x, .int .i64 y, .int .i64 z] 79 (0, 0))]) fun p hp => by
    rcases List.mem_cons.1 hp with rfl | hp
    · exact .head _
    · nomatch hp)
  clear K0 K1 KA k2 hW2 hB16 n0' n1' n2' n3' x0 x1 x2
  go_upto_region 19 with (first
    | (refine wpList_load_row rfl 79 (.tmp 16) rfl B16 rfl 79 _ (0, 0) _ (K2.out.2 _ (.head _)) Tryz.underlying79 rfl (by kernel_rfl) ?_)
    | (go_at_call 32; refine (KE.out _).mono ?_; rintro e w3 ⟨rfl, hb3⟩;
       have K3 := Lib.hid ((K2.out.call hb3).alloc (.cells (List.replicate 24 (Value.int .u8 0)).toArray 80));
       have K4 := Lib.hid ((K2.out.call hb3).stored (List.replicate 24 (Value.int .u8 0)).toArray FA 80); clear hb3)
    | (refine wpList_store_row rfl 80 (.tmp 17) (.tmp 103) rfl w3.heap.size rfl FA rfl 80 (List.replicate 24 (Value.int .u8 0)).toArray (K3.out.2 _ (.head _)) hzF hiF (fun v hv => HOF.out v hv) ?_))
  obtain ⟨W4, hW4⟩ : ∃ W4, (w3.alloc (.cells (List.replicate 24 (Value.int .u8 0)).toArray 80)).setRow w3.heap.size FA = W4 := ⟨_, rfl⟩
  have k4 := K4.out
  rw [hW4] at k4
  simp only [List.replicate] at hW4
  rw [hW4]
  obtain ⟨B17, hB17⟩ : ∃ B, w3.heap.size = B := ⟨_, rfl⟩
  rw [hB17] at k4 ⊢
  have KX := Lib.hid k4
  clear K2 K3 K4 k4 hW4 hB17
  go_upto_region 20 with (first
    | (refine wpList_load_row rfl 80 (.tmp 17) rfl B17 rfl 80 _ (0, 0) _ (KX.out.2 _ (.head _)) Tryz.underlying80 rfl hiF ?_)
    | (go_at_call 33; refine (KD.out _).mono ?_; rintro e w5 ⟨rfl, hb5⟩;
       have K5 := Lib.hid ((KX.out.call hb5).alloc (.cells #[.int .i64 0, .int .i64 0, .int .i64 0, .int .i64 0, .int .i64 0, .int .i64 0] 79));
       have K6 := Lib.hid ((KX.out.call hb5).stored #[.int .i64 0, .int .i64 0, .int .i64 0, .int .i64 0, .int .i64 0, .int .i64 0] #[.int .i64 n1, .int .i64 c, .int .i64 (i : Nat), .int .i64 x, .int .i64 y, .int .i64 z] 79); clear hb5)
    | (refine wpList_store_row rfl 79 (.tmp 19) (.tmp 108) rfl w5.heap.size rfl #[.int .i64 n1, .int .i64 c, .int .i64 (i : Nat), .int .i64 x, .int .i64 y, .int .i64 z] rfl 79 #[.int .i64 0, .int .i64 0, .int .i64 0, .int .i64 0, .int .i64 0, .int .i64 0] (K5.out.2 _ (.head _)) (by rfl) (by kernel_rfl) (by simp [Value.oneCell']) ?_))
  obtain ⟨W6, hW6⟩ : ∃ W6, (w5.alloc (.cells #[.int .i64 0, .int .i64 0, .int .i64 0, .int .i64 0, .int .i64 0, .int .i64 0] 79)).setRow w5.heap.size #[.int .i64 n1, .int .i64 c, .int .i64 (i : Nat), .int .i64 x, .int .i64 y, .int .i64 z] = W6 := ⟨_, rfl⟩
  have k6 := K6.out
  rw [hW6] at k6 ⊢
  obtain ⟨B19, hB19⟩ : ∃ B, w5.heap.size = B := ⟨_, rfl⟩
  rw [hB19] at k6 ⊢
  have K7 := Lib.hid k6
  clear K5 K6 KX hW6 hB19 k6
  have e0 : W6.cell? ⟨B19, 0, none⟩ = some (.int .i64 n1) := by rw [cell_of_row _ _ 0 _ _ (0, 0) (K7.out.2 _ (.head _))]; rfl
  have e1 : W6.cell? ⟨B19, 1, none⟩ = some (.int .i64 c) := by rw [cell_of_row _ _ 1 _ _ (0, 0) (K7.out.2 _ (.head _))]; rfl
  have e2 : W6.cell? ⟨B19, 2, none⟩ = some (.int .i64 (i : Nat)) := by rw [cell_of_row _ _ 2 _ _ (0, 0) (K7.out.2 _ (.head _))]; rfl
  have e3 : W6.cell? ⟨B19, 3, none⟩ = some (.int .i64 x) := by rw [cell_of_row _ _ 3 _ _ (0, 0) (K7.out.2 _ (.head _))]; rfl
  have e4 : W6.cell? ⟨B19, 4, none⟩ = some (.int .i64 y) := by rw [cell_of_row _ _ 4 _ _ (0, 0) (K7.out.2 _ (.head _))]; rfl
  have e5 : W6.cell? ⟨B19, 5, none⟩ = some (.int .i64 z) := by rw [cell_of_row _ _ 5 _ _ (0, 0) (K7.out.2 _ (.head _))]; rfl
  have f0 : W6.cell? ⟨B16, 0, none⟩ = some (.int .i64 n1) := by rw [cell_of_row _ _ 0 _ _ (0, 0) (K7.out.2 _ (.tail _ (.tail _ (.head _))))]; rfl
  have f1 : W6.cell? ⟨B16, 1, none⟩ = some (.int .i64 c) := by rw [cell_of_row _ _ 1 _ _ (0, 0) (K7.out.2 _ (.tail _ (.tail _ (.head _))))]; rfl
  have f2 : W6.cell? ⟨B16, 2, none⟩ = some (.int .i64 (i : Nat)) := by rw [cell_of_row _ _ 2 _ _ (0, 0) (K7.out.2 _ (.tail _ (.tail _ (.head _))))]; rfl
  have f3 : W6.cell? ⟨B16, 3, none⟩ = some (.int .i64 x) := by rw [cell_of_row _ _ 3 _ _ (0, 0) (K7.out.2 _ (.tail _ (.tail _ (.head _))))]; rfl
  have f4 : W6.cell? ⟨B16, 4, none⟩ = some (.int .i64 y) := by rw [cell_of_row _ _ 4 _ _ (0, 0) (K7.out.2 _ (.tail _ (.tail _ (.head _))))]; rfl
  have f5 : W6.cell? ⟨B16, 5, none⟩ = some (.int .i64 z) := by rw [cell_of_row _ _ 5 _ _ (0, 0) (K7.out.2 _ (.tail _ (.tail _ (.head _))))]; rfl
  go_upto_if 120 with fail
  clear e0 e1 e2 e3 e4 e5 f0 f1 f2 f3 f4 f5
  go_cut [] from 79 to 120 (fun wc => Kp wr wc [(B19, .cells #[.int .i64 n1, .int .i64 c, .int .i64 (i : Nat), .int .i64 x, .int .i64 y, .int .i64 z] 79 (0, 0)), (B17, .cells FA 80 (0, 0)), (B16, .cells #[.int .i64 n1, .int .i64 c, .int .i64 (i : Nat), .int .i64 x, .int .i64 y, .int .i64 z] 79 (0, 0))])
  case first =>
    go_wp2_with fail
    go_meet
    exact K7.out
  case rest =>
    rename_i hK
    have K8 := Lib.hid hcut
    clear hcut K7 KE KD
    refine hK _ _ ?_
    clear hK
    have hE := K8.out.1
    have e17 := K8.out.2 _ (.tail _ (.head _))
    have e16 := K8.out.2 _ (.tail _ (.tail _ (.head _)))
    dsimp only at e17 e16
    rw [← HFA.out] at e17
    refine found22 W0 N0 hN0 k i hi8 ⟨n1, c, (i : Nat), x, y, z⟩ L hL S10 S11 g10 n10 c10 g11 n11 c11 hn10 hn11 hg v13 HGD.out HFT.out n0 n1 n2 n3 HN.out.1 HN.out.2 Bn HBN.out B16 B17 _ Q _ _ _ _ _ _ _ _ _ _ _ _ _ _ _ _ _ _ _ _ _ _ _ _ _ _ _ _ _ _ _ _ _ _ _ _ _ _ _ _ _ _ _ _ _ _ _ _ _ _ _ _ _ _ _ _ _ _ _ _ _ _ _ _ _ _ _ _ _ _ _ _ _ _ _ _ _ _ _ _ _ _ _ _ _ _ _ _ _ _ _ _ _ _ _ _ _ _ _ _ _ _ _ _ _ _ _ _ _ _ _ _ _ _ _ _ _ _ _ _ _ _ _ _ _ _ _ _ _ _ _ _ _ _ _ _ _ _ _ _ _ _ _ _ _ _ _ _ _ _ _ _ _ _ _ _ _ _ _ _ _ _ _ _ _ _ _ _ _ _ _ _ _ _ _ _ _ _ _ _ _ _ _ _ _ _ _ _ _ _ _ _ _ _ _ _ _ _ _ _ _ _ _ _ _ _ _ _ _ _ _ _ _ _ _ _ _ _ _ _ _ _ _ _ _ _ _ _ _ _ _ _ _ _ _ _ _ _ _ _ _ _ _ _ _ _ _ _ _ _ _ _ _ _ _ _ _ _ _ _ _ _ (HBW.out.trans (hE.mono hNz)) (owns_kept H10.out hE (Nat.le_refl _)) (owns_kept H11.out hE (Nat.le_refl _)) (owns_kept H13.out hE (Nat.le_refl _)) e17 e16 ?_
    intro w' g10' c10' g11' c11' v13' v6 v21 v22 v23 v24 v121 v122 v123 v124 v125 v126 v127 v128 v129 v130 v131 v132 v133 v134 v135 v136 v137 v138 v139 v140 v141 v142 v143 v144 v145 v146 v147 v148 v149 v150 v151 v152 v153 v154 v155 v156 v157 v158 v159 q1 q2 q3 q4 q5
    have hh := HT.out
    rw [← hh] at q3 q4 q5
    exact HQ.out _ _ _ _ _ _ _ _ _ _ _ _ _ _ _ _ _ _ _ _ _ _ _ _ _ _ _ _ _ _ _ _ _ _ _ _ _ _ _ _ _ _ _ _ _ _ _ _ _ _ _ _ _ _ _ _ _ _ _ _ _ _ _ _ _ _ _ _ _ _ _ _ _ _ _ _ _ _ _ _ _ _ _ _ _ _ _ _ _ _ _ _ _ _ _ _ _ _ _ q1 q2 q3 q4 q5
end Go.Proofs.YtfpagmalblmnkaaGreatDoor

/-
  LightFound: its loop over the orders, and what lies ahead of it.
-/
namespace Go.Proofs.YtfpagmalblmnkaaGreatDoor
open Go.RowKit Go.Shelf
set_option linter.unusedVariables false
set_option linter.unusedSimpArgs false

/-- The telegrams of the orders. -/
def ordT (n1 : Int) (ox oy oz : Nat → Int) (i : Nat) : Tel := ⟨n1, ctr i, (i : Nat), ox i, oy i, oz i⟩
def ordL (n1 : Int) (ox oy oz : Nat → Int) (m : Nat) : List Tel := (List.range m).map (ordT n1 ox oy oz)
theorem ordL_get {n1 : Int} {ox oy oz : Nat → Int} {m i : Nat} (h : i < m) : (ordL n1 ox oy oz m)[i]?.getD tel0 = ordT n1 ox oy oz i := by
  unfold ordL; rw [List.getElem?_map, List.getElem?_range h]; rfl
theorem ordL_sent {n1 : Int} {ox oy oz : Nat → Int} {m : Nat} (hm : m < 9) (hn1 : 0 ≤ n1 ∧ n1 ≤ 255) (hor : ∀ i, i < m → (-32768 ≤ ox i ∧ ox i ≤ 32767) ∧ (-32768 ≤ oy i ∧ oy i ≤ 32767) ∧ (-32768 ≤ oz i ∧ oz i ≤ 32767)) : SentL m n1 (ordL n1 ox oy oz m) := by
  refine ⟨by simp [ordL], fun t ht => ?_, fun t ht => ?_, fun i hi => by rw [ordL_get hi]; rfl⟩
  · obtain ⟨i, hi, rfl⟩ := List.mem_map.1 ht
    have him := List.mem_range.1 hi
    have h := hor i him
    have hc : 0 ≤ ctr i ∧ ctr i ≤ 65535 := by unfold ctr; omega
    unfold Tel.Good ordT
    constructor <;> dsimp only <;> omega
  · obtain ⟨i, _, rfl⟩ := List.mem_map.1 ht
    rfl
theorem ordL_take {n1 : Int} {ox oy oz : Nat → Int} {m i : Nat} (h : i < m) : (ordL n1 ox oy oz m).take (i + 1) = (ordL n1 ox oy oz m).take i ++ [ordT n1 ox oy oz i] := by
  rw [List.take_add_one]
  congr 1
  unfold ordL
  rw [List.getElem?_map, List.getElem?_range h]; rfl
theorem cutL_succ {n1 : Int} {ox oy oz : Nat → Int} {m k i : Nat} (h : i < m) : cutL (i + 1) k (ordL n1 ox oy oz m) = cutL i k (ordL n1 ox oy oz m) ++ (if i = k then [] else [ordT n1 ox oy oz i]) := by
  unfold cutL
  rw [keptI_succ, List.map_append]
  congr 1
  by_cases e : i = k
  · rw [if_neg (by simpa using e), if_pos e]; rfl
  · rw [if_pos e, if_neg e, List.map_cons, List.map_nil, ordL_get h]
theorem joined_app (a b : List Tel) : joined (a ++ b) = joined a ++ joined b := by unfold joined; rw [List.flatMap_append]
theorem joined_one (t : Tel) : joined [t] = t.frame := by simp [joined]
theorem joined_in {ts : List Tel} (hg : ∀ t ∈ ts, t.Good) : ∀ v ∈ joined ts, 0 ≤ v ∧ v ≤ 255 := by
  intro v hv
  obtain ⟨t, ht, h⟩ := List.mem_flatMap.1 hv
  exact (frame24 t (hg t ht)).2 v h

set_option maxRecDepth 1000000 in
set_option maxHeartbeats 25600000 in
theorem found14 (w W0 : World) (N0 : Nat) (hN0 : N0 = W0.heap.size) (hwW : Below w.heap.size w W0) (ht : TabAt w) (m : Nat) (hm1 : 1 ≤ m) (hm : m < 9) (ox oy oz : Nat → Int) (ob oo oc : Nat) (hob : ob < N0) (hor : ∀ i, i < m → ((-32768 ≤ ox i ∧ ox i ≤ 32767) ∧ (-32768 ≤ oy i ∧ oy i ≤ 32767) ∧ (-32768 ≤ oz i ∧ oz i ≤ 32767)) ∧ W0.cell? ⟨ob, oo + i * 3, none⟩ = some (.int .i16 (ox i)) ∧ W0.cell? ⟨ob, oo + i * 3 + 1, none⟩ = some (.int .i16 (oy i)) ∧ W0.cell? ⟨ob, oo + i * 3 + 2, none⟩ = some (.int .i16 (oz i)))
    (n0 n1 n2 n3 : Int) (hn0 : 0 ≤ n0 ∧ n0 ≤ 255) (hn1 : 0 ≤ n1 ∧ n1 ≤ 255) (hn2 : 0 ≤ n2 ∧ n2 ≤ 255) (hn3 : 0 ≤ n3 ∧ n3 ≤ 255) (Bn : Nat) (hwn : w.heap.size ≤ Bn) (hbn : W0.heap[Bn]? = some (.cells #[.int .u8 n0, .int .u8 n1, .int .u8 n2, .int .u8 n3] 72 (0, 0))) (Bs : List Int) (hB : ∀ v ∈ Bs, v ≠ 77 ∧ 0 ≤ v ∧ v ≤ 255) (nb : Nat) (hnb : Bs.length = nb) (hB20 : nb ≤ 20) (a7 : Option Addr) (c7 : Nat) (k : Nat) (hk : k < m) (g10 c10 g11 c11 : Nat) (hg : g10 ≠ g11) (wr : World) (u1 u2 u3 u4 u6 u8 u9 u14 u15 u16 u17 u18 u19 u20 u21 u22 u23 u24 u25 u26 u27 u28 u29 u30 u31 u32 u33 u34 u35 u36 u37 u38 u39 u40 u41 u42 u43 u44 u45 u46 u47 u48 u49 u50 u51 u52 u53 u54 u55 u56 u57 u58 u59 u60 u61 u62 u63 u64 u65 u66 u67 u68 u69 u70 u71 u72 u73 u74 u75 u76 u77 u78 u79 u80 u81 u82 u83 u84 u85 u86 u87 u88 u89 u90 u91 u92 u93 u94 u95 u96 u97 u98 u99 u100 u101 u102 u103 u104 u105 u106 u107 u108 u109 u110 u111 u112 u113 u114 u115 u116 u117 u118 u119 u120 u121 u122 u123 u124 u125 u126 u127 u128 u129 u130 u131 u132 u133 u134 u135 u136 u137 u138 u139 u140 u141 u142 u143 u144 u145 u146 u147 u148 u149 u150 u151 u152 u153 u154 u155 u156 u157 u158 u159 u160 u161 u162 u163 u164 u165 u166 u167 u168 u169 u170 u171 u172 u173 u174 u175 u176 u177 u178 u179 u180 u181 u182 u183 u184 u185 u186 u187 u188 u189 u190 u191 u192 u193 u194 u195 u196 u197 u198 u199 u200 u201 u202 u203 u204 u205 u206 u207 u208 u209 u210 u211 u212 u213 u214 u215 u216 u217 u218 u219 u220 u221 u222 u223 u224 u225 u226 u227 u228 u229 u230 u231 u232 u233 u234 u235 u236 u237 u238 u239 u240 u241 u242 u243 u244 u245 u246 u247 u248 u249 u250 u251 u252 u253 u254 u255 u256 u257 u258 u259 u260 u261 u262 u263 u264 u265 u266 u267 u268 u269 u270 : Value)
    (hBW : Below N0 W0 wr) (h10 : wr.ownsRow N0 5 1 (.slice (some ⟨g10, 0, none⟩) nb c10) nb ((Bs).map (Value.int .u8))) (h11 : wr.ownsRow N0 5 1 (.slice (some ⟨g11, 0, none⟩) nb c11) nb ((Bs).map (Value.int .u8))) :
    Code.wp Tryz.prog (cutF 14) (bodyPost Tryz.prog Tryz.f6 (TruePost w)) ⟨#[.slice (some ⟨ob, oo, none⟩) m oc, u1, u2, u3, u4, .pointer (some ⟨Bn, 0, none⟩), u6, .slice a7 nb c7, u8, u9, .slice (some ⟨g10, 0, none⟩) nb c10, .slice (some ⟨g11, 0, none⟩) nb c11, .int .i64 (k : Nat), .slice none 0 0, u14, u15, u16, u17, u18, u19, u20, u21, u22, u23, u24, u25, u26, u27, u28, u29, u30, u31, u32, u33, u34, u35, u36, u37, u38, u39, u40, u41, u42, u43, u44, u45, u46, u47, u48, u49, u50, u51, u52, u53, u54, u55, u56, u57, u58, u59, u60, u61, u62, u63, u64, u65, u66, u67, u68, u69, u70, u71, u72, u73, u74, u75, u76, u77, u78, u79, u80, u81, u82, u83, u84, u85, u86, u87, u88, u89, u90, u91, u92, u93, u94, u95, u96, u97, u98, u99, u100, u101, u102, u103, u104, u105, u106, u107, u108, u109, u110, u111, u112, u113, u114, u115, u116, u117, u118, u119, u120, u121, u122, u123, u124, u125, u126, u127, u128, u129, u130, u131, u132, u133, u134, u135, u136, u137, u138, u139, u140, u141, u142, u143, u144, u145, u146, u147, u148, u149, u150, u151, u152, u153, u154, u155, u156, u157, u158, u159, u160, u161, u162, u163, u164, u165, u166, u167, u168, u169, u170, u171, u172, u173, u174, u175, u176, u177, u178, u179, u180, u181, u182, u183, u184, u185, u186, u187, u188, u189, u190, u191, u192, u193, u194, u195, u196, u197, u198, u199, u200, u201, u202, u203, u204, u205, u206, u207, u208, u209, u210, u211, u212, u213, u214, u215, u216, u217, u218, u219, u220, u221, u222, u223, u224, u225, u226, u227, u228, u229, u230, u231, u232, u233, u234, u235, u236, u237, u238, u239, u240, u241, u242, u243, u244, u245, u246, u247, u248, u249, u250, u251, u252, u253, u254, u255, u256, u257, u258, u259, u260, u261, u262, u263, u264, u265, u266, u267, u268, u269, u270], []⟩ wr := by
  conv => arg 2; whnf
  dsimp only
  obtain ⟨ts, hts⟩ : ∃ ts, ordL n1 ox oy oz m = ts := ⟨_, rfl⟩
  have hS : SentL m n1 ts := by rw [← hts]; exact ordL_sent hm hn1 (fun i hi => (hor i hi).1)
  have HBW := Lib.hid hBW
  have H10 := Lib.hid h10
  have H11 := Lib.hid h11
  have HS := Lib.hid hS
  have HOR := Lib.hid hor
  have HTS := Lib.hid hts
  clear hBW h10 h11 hS hor hts
  go_upto_block 2 with fail
  go_cut [10, 11, 13] from 14 to 160 (fun s10 s11 s13 wc => ∃ (g10 n10 c10 g11 n11 c11 g13 c13 : Nat), s10 = .slice (some ⟨g10, 0, none⟩) n10 c10 ∧ s11 = .slice (some ⟨g11, 0, none⟩) n11 c11 ∧ s13 = .slice (some ⟨g13, 0, none⟩) m c13 ∧ wc.ownsRow N0 5 1 (.slice (some ⟨g10, 0, none⟩) n10 c10) n10 ((Bs ++ joined ts).map (Value.int .u8)) ∧ wc.ownsRow N0 5 1 (.slice (some ⟨g11, 0, none⟩) n11 c11) n11 ((Bs ++ joined (cutL m k ts)).map (Value.int .u8)) ∧ wc.ownsRow N0 79 6 (.slice (some ⟨g13, 0, none⟩) m c13) m (ts.flatMap Tel.val) ∧ Below N0 W0 wc)
  case first =>
    go_wp2_with fail
    go_loopw [10, 11, 13, 77] (fun s10 s11 s13 s77 wy => ∃ (i g10 n10 c10 g11 n11 c11 : Nat), i ≤ m ∧ s77 = .int .i64 i ∧ s10 = .slice (some ⟨g10, 0, none⟩) n10 c10 ∧ s11 = .slice (some ⟨g11, 0, none⟩) n11 c11 ∧ g10 ≠ g11 ∧ wy.ownsRow N0 5 1 (.slice (some ⟨g10, 0, none⟩) n10 c10) n10 ((Bs ++ joined (ts.take i)).map (Value.int .u8)) ∧ wy.ownsRow N0 5 1 (.slice (some ⟨g11, 0, none⟩) n11 c11) n11 ((Bs ++ joined (cutL i k ts)).map (Value.int .u8)) ∧ wy.ownsRow N0 79 6 s13 i ((ts.take i).flatMap Tel.val) ∧ Below N0 W0 wy) (fun _ _ _ iv _ => m - (intOf iv).toNat)
    case atStart => exact ⟨0, g10, nb, c10, g11, nb, c11, by omega, rfl, rfl, rfl, hg, by simpa [joined] using H10.out, by simpa [joined, cutL, keptI] using H11.out, ⟨rfl, .inl ⟨rfl, rfl⟩⟩, HBW.out⟩
    case round =>
      obtain ⟨i, g10', n10', c10', g11', n11', c11', him, rfl, rfl, rfl, hgi, r10, r11, r13, hbi⟩ := hrel
      have R10 := Lib.hid r10
      have R11 := Lib.hid r11
      have R13 := Lib.hid r13
      have RB := Lib.hid hbi
      have hl10 := r10.1
      have hl11 := r11.1
      rw [List.length_map, List.length_append, joined_len, List.length_take, HS.out.len, Nat.mul_one] at hl10
      rw [List.length_map, List.length_append, joined_len, Nat.mul_one] at hl11
      have hcl : (cutL i k ts).length ≤ i := by
        unfold cutL keptI
        rw [List.length_map]
        exact Nat.le_trans (List.length_filter_le _ _) (by simp)
      clear r10 r11 r13 hbi H10 H11
      by_cases hlt : i < m
      · have hltI : (i : Int) < (m : Int) := by omega
        obtain ⟨⟨b1, b2, b3⟩, c1, c2, c3⟩ := HOR.out i hlt
        have e1 := ordL_take (n1 := n1) (ox := ox) (oy := oy) (oz := oz) hlt
        have e2 := cutL_succ (n1 := n1) (ox := ox) (oy := oy) (oz := oz) (k := k) hlt
        rw [HTS.out] at e1 e2
        have E1 := Lib.hid e1
        have E2 := Lib.hid e2
        have n10b : n10' ≤ 1000 := by omega
        have n11b : n11' ≤ 1000 := by omega
        have hlt13 : (ts.take i).length = i := by rw [List.length_take, HS.out.len]; omega
        clear e1 e2 hl10 hl11 hcl
        go_upto_block 3 with fail
        refine wp_block ?_
        refine found16 W0 N0 hN0 k i (by omega) (ts.take i) hlt13 (Bs ++ joined (ts.take i)) (Bs ++ joined (cutL i k ts)) g10' n10' c10' g11' n11' c11' n10b n11b hgi _ (ox i) (oy i) (oz i) (ctr i) b1 b2 b3 rfl n0 n1 n2 n3 hn1 hn2 hn3 (ordT n1 ox oy oz i) rfl Bn hbn ob oo m oc hlt hob c1 c2 c3 _ _ _ _ _ _ _ _ _ _ _ _ _ _ _ _ _ _ _ _ _ _ _ _ _ _ _ _ _ _ _ _ _ _ _ _ _ _ _ _ _ _ _ _ _ _ _ _ _ _ _ _ _ _ _ _ _ _ _ _ _ _ _ _ _ _ _ _ _ _ _ _ _ _ _ _ _ _ _ _ _ _ _ _ _ _ _ _ _ _ _ _ _ _ _ _ _ _ _ _ _ _ _ _ _ _ _ _ _ _ _ _ _ _ _ _ _ _ _ _ _ _ _ _ _ _ _ _ _ _ _ _ _ _ _ _ _ _ _ _ _ _ _ _ _ _ _ _ _ _ _ _ _ _ _ _ _ _ _ _ _ _ _ _ _ _ _ _ _ _ _ _ _ _ _ _ _ _ _ _ _ _ _ _ _ _ _ _ _ _ _ _ _ _ _ _ _ _ _ _ _ _ _ _ _ _ _ _ _ _ _ _ _ _ _ _ _ _ _ _ _ _ _ _ _ _ _ _ _ _ _ _ _ _ _ _ _ _ _ _ _ _ _ _ _ _ _ _ _ _ _ _ _ _ _ _ _ _ _ _ _ _ _ _ _ _ RB.out R10.out R11.out R13.out ?_
        intro w' g10q c10q g11q c11q v13q v6 v14 v15 v16 v17 v18 v19 v20 v21 v22 v23 v24 v79 v80 v81 v82 v83 v84 v85 v86 v87 v88 v89 v90 v91 v92 v93 v94 v95 v96 v97 v98 v99 v100 v101 v102 v103 v104 v105 v106 v107 v108 v109 v110 v111 v112 v113 v114 v115 v116 v117 v118 v119 v120 v121 v122 v123 v124 v125 v126 v127 v128 v129 v130 v131 v132 v133 v134 v135 v136 v137 v138 v139 v140 v141 v142 v143 v144 v145 v146 v147 v148 v149 v150 v151 v152 v153 v154 v155 v156 v157 v158 v159 q1 q2 q3 q4 q5
        have Q1 := Lib.hid q1
        have Q2 := Lib.hid q2
        have q3' : w'.ownsRow N0 5 1 (.slice (some ⟨g10q, 0, none⟩) (n10' + 24) c10q) (n10' + 24) ((Bs ++ joined (ts.take (i + 1))).map (Value.int .u8)) := by
          rw [E1.out, joined_app, joined_one, ← List.append_assoc]; exact q3
        have q4' : w'.ownsRow N0 5 1 (.slice (some ⟨g11q, 0, none⟩) (n11' + (if i = k then 0 else 24)) c11q) (n11' + (if i = k then 0 else 24)) ((Bs ++ joined (cutL (i + 1) k ts)).map (Value.int .u8)) := by
          rw [E2.out, joined_app, ← List.append_assoc]
          have e : joined (if i = k then [] else [ordT n1 ox oy oz i]) = if i = k then [] else (ordT n1 ox oy oz i).frame := by
            split
            · rfl
            · exact joined_one _
          rw [e]; exact q4
        have q5' : w'.ownsRow N0 79 6 v13q (i + 1) ((ts.take (i + 1)).flatMap Tel.val) := by rw [E1.out]; exact q5
        have Q3 := Lib.hid q3'
        have Q4 := Lib.hid q4'
        have Q5 := Lib.hid q5'
        clear q1 q2 q3 q4 q5 q3' q4' q5'
        go_wp2_with fail
        go_roundw
        case rel => exact ⟨i + 1, _, _, _, _, _, _, by omega, by go_num, rfl, rfl, Q2.out, Q3.out, Q4.out, Q5.out, Q1.out⟩
        case measure => simp [intOf]; omega
      · obtain rfl : i = m := by omega
        have r13 := R13.out
        have r10 := R10.out
        have htk : ts.take i = ts := List.take_of_length_le (by rw [HS.out.len]; omega)
        rw [htk] at r13 r10
        obtain ⟨g13, c13, rfl, _, _⟩ := owns_some r13 hm1
        go_wp2_with fail
        go_meet
        exact ⟨_, _, _, _, _, _, g13, c13, rfl, rfl, rfl, r10, R11.out, r13, RB.out⟩
  case rest =>
    rename_i hK
    obtain ⟨g10, n10, c10, g11, n11, c11, g13, c13, rfl, rfl, rfl, r10, r11, r13, hb⟩ := hcut
    refine hK _ _ ?_
    clear hK
    have hgood := HS.out.good
    have hgc : ∀ t ∈ cutL m k ts, t.Good := fun t ht' => hgood t (HS.out.cut_mem t ht')
    have v10 : BytesV (Bs ++ joined ts) n10 := ⟨by have h := r10.1; rwa [List.length_map, Nat.mul_one] at h, fun v hv => by
      rcases List.mem_append.1 hv with h | h
      · exact (hB v h).2
      · exact joined_in hgood v h⟩
    have v11 : BytesV (Bs ++ joined (cutL m k ts)) n11 := ⟨by have h := r11.1; rwa [List.length_map, Nat.mul_one] at h, fun v hv => by
      rcases List.mem_append.1 hv with h | h
      · exact (hB v h).2
      · exact joined_in hgc v h⟩
    obtain ⟨a1, cc1, e1, q1, _, A1⟩ := AnyBytes.of_row v10 r10
    obtain ⟨a2, cc2, e2, q2, _, A2⟩ := AnyBytes.of_row v11 r11
    obtain ⟨a3, cc3, e3, A3⟩ := AnyTels.of_row HS.out.len r13
    cases e1
    cases e2
    cases e3
    have hsW := hb.size
    have kn : Kp w wc [(Bn, (.cells #[.int .u8 n0, .int .u8 n1, .int .u8 n2, .int .u8 n3] 72 (0, 0)))] := ⟨hwW.trans (hb.mono (by rw [hN0]; exact hwW.size)), fun p hp => by
      rcases List.mem_cons.1 hp with rfl | hp
      · exact (hb.block Bn (by rw [hN0]; exact lt_of_blk hbn)).trans hbn
      · nomatch hp⟩
    exact found33 w m k hm hk n0 n1 n2 n3 hn1 Bn Bs (fun v hv => (hB v hv).1) (by omega) ts HS.out g13 c13 a7 nb c7 hnb ⟨g10, 0, none⟩ ⟨g11, 0, none⟩ n10 c10 n11 c11 q1 q2 _ ht _ _ _ _ _ _ _ _ _ _ _ _ _ _ _ _ _ _ _ _ _ _ _ _ _ _ _ _ _ _ _ _ _ _ _ _ _ _ _ _ _ _ _ _ _ _ _ _ _ _ _ _ _ _ _ _ _ _ _ _ _ _ _ _ _ _ _ _ _ _ _ _ _ _ _ _ _ _ _ _ _ _ _ _ _ _ _ _ _ _ _ _ _ _ _ _ _ _ _ _ _ _ _ _ _ _ _ _ _ _ _ _ _ _ _ _ _ _ _ _ _ _ _ _ _ _ _ _ _ _ _ _ _ _ _ _ _ _ _ _ _ _ _ _ _ _ _ _ _ _ _ _ _ _ _ _ _ _ _ _ _ _ _ _ _ _ _ _ _ _ _ _ _ _ _ _ _ _ _ _ _ _ _ _ _ _ _ _ _ _ _ _ _ _ _ _ _ _ _ _ _ _ _ _ _ _ _ _ _ _ _ _ _ _ _ _ _ _ _ _ _ _ _ _ _ _ _ _ _ _ _ _ _ _ _ _ _ _ _ _ _ _ _ _ _ _ _ _ _ _ _ _ _ _ _ _ _ _ _ _ _ _ _ _ _ kn A3 A1 A2
end Go.Proofs.YtfpagmalblmnkaaGreatDoor

/-
  LightFound: its walk from the noise on.
-/
namespace Go.Proofs.YtfpagmalblmnkaaGreatDoor
open Go.RowKit Go.Shelf
set_option linter.unusedVariables false
set_option linter.unusedSimpArgs false

theorem owns_mono {w : World} {B B' e sz n : Nat} {v : Value} {xs : List Value} (h : w.ownsRow B e sz v n xs) (hb : B' ≤ B) : w.ownsRow B' e sz v n xs :=
  ⟨h.1, h.2.imp id fun ⟨g, cap, cur, h1, h2, h3⟩ => ⟨g, cap, cur, h1, Nat.le_trans hb h2, h3⟩⟩

set_option maxRecDepth 1000000 in
set_option maxHeartbeats 25600000 in
theorem found10 (w W0 : World) (N0 : Nat) (hN0 : N0 = W0.heap.size) (hwW : Below w.heap.size w W0) (ht : TabAt w) (m : Nat) (hm1 : 1 ≤ m) (hm : m < 9) (ox oy oz : Nat → Int) (ob oo oc : Nat) (hob : ob < N0) (hor : ∀ i, i < m → ((-32768 ≤ ox i ∧ ox i ≤ 32767) ∧ (-32768 ≤ oy i ∧ oy i ≤ 32767) ∧ (-32768 ≤ oz i ∧ oz i ≤ 32767)) ∧ W0.cell? ⟨ob, oo + i * 3, none⟩ = some (.int .i16 (ox i)) ∧ W0.cell? ⟨ob, oo + i * 3 + 1, none⟩ = some (.int .i16 (oy i)) ∧ W0.cell? ⟨ob, oo + i * 3 + 2, none⟩ = some (.int .i16 (oz i)))
    (n0 n1 n2 n3 : Int) (hn0 : 0 ≤ n0 ∧ n0 ≤ 255) (hn1 : 0 ≤ n1 ∧ n1 ≤ 255) (hn2 : 0 ≤ n2 ∧ n2 ≤ 255) (hn3 : 0 ≤ n3 ∧ n3 ≤ 255) (Bn : Nat) (hwn : w.heap.size ≤ Bn) (hbn : W0.heap[Bn]? = some (.cells #[.int .u8 n0, .int .u8 n1, .int .u8 n2, .int .u8 n3] 72 (0, 0))) (Bs : List Int) (hB : ∀ v ∈ Bs, v ≠ 77 ∧ 0 ≤ v ∧ v ≤ 255) (nb : Nat) (hnb : Bs.length = nb) (hB20 : nb ≤ 20) (a7 : Option Addr) (c7 : Nat) (wr : World) (u1 u2 u3 u4 u6 u8 u9 u10 u11 u12 u13 u14 u15 u16 u17 u18 u19 u20 u21 u22 u23 u24 u25 u26 u27 u28 u29 u30 u31 u32 u33 u34 u35 u36 u37 u38 u39 u40 u41 u42 u43 u44 u45 u46 u47 u48 u49 u50 u51 u52 u53 u54 u55 u56 u57 u58 u59 u60 u61 u62 u63 u64 u65 u66 u67 u68 u69 u70 u71 u72 u73 u74 u75 u76 u77 u78 u79 u80 u81 u82 u83 u84 u85 u86 u87 u88 u89 u90 u91 u92 u93 u94 u95 u96 u97 u98 u99 u100 u101 u102 u103 u104 u105 u106 u107 u108 u109 u110 u111 u112 u113 u114 u115 u116 u117 u118 u119 u120 u121 u122 u123 u124 u125 u126 u127 u128 u129 u130 u131 u132 u133 u134 u135 u136 u137 u138 u139 u140 u141 u142 u143 u144 u145 u146 u147 u148 u149 u150 u151 u152 u153 u154 u155 u156 u157 u158 u159 u160 u161 u162 u163 u164 u165 u166 u167 u168 u169 u170 u171 u172 u173 u174 u175 u176 u177 u178 u179 u180 u181 u182 u183 u184 u185 u186 u187 u188 u189 u190 u191 u192 u193 u194 u195 u196 u197 u198 u199 u200 u201 u202 u203 u204 u205 u206 u207 u208 u209 u210 u211 u212 u213 u214 u215 u216 u217 u218 u219 u220 u221 u222 u223 u224 u225 u226 u227 u228 u229 u230 u231 u232 u233 u234 u235 u236 u237 u238 u239 u240 u241 u242 u243 u244 u245 u246 u247 u248 u249 u250 u251 u252 u253 u254 u255 u256 u257 u258 u259 u260 u261 u262 u263 u264 u265 u266 u267 u268 u269 u270 : Value)
    (hBW : Below N0 W0 wr) (h7 : wr.ownsRow N0 5 1 (.slice a7 nb c7) nb ((Bs).map (Value.int .u8))) :
    Code.wp Tryz.prog (cutF 10) (bodyPost Tryz.prog Tryz.f6 (TruePost w)) ⟨#[.slice (some ⟨ob, oo, none⟩) m oc, u1, u2, u3, u4, .pointer (some ⟨Bn, 0, none⟩), u6, .slice a7 nb c7, u8, u9, u10, u11, u12, u13, u14, u15, u16, u17, u18, u19, u20, u21, u22, u23, u24, u25, u26, u27, u28, u29, u30, u31, u32, u33, u34, u35, u36, u37, u38, u39, u40, u41, u42, u43, u44, u45, u46, u47, u48, u49, u50, u51, u52, u53, u54, u55, u56, u57, u58, u59, u60, u61, u62, u63, u64, u65, u66, u67, u68, u69, u70, u71, u72, u73, u74, u75, u76, u77, u78, u79, u80, u81, u82, u83, u84, u85, u86, u87, u88, u89, u90, u91, u92, u93, u94, u95, u96, u97, u98, u99, u100, u101, u102, u103, u104, u105, u106, u107, u108, u109, u110, u111, u112, u113, u114, u115, u116, u117, u118, u119, u120, u121, u122, u123, u124, u125, u126, u127, u128, u129, u130, u131, u132, u133, u134, u135, u136, u137, u138, u139, u140, u141, u142, u143, u144, u145, u146, u147, u148, u149, u150, u151, u152, u153, u154, u155, u156, u157, u158, u159, u160, u161, u162, u163, u164, u165, u166, u167, u168, u169, u170, u171, u172, u173, u174, u175, u176, u177, u178, u179, u180, u181, u182, u183, u184, u185, u186, u187, u188, u189, u190, u191, u192, u193, u194, u195, u196, u197, u198, u199, u200, u201, u202, u203, u204, u205, u206, u207, u208, u209, u210, u211, u212, u213, u214, u215, u216, u217, u218, u219, u220, u221, u222, u223, u224, u225, u226, u227, u228, u229, u230, u231, u232, u233, u234, u235, u236, u237, u238, u239, u240, u241, u242, u243, u244, u245, u246, u247, u248, u249, u250, u251, u252, u253, u254, u255, u256, u257, u258, u259, u260, u261, u262, u263, u264, u265, u266, u267, u268, u269, u270], []⟩ wr := by
  conv => arg 2; whnf
  dsimp only
  obtain ⟨i2, hk2, hxa, hxb, hxc⟩ := info_parts Tryz.infoByteX
  have hnil7 : a7 = none → nb = 0 ∧ c7 = 0 := fun e => by
    subst e
    rcases h7.2 with ⟨e1, _⟩ | ⟨g, cap, cur, e1, _⟩
    · cases e1; exact ⟨rfl, rfl⟩
    · cases e1
  have H7 := Lib.hid h7
  have HBW := Lib.hid hBW
  have HOR := Lib.hid hor
  clear h7 hBW hor
  go_upto_region 10 with fail
  go_cut [10] (fun s10 wc => ∃ g c, s10 = .slice (some ⟨g, 0, none⟩) nb c ∧ wc.ownsRow wr.heap.size 5 1 (.slice (some ⟨g, 0, none⟩) nb c) nb (Bs.map (Value.int .u8)) ∧ Below wr.heap.size wr wc)
  case first =>
      have hC0 : (wr.alloc (.cells #[] 5)).ownsRow wr.heap.size 5 1 (.slice (some ⟨wr.heap.size, 0, none⟩) 0 0) 0 [] := by
        have h := World.ownsRow_made (base := wr.heap.size) (e := 5) (size := 1) wr #[] 0 (by simp) (by unfold maxLen; omega) rfl
        simpa using h
      have HC0 := Lib.hid hC0
      have HB6 : Hid (Below wr.heap.size wr (wr.alloc (.cells #[] 5))) := Lib.hid ((Below.refl _ _).alloc (Nat.le_refl _) _)
      have HLN : Hid ((Bs.map (Value.int .u8)).length = nb * 1) := Lib.hid (by rw [List.length_map, hnb, Nat.mul_one])
      have HBZ : Hid (nb = 0 → Bs.map (Value.int .u8) = []) := Lib.hid fun e => by
        rw [List.eq_nil_of_length_eq_zero (by omega : Bs.length = 0)]; rfl
      have HNW : Hid (∀ ad, a7 = some ad → ∀ j u, (Bs.map (Value.int .u8))[j]? = some u → (wr.alloc (.cells #[] 5)).cell? (ad.add j) = some u) := Lib.hid fun ad e => by
        subst e
        obtain ⟨a', c', e', _, _, hA⟩ := AnyBytes.of_row (S := Bs) ⟨hnb, fun v hv => (hB v hv).2⟩ H7.out
        cases e'
        exact AnyBytes.news hA HB6.out
      clear hC0
      cases a7 with
      | none =>
        obtain ⟨hn0', hc0'⟩ := hnil7 rfl
        subst hn0' hc0'
        go_wp2_with (at_builtin; (refine wpList_append_own_none rfl (.tmp 63) (.tmp 64) 71 rfl wr.heap.size 5 i2 1 Tryz.underlying71 hk2 (.slice (some ⟨wr.heap.size, 0, none⟩) 0 0) 0 [] rfl HC0.out rfl ?_))
        go_meet
        exact ⟨wr.heap.size, 0, rfl, by rw [HBZ.out (by simp)]; exact HC0.out, HB6.out⟩
      | some ad =>
        go_wp2_with (first
          | (at_builtin; (refine wpList_append_own _ rfl (.tmp 63) (.tmp 64) 71 rfl wr.heap.size 5 i2 (.int .u8 0) 1 1 Tryz.underlying71 hk2 hxa hxb hxc rfl (by decide) (.slice (some ⟨wr.heap.size, 0, none⟩) 0 0) 0 [] rfl HC0.out ad nb c7 (Bs.map (Value.int .u8)) rfl HLN.out (HNW.out ad rfl) (one_byts _) (by unfold maxLen; omega) (by omega) (by simp) ?_); intro v6 w6 hO6 hG6 hnl6;
             have hb6 : Below wr.heap.size wr w6 := Below.grown HB6.out hG6 (by simp) (fun q hq => by cases hq; exact Nat.le_refl _);
             rw [Nat.zero_add, List.nil_append] at hO6))
        have hv6 : ∃ g cc, v6 = .slice (some ⟨g, 0, none⟩) nb cc := by
          rcases hO6.2 with ⟨e1, e2⟩ | ⟨g, cap, cur, e1, _⟩
          · exact absurd (hnl6.1 e1).1 (by simp)
          · exact ⟨g, cap, e1⟩
        obtain ⟨g6, cc6, rfl⟩ := hv6
        go_meet
        exact ⟨g6, cc6, rfl, hO6, hb6⟩
  case rest =>
    rename_i hK
    obtain ⟨g10, c10, rfl, hr10, hb10⟩ := hcut
    refine hK _ _ ?_
    clear hK
    have R10 := Lib.hid hr10
    have H7b := Lib.hid (owns_kept H7.out hb10 (Nat.le_refl _))
    have HBb : Hid (Below N0 W0 wc) := Lib.hid (HBW.out.trans (hb10.mono (by rw [hN0]; exact HBW.out.size)))
    have l10 := (hr10.lt g10 rfl)
    have hNr : N0 ≤ wr.heap.size := by rw [hN0]; exact HBW.out.size
    clear hr10 hb10 H7 HBW
    go_upto_region 11 with fail
    go_cut [11] (fun s11 wd => ∃ g c, s11 = .slice (some ⟨g, 0, none⟩) nb c ∧ wd.ownsRow wc.heap.size 5 1 (.slice (some ⟨g, 0, none⟩) nb c) nb (Bs.map (Value.int .u8)) ∧ Below wc.heap.size wc wd)
    case first =>
      have hC0 : (wc.alloc (.cells #[] 5)).ownsRow wc.heap.size 5 1 (.slice (some ⟨wc.heap.size, 0, none⟩) 0 0) 0 [] := by
        have h := World.ownsRow_made (base := wc.heap.size) (e := 5) (size := 1) wc #[] 0 (by simp) (by unfold maxLen; omega) rfl
        simpa using h
      have HC0 := Lib.hid hC0
      have HB6 : Hid (Below wc.heap.size wc (wc.alloc (.cells #[] 5))) := Lib.hid ((Below.refl _ _).alloc (Nat.le_refl _) _)
      have HLN : Hid ((Bs.map (Value.int .u8)).length = nb * 1) := Lib.hid (by rw [List.length_map, hnb, Nat.mul_one])
      have HBZ : Hid (nb = 0 → Bs.map (Value.int .u8) = []) := Lib.hid fun e => by
        rw [List.eq_nil_of_length_eq_zero (by omega : Bs.length = 0)]; rfl
      have HNW : Hid (∀ ad, a7 = some ad → ∀ j u, (Bs.map (Value.int .u8))[j]? = some u → (wc.alloc (.cells #[] 5)).cell? (ad.add j) = some u) := Lib.hid fun ad e => by
        subst e
        obtain ⟨a', c', e', _, _, hA⟩ := AnyBytes.of_row (S := Bs) ⟨hnb, fun v hv => (hB v hv).2⟩ H7b.out
        cases e'
        exact AnyBytes.news hA HB6.out
      clear hC0
      cases a7 with
      | none =>
        obtain ⟨hn0', hc0'⟩ := hnil7 rfl
        subst hn0' hc0'
        go_wp2_with (at_builtin; (refine wpList_append_own_none rfl (.tmp 66) (.tmp 67) 71 rfl wc.heap.size 5 i2 1 Tryz.underlying71 hk2 (.slice (some ⟨wc.heap.size, 0, none⟩) 0 0) 0 [] rfl HC0.out rfl ?_))
        go_meet
        exact ⟨wc.heap.size, 0, rfl, by rw [HBZ.out (by simp)]; exact HC0.out, HB6.out⟩
      | some ad =>
        go_wp2_with (first
          | (at_builtin; (refine wpList_append_own _ rfl (.tmp 66) (.tmp 67) 71 rfl wc.heap.size 5 i2 (.int .u8 0) 1 1 Tryz.underlying71 hk2 hxa hxb hxc rfl (by decide) (.slice (some ⟨wc.heap.size, 0, none⟩) 0 0) 0 [] rfl HC0.out ad nb c7 (Bs.map (Value.int .u8)) rfl HLN.out (HNW.out ad rfl) (one_byts _) (by unfold maxLen; omega) (by omega) (by simp) ?_); intro v6 w6 hO6 hG6 hnl6;
             have hb6 : Below wc.heap.size wc w6 := Below.grown HB6.out hG6 (by simp) (fun q hq => by cases hq; exact Nat.le_refl _);
             rw [Nat.zero_add, List.nil_append] at hO6))
        have hv6 : ∃ g cc, v6 = .slice (some ⟨g, 0, none⟩) nb cc := by
          rcases hO6.2 with ⟨e1, e2⟩ | ⟨g, cap, cur, e1, _⟩
          · exact absurd (hnl6.1 e1).1 (by simp)
          · exact ⟨g, cap, e1⟩
        obtain ⟨g6, cc6, rfl⟩ := hv6
        go_meet
        exact ⟨g6, cc6, rfl, hO6, hb6⟩
    case rest =>
      rename_i hK
      obtain ⟨g11, c11, rfl, hr11, hb11⟩ := hcut
      refine hK _ _ ?_
      clear hK
      have R10b := Lib.hid (owns_kept R10.out hb11 (Nat.le_refl _))
      have R11 := Lib.hid hr11
      have l11 := (hr11.lt g11 rfl)
      have hNc := HBb.out.size
      have HBc : Hid (Below N0 W0 wc) := Lib.hid (HBb.out.trans (hb11.mono (by rw [hN0]; exact hNc)))
      clear hr11 hb11 H7b
      have bn1 := (HBc.out.block Bn (by rw [hN0]; exact lt_of_blk hbn)).trans hbn
      obtain ⟨n0', n1', n2', n3'⟩ := cells4 bn1
      obtain ⟨k, hk⟩ : ∃ k, n0.toNat % m = k := ⟨_, rfl⟩
      have hkm : k < m := by rw [← hk]; exact Nat.mod_lt _ (by omega)
      have ek : n0.tmod (m : Int) = (k : Int) := by
        rw [Int.tmod_eq_emod_of_nonneg hn0.1, ← hk]; push_cast; rw [Int.toNat_of_nonneg hn0.1]
      have wn0 : IntKind.i64.wrap n0 = n0 := IntWalk.i64_in _ ⟨by omega, by omega⟩
      have wk : IntKind.i64.wrap (k : Int) = (k : Int) := IntWalk.i64_in _ ⟨by omega, by omega⟩
      have nm : ¬ ((m : Int) = 0) := by omega
      have nm' : ¬ (m = 0) := by omega
      go_upto_region 13 with fail
      clear n0' n1' n2' n3'
      go_cut [13] (fun s13 wd => s13 = .slice none 0 0 ∧ Below wc.heap.size wc wd)
      case first =>
        go_wp2_with fail
        go_meet
        exact ⟨rfl, Below.refl _ _⟩
      case rest =>
        rename_i hK
        obtain ⟨rfl, hbz⟩ := hcut
        refine hK _ _ ?_
        clear hK
        have hsc := HBc.out.size
        exact found14 w W0 N0 hN0 hwW ht m hm1 hm ox oy oz ob oo oc hob HOR.out n0 n1 n2 n3 hn0 hn1 hn2 hn3 Bn hwn hbn Bs hB nb hnb hB20 a7 c7 k hkm g10 c10 g11 c11 (by omega) _ _ _ _ _ _ _ _ _ _ _ _ _ _ _ _ _ _ _ _ _ _ _ _ _ _ _ _ _ _ _ _ _ _ _ _ _ _ _ _ _ _ _ _ _ _ _ _ _ _ _ _ _ _ _ _ _ _ _ _ _ _ _ _ _ _ _ _ _ _ _ _ _ _ _ _ _ _ _ _ _ _ _ _ _ _ _ _ _ _ _ _ _ _ _ _ _ _ _ _ _ _ _ _ _ _ _ _ _ _ _ _ _ _ _ _ _ _ _ _ _ _ _ _ _ _ _ _ _ _ _ _ _ _ _ _ _ _ _ _ _ _ _ _ _ _ _ _ _ _ _ _ _ _ _ _ _ _ _ _ _ _ _ _ _ _ _ _ _ _ _ _ _ _ _ _ _ _ _ _ _ _ _ _ _ _ _ _ _ _ _ _ _ _ _ _ _ _ _ _ _ _ _ _ _ _ _ _ _ _ _ _ _ _ _ _ _ _ _ _ _ _ _ _ _ _ _ _ _ _ _ _ _ _ _ _ _ _ _ _ _ _ _ _ _ _ _ _ _ _ _ _ _ _ _ _ _ _ _ _ _ _ _ _ _ (HBc.out.trans (hbz.mono (by rw [hN0]; exact hsc))) (owns_kept (owns_mono R10b.out hNr) hbz (Nat.le_refl _)) (owns_kept (owns_mono R11.out (by rw [hN0]; exact hNc)) hbz (Nat.le_refl _))
end Go.Proofs.YtfpagmalblmnkaaGreatDoor

/-
  LightFound returns true for all arguments.
-/
namespace Go.Proofs.YtfpagmalblmnkaaGreatDoor
open Go.RowKit Go.Shelf
set_option linter.unusedVariables false
set_option linter.unusedSimpArgs false

theorem filt_snoc (l : List Int) (b : Int) : (l ++ [b]).filter (fun v => decide (v ≠ 77)) = l.filter (fun v => decide (v ≠ 77)) ++ (if b = 77 then [] else [b]) := by
  rw [List.filter_append]
  congr 1
  by_cases h : b = 77
  · simp [h]
  · simp [h]

set_option maxRecDepth 1000000 in
set_option maxHeartbeats 25600000 in
theorem found3 (w W0 : World) (N0 : Nat) (hN0 : N0 = W0.heap.size) (hwW : Below w.heap.size w W0) (ht : TabAt w) (m : Nat) (hm1 : 1 ≤ m) (hm : m < 9) (ox oy oz : Nat → Int) (ob oo oc : Nat) (hob : ob < N0) (hor : ∀ i, i < m → ((-32768 ≤ ox i ∧ ox i ≤ 32767) ∧ (-32768 ≤ oy i ∧ oy i ≤ 32767) ∧ (-32768 ≤ oz i ∧ oz i ≤ 32767)) ∧ W0.cell? ⟨ob, oo + i * 3, none⟩ = some (.int .i16 (ox i)) ∧ W0.cell? ⟨ob, oo + i * 3 + 1, none⟩ = some (.int .i16 (oy i)) ∧ W0.cell? ⟨ob, oo + i * 3 + 2, none⟩ = some (.int .i16 (oz i)))
    (n0 n1 n2 n3 : Int) (hn0 : 0 ≤ n0 ∧ n0 ≤ 255) (hn1 : 0 ≤ n1 ∧ n1 ≤ 255) (hn2 : 0 ≤ n2 ∧ n2 ≤ 255) (hn3 : 0 ≤ n3 ∧ n3 ≤ 255) (Bn : Nat) (hwn : w.heap.size ≤ Bn) (hbn : W0.heap[Bn]? = some (.cells #[.int .u8 n0, .int .u8 n1, .int .u8 n2, .int .u8 n3] 72 (0, 0))) (na : Option Addr) (nn nc1 : Nat) (NS : List Int) (hnn : nn ≤ 20) (hNS : AnyBytes W0 na nn NS) (u2 u3 u4 u6 u7 u8 u9 u10 u11 u12 u13 u14 u15 u16 u17 u18 u19 u20 u21 u22 u23 u24 u25 u26 u27 u28 u29 u30 u31 u32 u33 u34 u35 u36 u37 u38 u39 u40 u41 u42 u43 u44 u45 u46 u47 u48 u49 u50 u51 u52 u53 u54 u55 u56 u57 u58 u59 u60 u61 u62 u63 u64 u65 u66 u67 u68 u69 u70 u71 u72 u73 u74 u75 u76 u77 u78 u79 u80 u81 u82 u83 u84 u85 u86 u87 u88 u89 u90 u91 u92 u93 u94 u95 u96 u97 u98 u99 u100 u101 u102 u103 u104 u105 u106 u107 u108 u109 u110 u111 u112 u113 u114 u115 u116 u117 u118 u119 u120 u121 u122 u123 u124 u125 u126 u127 u128 u129 u130 u131 u132 u133 u134 u135 u136 u137 u138 u139 u140 u141 u142 u143 u144 u145 u146 u147 u148 u149 u150 u151 u152 u153 u154 u155 u156 u157 u158 u159 u160 u161 u162 u163 u164 u165 u166 u167 u168 u169 u170 u171 u172 u173 u174 u175 u176 u177 u178 u179 u180 u181 u182 u183 u184 u185 u186 u187 u188 u189 u190 u191 u192 u193 u194 u195 u196 u197 u198 u199 u200 u201 u202 u203 u204 u205 u206 u207 u208 u209 u210 u211 u212 u213 u214 u215 u216 u217 u218 u219 u220 u221 u222 u223 u224 u225 u226 u227 u228 u229 u230 u231 u232 u233 u234 u235 u236 u237 u238 u239 u240 u241 u242 u243 u244 u245 u246 u247 u248 u249 u250 u251 u252 u253 u254 u255 u256 u257 u258 u259 u260 u261 u262 u263 u264 u265 u266 u267 u268 u269 u270 : Value) :
    Code.wp Tryz.prog (cutF 3) (bodyPost Tryz.prog Tryz.f6 (TruePost w)) ⟨#[.slice (some ⟨ob, oo, none⟩) m oc, .slice na nn nc1, u2, u3, u4, .pointer (some ⟨Bn, 0, none⟩), u6, u7, u8, u9, u10, u11, u12, u13, u14, u15, u16, u17, u18, u19, u20, u21, u22, u23, u24, u25, u26, u27, u28, u29, u30, u31, u32, u33, u34, u35, u36, u37, u38, u39, u40, u41, u42, u43, u44, u45, u46, u47, u48, u49, u50, u51, u52, u53, u54, u55, u56, u57, u58, u59, u60, u61, u62, u63, u64, u65, u66, u67, u68, u69, u70, u71, u72, u73, u74, u75, u76, u77, u78, u79, u80, u81, u82, u83, u84, u85, u86, u87, u88, u89, u90, u91, u92, u93, u94, u95, u96, u97, u98, u99, u100, u101, u102, u103, u104, u105, u106, u107, u108, u109, u110, u111, u112, u113, u114, u115, u116, u117, u118, u119, u120, u121, u122, u123, u124, u125, u126, u127, u128, u129, u130, u131, u132, u133, u134, u135, u136, u137, u138, u139, u140, u141, u142, u143, u144, u145, u146, u147, u148, u149, u150, u151, u152, u153, u154, u155, u156, u157, u158, u159, u160, u161, u162, u163, u164, u165, u166, u167, u168, u169, u170, u171, u172, u173, u174, u175, u176, u177, u178, u179, u180, u181, u182, u183, u184, u185, u186, u187, u188, u189, u190, u191, u192, u193, u194, u195, u196, u197, u198, u199, u200, u201, u202, u203, u204, u205, u206, u207, u208, u209, u210, u211, u212, u213, u214, u215, u216, u217, u218, u219, u220, u221, u222, u223, u224, u225, u226, u227, u228, u229, u230, u231, u232, u233, u234, u235, u236, u237, u238, u239, u240, u241, u242, u243, u244, u245, u246, u247, u248, u249, u250, u251, u252, u253, u254, u255, u256, u257, u258, u259, u260, u261, u262, u263, u264, u265, u266, u267, u268, u269, u270], []⟩ W0 := by
  conv => arg 2; whnf
  dsimp only
  obtain ⟨i2, hk2, hxa, hxb, hxc⟩ := info_parts Tryz.infoByteX
  have HOR := Lib.hid hor
  have HNS := Lib.hid hNS
  clear hor hNS
  go_upto_block 0 with fail
  go_cut [7] from 9 to 62 (fun s7 wc => ∃ (a7 : Option Addr) (nb c7 : Nat) (Bs : List Int), s7 = .slice a7 nb c7 ∧ Bs.length = nb ∧ nb ≤ 20 ∧ (∀ v ∈ Bs, v ≠ 77 ∧ 0 ≤ v ∧ v ≤ 255) ∧ wc.ownsRow N0 5 1 (.slice a7 nb c7) nb (Bs.map (Value.int .u8)) ∧ Below N0 W0 wc)
  case first =>
    go_wp2_with fail
    go_loopw [7, 52] (fun s7 s52 wy => ∃ j : Nat, j ≤ nn ∧ s52 = .int .i64 j ∧ wy.ownsRow N0 5 1 s7 ((NS.take j).filter (fun v => decide (v ≠ 77))).length (((NS.take j).filter (fun v => decide (v ≠ 77))).map (Value.int .u8)) ∧ Below N0 W0 wy) (fun _ jv _ => nn - (intOf jv).toNat)
    case atStart => exact ⟨0, by omega, rfl, ⟨rfl, .inl ⟨rfl, rfl⟩⟩, by rw [hN0]; exact Below.refl _ _⟩
    case round =>
      obtain ⟨j, hj, rfl, hr, hb⟩ := hrel
      have HB := Lib.hid hb
      have hNw : N0 ≤ wr.heap.size := by rw [hN0]; exact hb.size
      have hlen : ((NS.take j).filter (fun v => decide (v ≠ 77))).length ≤ 20 := Nat.le_trans (List.length_filter_le _ _) (by rw [List.length_take]; omega)
      obtain ⟨FL, hFL⟩ : ∃ FL, (NS.take j).filter (fun v => decide (v ≠ 77)) = FL := ⟨_, rfl⟩
      rw [hFL] at hr hlen
      have HR := Lib.hid hr
      have hlt0 := hr.lt
      by_cases hlt : j < nn
      · have hltI : (j : Int) < (nn : Int) := by omega
        obtain ⟨b', q', e', lt', hc⟩ := HNS.out.2 j hlt
        have hjl : j < NS.length := by rw [HNS.out.1.1]; exact hlt
        obtain ⟨b, hbv⟩ : ∃ b, NS[j]? = some b := ⟨_, List.getElem?_eq_getElem hjl⟩
        have hcell0 := hc j (.int .u8 b) (by rw [List.getElem?_map, hbv]; rfl)
        have hcell : wr.cell? ⟨b', q' + j, none⟩ = some (.int .u8 b) := (hb.cell (p := ⟨b', q' + j, none⟩) (by rw [hN0]; exact lt')).trans hcell0
        have etk : NS.take (j + 1) = NS.take j ++ [b] := by rw [List.take_add_one, hbv]; rfl
        have efl := filt_snoc (NS.take j) b
        rw [← etk, hFL] at efl
        have EFL := Lib.hid efl
        subst e'
        clear hc hcell0 etk efl hr hb hFL
        by_cases h77 : b = 77
        · subst h77
          go_wp2_with fail
          go_roundw
          case rel => exact ⟨j + 1, by omega, by go_num, by rw [EFL.out, if_pos rfl, List.append_nil]; exact HR.out, HB.out⟩
          case measure => simp [intOf]; omega
        · obtain ⟨ln, hln⟩ : ∃ ln, FL.length = ln := ⟨_, rfl⟩
          rw [hln] at HR hlen
          go_wp2_with (first
            | (at_builtin; (refine wpList_append_own _ rfl (.tmp 58) (.tmp 60) 71 rfl N0 5 i2 (.int .u8 0) 1 1 Tryz.underlying71 hk2 hxa hxb hxc rfl (by decide) _ ln _ rfl (HR.out.alloc _) ⟨wr.heap.size, 0, none⟩ 1 1 [.int .u8 b] rfl rfl (cell_one_new _ _ _) (by intro u hu; simp at hu; subst hu; rfl) (by unfold maxLen; omega) (by omega) (by simp; omega) ?_); intro v3 w3 hown3 hgrow3 _))
          have hB3 : Below N0 W0 w3 := Below.grown (Below.alloc HB.out (by omega) (.cells #[.int .u8 b] 5)) hgrow3 (by simp; omega) (fun q hq => (hlt0 q hq).1)
          have hO3 : w3.ownsRow N0 5 1 v3 ((NS.take (j + 1)).filter (fun v => decide (v ≠ 77))).length (((NS.take (j + 1)).filter (fun v => decide (v ≠ 77))).map (Value.int .u8)) := by
            rw [EFL.out, if_neg h77, List.length_append, List.map_append, hln]; exact hown3
          have HO3 := Lib.hid hO3
          have HB3 := Lib.hid hB3
          clear hO3 hB3 hown3 hgrow3
          go_roundw
          case rel => exact ⟨j + 1, by omega, by go_num, HO3.out, HB3.out⟩
          case measure => simp [intOf]; omega
      · obtain rfl : j = nn := by omega
        have hr' := HR.out
        obtain ⟨a7, c7, rfl⟩ := owns_slice hr'
        have hin : ∀ v ∈ FL, v ≠ 77 ∧ 0 ≤ v ∧ v ≤ 255 := fun v hv => by
          rw [← hFL] at hv
          obtain ⟨h1, h2⟩ := List.mem_filter.1 hv
          exact ⟨by simpa using h2, HNS.out.1.2 v (List.mem_of_mem_take h1)⟩
        go_wp2_with fail
        go_meet
        exact ⟨a7, _, c7, FL, rfl, rfl, hlen, hin, hr', HB.out⟩
  case rest =>
    rename_i hK
    obtain ⟨a7, nb, c7, Bs, rfl, hnb, hB20, hB, hr7, hb⟩ := hcut
    refine hK _ _ ?_
    clear hK
    exact found10 w W0 N0 hN0 hwW ht m hm1 hm ox oy oz ob oo oc hob HOR.out n0 n1 n2 n3 hn0 hn1 hn2 hn3 Bn hwn hbn Bs hB nb hnb hB20 a7 c7 _ _ _ _ _ _ _ _ _ _ _ _ _ _ _ _ _ _ _ _ _ _ _ _ _ _ _ _ _ _ _ _ _ _ _ _ _ _ _ _ _ _ _ _ _ _ _ _ _ _ _ _ _ _ _ _ _ _ _ _ _ _ _ _ _ _ _ _ _ _ _ _ _ _ _ _ _ _ _ _ _ _ _ _ _ _ _ _ _ _ _ _ _ _ _ _ _ _ _ _ _ _ _ _ _ _ _ _ _ _ _ _ _ _ _ _ _ _ _ _ _ _ _ _ _ _ _ _ _ _ _ _ _ _ _ _ _ _ _ _ _ _ _ _ _ _ _ _ _ _ _ _ _ _ _ _ _ _ _ _ _ _ _ _ _ _ _ _ _ _ _ _ _ _ _ _ _ _ _ _ _ _ _ _ _ _ _ _ _ _ _ _ _ _ _ _ _ _ _ _ _ _ _ _ _ _ _ _ _ _ _ _ _ _ _ _ _ _ _ _ _ _ _ _ _ _ _ _ _ _ _ _ _ _ _ _ _ _ _ _ _ _ _ _ _ _ _ _ _ _ _ _ _ _ _ _ _ _ _ _ _ _ _ _ _ _ _ _ _ hb hr7

set_option maxRecDepth 1000000 in
set_option maxHeartbeats 25600000 in
theorem found_all (w : World) (oa : Option Addr) (m oc : Nat) (na : Option Addr) (nn nc1 : Nat) (NS : List Int) (n0 n1 n2 n3 : Int) (hn0 : 0 ≤ n0 ∧ n0 ≤ 255) (hn1 : 0 ≤ n1 ∧ n1 ≤ 255) (hn2 : 0 ≤ n2 ∧ n2 ≤ 255) (hn3 : 0 ≤ n3 ∧ n3 ≤ 255) (ht : TabAt w) (ox oy oz : Nat → Int)
    (hO : ∀ i, i < m → ((-32768 ≤ ox i ∧ ox i ≤ 32767) ∧ (-32768 ≤ oy i ∧ oy i ≤ 32767) ∧ (-32768 ≤ oz i ∧ oz i ≤ 32767)) ∧ ∃ b q, oa = some ⟨b, q, none⟩ ∧ b < w.heap.size ∧ w.cell? ⟨b, q + i * 3, none⟩ = some (.int .i16 (ox i)) ∧ w.cell? ⟨b, q + i * 3 + 1, none⟩ = some (.int .i16 (oy i)) ∧ w.cell? ⟨b, q + i * 3 + 2, none⟩ = some (.int .i16 (oz i))) (hNS : AnyBytes w na nn NS) :
    Calls Tryz.prog 6 #[.slice oa m oc, .slice na nn nc1, .agg #[.int .u8 n0, .int .u8 n1, .int .u8 n2, .int .u8 n3]] w (TruePost w) := by
  obtain ⟨W0, hW0⟩ : ∃ W0, w.alloc (.cells #[.int .u8 n0, .int .u8 n1, .int .u8 n2, .int .u8 n3] 72) = W0 := ⟨_, rfl⟩
  have hB0 : Below w.heap.size w W0 := by rw [← hW0]; exact (Below.refl _ w).alloc (Nat.le_refl _) _
  by_cases hg : 1 ≤ m ∧ m ≤ 8 ∧ nn ≤ 20
  · obtain ⟨h1, h8, h20⟩ := hg
    obtain ⟨_, ob, oo, e, lt, _⟩ := hO 0 (by omega)
    subst e
    have hb : W0.heap[w.heap.size]? = some (.cells #[.int .u8 n0, .int .u8 n1, .int .u8 n2, .int .u8 n3] 72 (0, 0)) := by rw [← hW0]; exact blk_alloc_new _ _
    have hor : ∀ i, i < m → ((-32768 ≤ ox i ∧ ox i ≤ 32767) ∧ (-32768 ≤ oy i ∧ oy i ≤ 32767) ∧ (-32768 ≤ oz i ∧ oz i ≤ 32767)) ∧ W0.cell? ⟨ob, oo + i * 3, none⟩ = some (.int .i16 (ox i)) ∧ W0.cell? ⟨ob, oo + i * 3 + 1, none⟩ = some (.int .i16 (oy i)) ∧ W0.cell? ⟨ob, oo + i * 3 + 2, none⟩ = some (.int .i16 (oz i)) := fun i hi => by
      obtain ⟨hbd, b, q, e, lt', c0, c1, c2⟩ := hO i hi
      cases e
      exact ⟨hbd, (hB0.cell (p := ⟨ob, oo + i * 3, none⟩) lt').trans c0, (hB0.cell (p := ⟨ob, oo + i * 3 + 1, none⟩) lt').trans c1, (hB0.cell (p := ⟨ob, oo + i * 3 + 2, none⟩) lt').trans c2⟩
    have HOR := Lib.hid hor
    have HNS := Lib.hid (hNS.kept hB0)
    have HB := Lib.hid hb
    have HT := Lib.hid ht
    have HB0 := Lib.hid hB0
    have i1 : ¬ ((m : Int) < 1) := by omega
    have i2 : ¬ ((8 : Int) < (m : Int)) := by omega
    have i3 : ¬ ((20 : Int) < (nn : Int)) := by omega
    have hlt : ob < W0.heap.size := Nat.lt_of_lt_of_le lt hB0.size
    clear hO hNS hb ht hB0 hor
    go_enter Tryz.func6, Tryz.ntmps6
    go_upto_region 1 with fail
    try rw [hW0]
    clear hW0
    go_upto_if 48 with fail
    go_cut [] from 36 to 48 (fun wc => wc = W0)
    case first =>
      go_wp2_with fail
      go_meet
      rfl
    case rest =>
      rename_i hK
      subst hcut
      refine hK _ _ ?_
      clear hK
      exact found3 w _ _ rfl HB0.out HT.out m h1 (by omega) ox oy oz ob oo oc hlt HOR.out n0 n1 n2 n3 hn0 hn1 hn2 hn3 w.heap.size (Nat.le_refl _) HB.out na nn nc1 NS h20 HNS.out _ _ _ _ _ _ _ _ _ _ _ _ _ _ _ _ _ _ _ _ _ _ _ _ _ _ _ _ _ _ _ _ _ _ _ _ _ _ _ _ _ _ _ _ _ _ _ _ _ _ _ _ _ _ _ _ _ _ _ _ _ _ _ _ _ _ _ _ _ _ _ _ _ _ _ _ _ _ _ _ _ _ _ _ _ _ _ _ _ _ _ _ _ _ _ _ _ _ _ _ _ _ _ _ _ _ _ _ _ _ _ _ _ _ _ _ _ _ _ _ _ _ _ _ _ _ _ _ _ _ _ _ _ _ _ _ _ _ _ _ _ _ _ _ _ _ _ _ _ _ _ _ _ _ _ _ _ _ _ _ _ _ _ _ _ _ _ _ _ _ _ _ _ _ _ _ _ _ _ _ _ _ _ _ _ _ _ _ _ _ _ _ _ _ _ _ _ _ _ _ _ _ _ _ _ _ _ _ _ _ _ _ _ _ _ _ _ _ _ _ _ _ _ _ _ _ _ _ _ _ _ _ _ _ _ _ _ _ _ _ _ _ _ _ _ _ _ _ _ _ _ _ _ _ _ _ _ _ _ _ _ _ _ _ _ _ _ _
  · have KW : Hid (∀ w1 : World, Below w.heap.size w w1 → Calls Tryz.prog 14 #[] w1 fun e w' => e = .returned (.bool true) ∧ Below w.heap.size w w') :=
      Lib.hid fun w1 h => (awake_any w1 (ht.on h)).mono fun e w' ⟨he, hb⟩ => ⟨he, h.trans (hb.mono h.size)⟩
    have HB0 := Lib.hid hB0
    clear hO hNS ht hB0
    by_cases h1 : m < 1
    · have i1 : ((m : Int) < 1) := by omega
      go_enter Tryz.func6, Tryz.ntmps6
      go_upto_region 1 with fail
      try rw [hW0]
      clear hW0
      go_wp2_with (go_at_call 14; refine (KW.out _ HB0.out).mono ?_; rintro e w2 ⟨rfl, hb2⟩)
      go_ret
      exact ⟨rfl, hb2⟩
    · have i1 : ¬ ((m : Int) < 1) := by omega
      by_cases h8 : 8 < m
      · have i2 : ((8 : Int) < (m : Int)) := by omega
        go_enter Tryz.func6, Tryz.ntmps6
        go_upto_region 1 with fail
        try rw [hW0]
        clear hW0
        go_wp2_with (go_at_call 14; refine (KW.out _ HB0.out).mono ?_; rintro e w2 ⟨rfl, hb2⟩)
        go_ret
        exact ⟨rfl, hb2⟩
      · have i2 : ¬ ((8 : Int) < (m : Int)) := by omega
        have i3 : ((20 : Int) < (nn : Int)) := by omega
        go_enter Tryz.func6, Tryz.ntmps6
        go_upto_region 1 with fail
        try rw [hW0]
        clear hW0
        go_wp2_with (go_at_call 14; refine (KW.out _ HB0.out).mono ?_; rintro e w2 ⟨rfl, hb2⟩)
        go_ret
        exact ⟨rfl, hb2⟩
end Go.Proofs.YtfpagmalblmnkaaGreatDoor

/-
  Plain facts on any word of float32: the error that a sample's check answers for it (smpErr), and what the steps of the program's check make of the number that it stands for.
-/
namespace Go.Proofs.YtfpagmalblmnkaaGreatDoor
open Ieee

/-- The error of a word as a sample: 1 for what is no number, 3 for no multiple of 1/16 up to 1024, otherwise 0. -/
def smpErr (x : Nat) : Int :=
  match single.read x with
  | .number _ m e => if m * 2 ^ (e - single.leastPlace).toNat ≤ 1024 * 2 ^ 149 ∧ m * 2 ^ (e - single.leastPlace).toNat % 2 ^ 145 = 0 then 0 else 3
  | _ => 1

theorem smpErr_num {x : Nat} {s : Bool} {v : Nat} (h : IsNum single x s v) : smpErr x = if v ≤ 1024 * 2 ^ 149 ∧ v % 2 ^ 145 = 0 then 0 else 3 := by
  obtain ⟨m, e, h1, _, _, rfl⟩ := h
  unfold smpErr
  rw [h1]

theorem smpErr_ok {x : Nat} {s : Bool} {v : Nat} (h : IsNum single x s v) (h1 : v ≤ 1024 * 2 ^ 149) (h2 : v % 2 ^ 145 = 0) : smpErr x = 0 := by
  rw [smpErr_num h, if_pos ⟨h1, h2⟩]
theorem smpErr_large {x : Nat} {s : Bool} {v : Nat} (h : IsNum single x s v) (h1 : ¬ v ≤ 1024 * 2 ^ 149) : smpErr x = 3 := by
  rw [smpErr_num h, if_neg fun hh => h1 hh.1]
theorem smpErr_fine {x : Nat} {s : Bool} {v : Nat} (h : IsNum single x s v) (h1 : ¬ v % 2 ^ 145 = 0) : smpErr x = 3 := by
  rw [smpErr_num h, if_neg fun hh => h1 hh.2]
theorem smpErr_nan {x : Nat} {a : Bool} {b : Nat} (h : single.read x = .nan a b) : smpErr x = 1 := by unfold smpErr; rw [h]
theorem smpErr_inf {x : Nat} {s : Bool} (h : single.read x = .infinity s) : smpErr x = 1 := by unfold smpErr; rw [h]

/-- A finite word of float32 stands for at most the greatest one. -/
theorem num_bound {x : Nat} {s : Bool} {m : Nat} {e : Int} (h : single.read x = .number s m e) : m * 2 ^ (e - single.leastPlace).toNat ≤ 16777215 * 2 ^ 253 := by
  have hm : m < 2 ^ 24 := by
    obtain ⟨m', e', k1, _, k3, _⟩ := isNum_of_read h
    rw [h] at k1
    simp only [Datum.number.injEq] at k1
    rw [k1.2.1]; exact k3
  have he : (e - single.leastPlace).toNat ≤ 253 := by
    have hi : single.infRung = 255 * single.binade := by decide
    have hbp : 0 < single.binade := Nat.two_pow_pos _
    unfold Format.read at h
    dsimp only at h
    split at h
    · simp only [Datum.number.injEq] at h; omega
    · split at h
      · rename_i hlt
        simp only [Datum.number.injEq] at h
        rw [hi] at hlt
        have := Nat.div_lt_of_lt_mul (show x % single.signWeight < single.binade * 255 by rw [Nat.mul_comm]; exact hlt)
        omega
      · split at h <;> cases h
  exact Nat.mul_le_mul (by omega) (Nat.pow_le_pow_right (by omega) he)

/-- Every word is no number, or stands for one up to the greatest. -/
theorem smp_class (x : Nat) : (∃ a b, single.read x = .nan a b) ∨ (∃ s, single.read x = .infinity s) ∨ ∃ s v, IsNum single x s v ∧ v ≤ 16777215 * 2 ^ 253 := by
  cases hd : single.read x with
  | nan a b => exact .inl ⟨a, b, rfl⟩
  | infinity s => exact .inr (.inl ⟨s, rfl⟩)
  | number s m e => exact .inr (.inr ⟨s, _, isNum_of_read hd, num_bound hd⟩)

theorem smpErr_zero {x : Nat} (h : smpErr x = 0) : ∃ k, Smp x k ∧ k.natAbs ≤ 16384 := by
  rcases smp_class x with ⟨a, b, hd⟩ | ⟨s, hd⟩ | ⟨s, v, hn, _⟩
  · rw [smpErr_nan hd] at h; cases h
  · rw [smpErr_inf hd] at h; cases h
  · rw [smpErr_num hn] at h
    split at h
    · rename_i hh
      obtain ⟨h1, h2⟩ := hh
      have e : v = v / 2 ^ 145 * 2 ^ 145 := by
        have := Nat.div_add_mod v (2 ^ 145)
        rw [h2, Nat.add_zero, Nat.mul_comm] at this; exact this.symm
      have hq : v / 2 ^ 145 ≤ 16384 := by
        have := Nat.div_le_div_right (c := 2 ^ 145) h1
        have e2 : 1024 * 2 ^ 149 = 16384 * 2 ^ 145 := by decide +kernel
        rwa [e2, Nat.mul_div_cancel _ (Nat.two_pow_pos _)] at this
      generalize v / 2 ^ 145 = p at e hq
      have hpa : (sgn s p).natAbs = p := by unfold sgn; cases s <;> simp
      refine ⟨sgn s p, ⟨s, ?_, ?_, ?_⟩, by rw [hpa]; exact hq⟩
      · rw [hpa, ← e]; exact hn
      · intro hs; unfold sgn at hs; cases s
        · simp only [Bool.false_eq_true, if_false] at hs; omega
        · rfl
      · intro hs; unfold sgn at hs; cases s
        · rfl
        · simp only [if_true] at hs; omega
    · cases h

theorem IsNum.lt_false {f : Format} {x y : Nat} {s t : Bool} {v u : Nat} (h : IsNum f x s v) (g : IsNum f y t u) (hle : sgn t u ≤ sgn s v) : (f.order x y == some .lt) = false := by
  rw [h.order g]
  have : compare (sgn s v) (sgn t u) ≠ .lt := by
    show compareOfLessAndEq _ _ ≠ _
    unfold compareOfLessAndEq
    rw [if_neg (by omega)]
    split <;> simp
  cases hc : compare (sgn s v) (sgn t u) <;> simp_all

theorem sgn_ge_neg {s : Bool} {v u : Nat} (h : v ≤ u) : sgn true u ≤ sgn s v := by unfold sgn; cases s <;> simp <;> omega
theorem sgn_le_pos {s : Bool} {v u : Nat} (h : v ≤ u) : sgn s v ≤ sgn false u := by unfold sgn; cases s <;> simp <;> omega

theorem max32p : IsNum single 2139095039 false (16777215 * 2 ^ 253) := ⟨16777215, 104, by decide +kernel, by decide, by decide, by decide +kernel⟩
theorem max32n : IsNum single 4286578687 true (16777215 * 2 ^ 253) := ⟨16777215, 104, by decide +kernel, by decide, by decide, by decide +kernel⟩

theorem smp_t1 {x : Nat} (t1 : (single.order x x != some .eq) = true) : smpErr x = 1 := by
  rcases smp_class x with ⟨a, b, hd⟩ | ⟨s, hd⟩ | ⟨s, v, hn, _⟩
  · exact smpErr_nan hd
  · exact smpErr_inf hd
  · rw [hn.self] at t1; cases t1
theorem smp_t2 {x : Nat} (t2 : (single.order x 2139095039 == some .gt) = true) : smpErr x = 1 := by
  rcases smp_class x with ⟨a, b, hd⟩ | ⟨s, hd⟩ | ⟨s, v, hn, hv⟩
  · exact smpErr_nan hd
  · exact smpErr_inf hd
  · rw [hn.gt_false max32p (sgn_le_pos hv)] at t2; cases t2
theorem smp_t3 {x : Nat} (t3 : (single.order x 4286578687 == some .lt) = true) : smpErr x = 1 := by
  rcases smp_class x with ⟨a, b, hd⟩ | ⟨s, hd⟩ | ⟨s, v, hn, hv⟩
  · exact smpErr_nan hd
  · exact smpErr_inf hd
  · rw [hn.lt_false max32n (sgn_ge_neg hv)] at t3; cases t3

theorem smp_num {x : Nat} (t1 : (single.order x x != some .eq) = false) (t2 : (single.order x 2139095039 == some .gt) = false) (t3 : (single.order x 4286578687 == some .lt) = false) :
    ∃ s v, IsNum single x s v := by
  rcases smp_class x with ⟨a, b, hd⟩ | ⟨s, hd⟩ | ⟨s, v, hn, hv⟩
  · exfalso
    have : single.order x x = none := by unfold Format.order; rw [hd]; rfl
    rw [this] at t1; cases t1
  · exfalso
    cases s with
    | false =>
      have hm : single.read 2139095039 = .number false 16777215 104 := by decide +kernel
      have : single.order x 2139095039 = some .gt := by unfold Format.order; rw [hd, hm]; rfl
      rw [this] at t2; cases t2
    | true =>
      have hm : single.read 4286578687 = .number true 16777215 104 := by decide +kernel
      have : single.order x 4286578687 = some .lt := by unfold Format.order; rw [hd, hm]; rfl
      rw [this] at t3; cases t3
  · exact ⟨s, v, hn⟩

theorem smp_t4 {x : Nat} (t1 : (single.order x x != some .eq) = false) (t2 : (single.order x 2139095039 == some .gt) = false) (t3 : (single.order x 4286578687 == some .lt) = false)
    (t4 : (single.order x 1149239296 == some .gt) = true) : smpErr x = 3 := by
  obtain ⟨s, v, hn⟩ := smp_num t1 t2 t3
  refine smpErr_large hn fun hv => ?_
  rw [hn.gt_false isNum1024 (sgn_le_pos hv)] at t4; cases t4
theorem smp_t5 {x : Nat} (t1 : (single.order x x != some .eq) = false) (t2 : (single.order x 2139095039 == some .gt) = false) (t3 : (single.order x 4286578687 == some .lt) = false)
    (t5 : (single.order x 3296722944 == some .lt) = true) : smpErr x = 3 := by
  obtain ⟨s, v, hn⟩ := smp_num t1 t2 t3
  refine smpErr_large hn fun hv => ?_
  rw [hn.lt_false isNum1024n (sgn_ge_neg hv)] at t5; cases t5

theorem compare_self (a : Int) : compare a a = .eq := by
  show compareOfLessAndEq _ _ = _
  unfold compareOfLessAndEq; simp

/-- The reference's last test, exactly. -/
theorem checkPart_exact {x : Nat} {s : Bool} {v : Nat} (h : IsNum single x s v) (hv : v ≤ 1024 * 2 ^ 149) :
    ∃ r q, floatBits .mul .f32 1098907648 x = some r ∧ floatToIntVal .f32 r .i64 = some q ∧ ((single.order (floatOfInt .f32 q) r != some .eq) = false → smpErr x = 0) ∧ ((single.order (floatOfInt .f32 q) r != some .eq) = true → smpErr x = 3) := by
  obtain ⟨r, q, h1, h2, h3⟩ := checkPart_fin h hv
  refine ⟨r, q, h1, h2, fun hh => ?_, fun hh => smpErr_fine h fun hm => ?_⟩
  · obtain ⟨⟨t, hn, _, _⟩, _⟩ := h3 hh
    have e : q.natAbs * 2 ^ 145 % 2 ^ 145 = 0 := Nat.mul_mod_left _ _
    rw [smpErr_num hn]
    refine if_pos ⟨?_, e⟩
    have hq : q.natAbs ≤ 16384 := (h3 hh).2
    have := Nat.mul_le_mul_right (2 ^ 145) hq
    have e2 : 1024 * 2 ^ 149 = 16384 * 2 ^ 145 := by decide +kernel
    rw [e2]; exact this
  · have e : v = v / 2 ^ 145 * 2 ^ 145 := by
      have := Nat.div_add_mod v (2 ^ 145)
      rw [hm, Nat.add_zero, Nat.mul_comm] at this; exact this.symm
    have hq : v / 2 ^ 145 ≤ 16384 := by
      have := Nat.div_le_div_right (c := 2 ^ 145) hv
      have e2 : 1024 * 2 ^ 149 = 16384 * 2 ^ 145 := by decide +kernel
      rwa [e2, Nat.mul_div_cancel _ (Nat.two_pow_pos _)] at this
    generalize hp : v / 2 ^ 145 = p at e hq
    have hpa : (sgn s p).natAbs = p := by unfold sgn; cases s <;> simp
    have hc : single.read 1098907648 = .number false (2 ^ single.fractionBits) (((4 : Nat) : Int) - single.fractionBits) := by decide +kernel
    have hmax : v * 2 ^ 4 < 2 ^ (single.fractionBits + 2 ^ single.exponentBits - 2) := by
      have h1 : v < 2 ^ 160 := Nat.lt_of_le_of_lt hv (by decide)
      exact pow_split_lt h1 (by decide)
    obtain ⟨r', _, m2, m3⟩ := h.mul_pow two32 hc hmax
    have er : r = r' := by
      have := h1.symm.trans (show floatBits .mul .f32 1098907648 x = some r' from m2)
      simpa using this
    subst er
    have ht := m3.toInt (by decide)
    have eL : (-single.leastPlace).toNat = 149 := by decide
    have ev : v * 2 ^ 4 = p * 2 ^ 149 := by rw [e, Nat.mul_assoc]
    rw [eL, ev, Nat.mul_div_cancel _ (Nat.two_pow_pos _)] at ht
    have eq : q = sgn s p := by
      unfold floatToIntVal at h2
      have ht' : (FloatKind.f32.decode r).toInt .zero = some (sgn s p) := ht
      rw [ht'] at h2
      have : IntKind.i64.min ≤ sgn s p ∧ sgn s p ≤ IntKind.i64.max := by
        have e1 : IntKind.i64.min = -9223372036854775808 := by decide
        have e2 : IntKind.i64.max = 9223372036854775807 := by decide
        rw [e1, e2]; omega
      simp only [this, and_self, if_true, Option.some.injEq] at h2
      exact h2.symm
    have hy := isNum_ofInt (sgn s p) (by rw [hpa]; exact Nat.lt_of_le_of_lt hq (by decide))
    rw [eq, hy.order m3, hpa, ev] at hh
    have hs : sgn (decide (sgn s p < 0)) (p * 2 ^ 149) = sgn s (p * 2 ^ 149) := by
      cases s with
      | false =>
        have : decide (sgn false p < 0) = false := by unfold sgn; simp
        rw [this]
      | true =>
        by_cases hp0 : p = 0
        · subst hp0; rw [Nat.zero_mul]; decide
        · have : decide (sgn true p < 0) = true := by unfold sgn; simp; omega
          rw [this]
    rw [hs, compare_self] at hh
    cases hh

/-- math.Trunc of a number. -/
theorem trunc_num {d : Nat} {s : Bool} {v : Nat} (h : IsNum double d s v) (hv : v < 2 ^ 2097) :
    ∃ t, (FloatKind.f64.decode d).integral .zero = .number s (v / 2 ^ 1074) 0 ∧ FloatKind.f64.encode (.number s (v / 2 ^ 1074) 0) = t ∧ IsNum double t s (v / 2 ^ 1074 * 2 ^ 1074) := by
  have e0 : ((0 : Int) - double.leastPlace).toNat = 1074 := by decide
  have hD : double.leastPlace = -1074 := by decide
  have hB : double.fractionBits + 2 ^ double.exponentBits - 2 = 2098 := by decide
  generalize hu : (1074 : Nat) = u at *
  generalize hb : (2098 : Nat) = B at *
  generalize hb' : (2097 : Nat) = B' at *
  have hvB : v < 2 ^ B := Nat.lt_trans hv ((Nat.pow_lt_pow_iff_right (by omega)).2 (by omega))
  obtain ⟨m, i, h1, h2, h3, h4⟩ := h
  rw [hD] at h2 h4
  have h1' : FloatKind.f64.decode d = .number s m i := h1
  rw [h1']
  simp only [Datum.integral, cut_zero]
  rw [Nat.shiftLeft_eq]
  by_cases hi : 0 ≤ i
  · have e1 : (-i).toNat = 0 := by omega
    have e2 : m * 2 ^ i.toNat * 2 ^ u = m * 2 ^ (i - -1074).toNat := mul_pow_join m _ u _ (by omega)
    have ek : v / 2 ^ u = m * 2 ^ i.toNat := by rw [← h4, ← e2]; exact Nat.mul_div_cancel _ (Nat.two_pow_pos _)
    have hmax : m * 2 ^ (i - double.leastPlace).toNat < 2 ^ (double.fractionBits + 2 ^ double.exponentBits - 2) := by
      rw [hB, hD, h4]; exact hvB
    have hg := isNum_nearest two64 s m i.toNat i h3 (by rw [hD]; exact h2) hmax
    have e3 : i - (i.toNat : Int) = 0 := by omega
    rw [e3, hD, ← e2] at hg
    rw [e1, Nat.pow_zero, Nat.div_one, ek]
    exact ⟨_, rfl, rfl, hg⟩
  · have e1 : i.toNat = 0 := by omega
    have e2 : (2 : Nat) ^ u = 2 ^ (i - -1074).toNat * 2 ^ (-i).toNat := by rw [← Nat.pow_add]; congr 1; omega
    have ek : v / 2 ^ u = m / 2 ^ (-i).toNat := by
      rw [← h4, e2, ← Nat.div_div_eq_div_mul, Nat.mul_div_cancel _ (Nat.two_pow_pos _)]
    have hk : m / 2 ^ (-i).toNat < 2 ^ (double.fractionBits + 1) := Nat.lt_of_le_of_lt (Nat.div_le_self _ _) h3
    have hmax : m / 2 ^ (-i).toNat * 2 ^ ((0 : Int) - double.leastPlace).toNat < 2 ^ (double.fractionBits + 2 ^ double.exponentBits - 2) := by
      rw [e0, hB, ← ek]
      exact Nat.lt_of_le_of_lt (Nat.div_mul_le_self _ _) hvB
    have hg := isNum_nearest two64 s (m / 2 ^ (-i).toNat) 0 0 hk (by decide) hmax
    rw [e0, Nat.pow_zero, Nat.mul_one] at hg
    rw [e1, Nat.pow_zero, Nat.mul_one, ek]
    exact ⟨_, rfl, rfl, hg⟩

theorem IsNum.eq_decide {f : Format} {x y : Nat} {s : Bool} {v u : Nat} (h : IsNum f x s v) (g : IsNum f y s u) : (f.order x y == some .eq) = decide (v = u) := by
  rw [h.order g]
  by_cases e : v = u
  · subst e; rw [compare_self]; simp
  · rw [decide_eq_false e]
    have : compare (sgn s v) (sgn s u) ≠ .eq := by
      intro hh
      have := cmp_eq_of hh
      unfold sgn at this
      cases s <;> simp at this <;> omega
    cases hc : compare (sgn s v) (sgn s u) <;> simp_all
theorem IsNum.le_decide {f : Format} {x y : Nat} {v u : Nat} (h : IsNum f x false v) (g : IsNum f y false u) : (f.order x y == some .lt || f.order x y == some .eq) = decide (v ≤ u) := by
  by_cases e : v ≤ u
  · rw [decide_eq_true e, h.le_true g (sgn_le' e)]
  · rw [decide_eq_false e, h.order g, cmp_gt_of (show sgn false u < sgn false v by unfold sgn; simp; omega)]
    rfl

theorem fine_iff (v : Nat) : v * 2 ^ 925 * 2 ^ 4 = v * 2 ^ 925 * 2 ^ 4 / 2 ^ 1074 * 2 ^ 1074 ↔ v % 2 ^ 145 = 0 := by
  generalize hu : (925 : Nat) = u
  generalize hw : (1074 : Nat) = w
  rw [mul_pow_join v u 4 (u + 4) rfl]
  have e : (2 : Nat) ^ w = 2 ^ 145 * 2 ^ (u + 4) := by rw [← Nat.pow_add]; congr 1; omega
  have hp : 0 < 2 ^ (u + 4) := Nat.two_pow_pos _
  rw [e, Nat.mul_div_mul_right _ _ hp, ← Nat.mul_assoc]
  constructor
  · intro h
    have := Nat.eq_of_mul_eq_mul_right hp h
    have h2 := Nat.div_add_mod v (2 ^ 145)
    rw [Nat.mul_comm, ← this] at h2
    omega
  · intro h
    have h2 := Nat.div_add_mod v (2 ^ 145)
    rw [h, Nat.add_zero, Nat.mul_comm] at h2
    rw [h2]
theorem large_iff (v : Nat) : v * 2 ^ 925 * 2 ^ 4 ≤ 16384 * 2 ^ 1074 ↔ v ≤ 1024 * 2 ^ 149 := by
  generalize hu : (925 : Nat) = u
  generalize hw : (1074 : Nat) = w
  rw [mul_pow_join v u 4 (u + 4) rfl]
  have e : 16384 * (2 : Nat) ^ w = 1024 * 2 ^ 149 * 2 ^ (u + 4) := by
    rw [show (1024 : Nat) = 2 ^ 10 from rfl, show (16384 : Nat) = 2 ^ 14 from rfl, ← Nat.pow_add, ← Nat.pow_add, ← Nat.pow_add]
    congr 1; omega
  rw [e]
  exact Nat.mul_le_mul_right_iff (Nat.two_pow_pos _)

/-- What the program's test computes for a number of float32: all its words and comparisons. -/
theorem multiple_words {x : Nat} {s : Bool} {v : Nat} (h : IsNum single x s v) (hv : v ≤ 16777215 * 2 ^ 253) :
    ∃ d n t, floatToFloatBits .f32 x .f64 = some d ∧ IsNum double d s (v * 2 ^ 925) ∧ floatBits .mul .f64 d 4625196817309499392 = some n ∧
      (FloatKind.f64.decode n).integral .zero = .number s (v * 2 ^ 925 * 2 ^ 4 / 2 ^ 1074) 0 ∧ FloatKind.f64.encode (.number s (v * 2 ^ 925 * 2 ^ 4 / 2 ^ 1074) 0) = t ∧
      (double.order n t == some .eq) = decide (v % 2 ^ 145 = 0) ∧
      (double.order (n % 9223372036854775808) 4670232813583204352 == some .lt || double.order (n % 9223372036854775808) 4670232813583204352 == some .eq) = decide (v ≤ 1024 * 2 ^ 149) := by
  have hv2 : v < 2 ^ 277 := Nat.lt_of_le_of_lt hv (by decide +kernel)
  obtain ⟨d, h1, h2⟩ := toF64 277 h hv2 (by omega)
  have hb : v * 2 ^ 925 < 2 ^ (277 + 925) := by
    generalize hu : (925 : Nat) = u
    exact pow_split hv2
  obtain ⟨n, n1, n2⟩ := mul16_64 (277 + 925) h2 hb (by omega)
  have hb2 : v * 2 ^ 925 * 2 ^ 4 < 2 ^ 2097 := by
    generalize hu : (925 : Nat) = u at *
    generalize hw : (2097 : Nat) = w
    exact pow_split_lt hb (by omega)
  obtain ⟨t, t1, t2, t3⟩ := trunc_num n2 hb2
  refine ⟨d, n, t, h1, h2, n1, t1, t2, ?_, ?_⟩
  · rw [n2.eq_decide t3]
    exact decide_eq_decide.2 (fine_iff v)
  · rw [n2.abs64.le_decide max16384]
    exact decide_eq_decide.2 (large_iff v)
end Go.Proofs.YtfpagmalblmnkaaGreatDoor
