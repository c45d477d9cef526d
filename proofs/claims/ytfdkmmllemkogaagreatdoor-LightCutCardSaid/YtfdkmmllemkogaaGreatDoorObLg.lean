/-
  The walk of LightCut: its loops.
-/
import Derived.Test.YtfdkmmllemkogaaGreatDoorObLf
namespace Go.Proofs.YtfdkmmllemkogaaGreatDoor
open Go.RowKit Go.Shelf
set_option linter.unusedVariables false
set_option linter.unusedSimpArgs false

/-- The ends of the two spans. -/
def cutAt (A W i : Nat) : Nat := if i = 0 then 0 else if i = 1 then A else W
theorem cutAt_le {A W : Nat} (h : A ≤ W) (i : Nat) : cutAt A W i ≤ cutAt A W (i + 1) ∧ cutAt A W (i + 1) ≤ W := by
  unfold cutAt
  match i with
  | 0 => simp; omega
  | 1 => simp; omega
  | i + 2 => simp
theorem covK_empty (W n C0 C1 R0 R1 : Nat) (h : C0 = C1 ∨ R0 = R1) (L : List Int) : covK W n C0 C1 R0 L = covK W n C0 C1 R1 L := by
  unfold covK
  refine List.map_congr_left fun j hj => ?_
  have e : covered C0 C1 R0 (j % W) (j / W) ↔ covered C0 C1 R1 (j % W) (j / W) := by
    unfold covered
    generalize j % W = x
    generalize j / W = y
    omega
  simp only [e]
theorem PeakOf.empty {W H C0 C1 R0 R1 : Nat} {L : List Int} {k : Int} (h : PeakOf W H C0 C1 R0 L k) (he : C0 = C1 ∨ R0 = R1) : PeakOf W H C0 C1 R1 L k := by
  refine ⟨fun x y hx hy hh => h.1 x y hx hy (by unfold covered at hh ⊢; omega), ?_⟩
  rcases h.2 with h2 | ⟨x, y, hx, hy, hh, e⟩
  · exact .inl h2
  · exact .inr ⟨x, y, hx, hy, by unfold covered at hh ⊢; omega, e⟩
/-- What part is answered with: the part, or nothing, with the error of a span. -/
theorem rm_part_any {w : World} {W H n b o : Nat} {L : List Int} (h : RM w W H n L b o) (c : Nat) {C0 C1 R0 R1 : Nat} (hC : C0 ≤ C1 ∧ C1 ≤ W) (hR : R0 ≤ R1 ∧ R1 ≤ H) (r : Int) (hr : r = if C0 = C1 ∨ R0 = R1 then 14 else 0) :
    Calls Tryz.prog 49 #[.agg #[.int .i64 W, .int .i64 H, .slice (some ⟨b, o, none⟩) n c], .agg #[.int .i64 C0, .int .i64 C1], .agg #[.int .i64 R0, .int .i64 R1]] w fun e w' =>
      ∃ X Y a' n' c'', e = .returned (.tuple #[.agg #[.int .i64 X, .int .i64 Y, .slice a' n' c''], .int .i64 r]) ∧ ResV w' r ((C1 - C0 : Nat) : Int) ((R1 - R0 : Nat) : Int) (pieceK W C0 (C1 - C0) R0 (R1 - R0) L) X Y a' n' c'' ∧ Below w.heap.size w w' := by
  by_cases he : C0 = C1 ∨ R0 = R1
  · rw [if_pos he] at hr
    subst hr
    refine (rm_part_none h c C0 C1 R0 R1 (by omega)).mono ?_
    rintro e w' ⟨rfl, hb⟩
    exact ⟨0, 0, none, 0, 0, rfl, ResV.none _ _ _ _ _ (by decide), hb⟩
  · rw [if_neg he] at hr
    subst hr
    refine (rm_part_res h c (DW := C1 - C0) (DH := R1 - R0) (by omega) (by omega) C1 R1 (by omega) (by omega) rfl).mono ?_
    rintro e w' ⟨g, rfl, hv, hb⟩
    exact ⟨_, _, _, _, _, rfl, hv, hb⟩

theorem sum_small (M : Nat) : ∀ L : List Int, (∀ x ∈ L, x.natAbs ≤ M) → L.sum.natAbs ≤ L.length * M
  | [], _ => by simp
  | x :: L, h => by
    have h1 := sum_small M L (fun y hy => h y (.tail _ hy))
    have h2 := h x (.head _)
    have e : (L.length + 1) * M = L.length * M + M := Nat.succ_mul _ _
    rw [List.sum_cons, List.length_cons, e]
    omega
theorem covK_sum {W n C0 C1 R : Nat} {L : List Int} (hn : n ≤ 4096) (h : ∀ j, j < n → (L[j]?.getD 0).natAbs ≤ 16384) : (covK W n C0 C1 R L).sum.natAbs ≤ 67108864 := by
  have h1 := sum_small 16384 (covK W n C0 C1 R L) (fun x hx => by
    obtain ⟨j, hj, rfl⟩ := List.mem_iff_getElem.1 hx
    have hjn : j < n := by simpa [covK] using hj
    have h2 := covK_small (C0 := C0) (C1 := C1) (R := R) (W := W) h hjn
    rw [List.getElem?_eq_getElem hj] at h2
    exact h2)
  rw [covK_len] at h1
  omega
set_option maxRecDepth 1000000 in
set_option maxHeartbeats 25600000 in
theorem cut5 (w : World) (W H b o n c : Nat) (ks : List Int) (hR : RM w W H n ks b o) (n0 n1 : Int) (A Bc : Nat) (hA : A ≤ W) (hBc : Bc ≤ H) (B5 B6 g6 : Nat) (h56 : B5 ≠ B6) (h6 : w.heap.size < B6) (wr : World) (ht : TabAt w) (u4 u7 u8 u9 u10 u11 u12 u13 u14 u15 u16 u17 u18 u19 u20 u21 u22 u23 u24 u25 u26 u27 u28 u29 u30 u31 u32 u33 u34 u35 u36 u37 u38 u39 u40 u41 u42 u43 u44 u45 u46 u47 u48 u49 u50 u51 u52 u53 u54 u55 u56 u57 u58 u59 u60 u61 u62 u63 u64 u65 u66 u67 u68 u69 u70 u71 u72 u73 u74 u75 u76 u77 u78 u79 u80 u81 u82 u83 u84 u85 u86 u87 u88 u89 u90 u91 u92 u93 u94 u95 u96 u97 u98 u99 u100 u101 u102 u103 u104 u105 u106 u107 u108 u109 u110 u111 u112 u113 u114 u115 u116 u117 u118 u119 u120 u121 u122 u123 u124 u125 u126 u127 u128 u129 u130 u131 u132 u133 u134 u135 u136 u137 u138 u139 u140 u141 u142 u143 u144 u145 u146 u147 u148 u149 u150 u151 u152 u153 u154 u155 u156 u157 u158 u159 u160 u161 u162 u163 u164 u165 u166 u167 u168 u169 u170 u171 u172 u173 u174 u175 u176 u177 u178 u179 u180 u181 u182 u183 u184 u185 u186 u187 u188 u189 u190 u191 u192 u193 u194 u195 u196 u197 u198 u199 u200 u201 u202 u203 u204 u205 u206 u207 u208 u209 u210 u211 u212 u213 u214 u215 u216 u217 u218 u219 u220 u221 u222 u223 u224 u225 u226 u227 u228 u229 u230 u231 u232 u233 u234 u235 u236 u237 u238 u239 u240 u241 u242 u243 u244 u245 u246 u247 u248 u249 u250 u251 u252 u253 u254 u255 u256 u257 u258 u259 u260 u261 u262 u263 u264 u265 u266 u267 u268 u269 u270 u271 u272 u273 u274 u275 u276 u277 u278 u279 u280 u281 u282 u283 u284 u285 u286 u287 u288 u289 u290 u291 u292 u293 u294 u295 u296 u297 u298 u299 u300 u301 u302 u303 u304 u305 u306 u307 u308 : Value)
    (hKp : Kp w wr [(B6, (.cells #[.int .i64 W, .int .i64 H, .slice (some ⟨g6, 0, none⟩) n n] 54 (0, 0))), (B5, (.cells #[.int .i64 (A : Nat), .int .i64 (Bc : Nat)] 152 (0, 0))), (w.heap.size, (.cells #[.int .i64 W, .int .i64 H, .slice (some ⟨b, o, none⟩) n c] 48 (0, 0)))]) (hRS : RM wr W H n (List.replicate n 0) g6 0) :
    Code.wp Tryz.prog (cutOf 5) (bodyPost Tryz.prog Tryz.f13 (TruePost w)) ⟨#[.agg #[.int .i64 (W : Nat), .int .i64 (H : Nat), .slice (some ⟨b, o, none⟩) n c], .agg #[.int .u8 n0, .int .u8 n1], .pointer (some ⟨w.heap.size, 0, none⟩), .pointer (some ⟨w.heap.size + 1, 0, none⟩), u4, .pointer (some ⟨B5, 0, none⟩), .pointer (some ⟨B6, 0, none⟩), u7, u8, u9, u10, u11, u12, u13, u14, u15, u16, u17, u18, u19, u20, u21, u22, u23, u24, u25, u26, u27, u28, u29, u30, u31, u32, u33, u34, u35, u36, u37, u38, u39, u40, u41, u42, u43, u44, u45, u46, u47, u48, u49, u50, u51, u52, u53, u54, u55, u56, u57, u58, u59, u60, u61, u62, u63, u64, u65, u66, u67, u68, u69, u70, u71, u72, u73, u74, u75, u76, u77, u78, u79, u80, u81, u82, u83, u84, u85, u86, u87, u88, u89, u90, u91, u92, u93, u94, u95, u96, u97, u98, u99, u100, u101, u102, u103, u104, u105, u106, u107, u108, u109, u110, u111, u112, u113, u114, u115, u116, u117, u118, u119, u120, u121, u122, u123, u124, u125, u126, u127, u128, u129, u130, u131, u132, u133, u134, u135, u136, u137, u138, u139, u140, u141, u142, u143, u144, u145, u146, u147, u148, u149, u150, u151, u152, u153, u154, u155, u156, u157, u158, u159, u160, u161, u162, u163, u164, u165, u166, u167, u168, u169, u170, u171, u172, u173, u174, u175, u176, u177, u178, u179, u180, u181, u182, u183, u184, u185, u186, u187, u188, u189, u190, u191, u192, u193, u194, u195, u196, u197, u198, u199, u200, u201, u202, u203, u204, u205, u206, u207, u208, u209, u210, u211, u212, u213, u214, u215, u216, u217, u218, u219, u220, u221, u222, u223, u224, u225, u226, u227, u228, u229, u230, u231, u232, u233, u234, u235, u236, u237, u238, u239, u240, u241, u242, u243, u244, u245, u246, u247, u248, u249, u250, u251, u252, u253, u254, u255, u256, u257, u258, u259, u260, u261, u262, u263, u264, u265, u266, u267, u268, u269, u270, u271, u272, u273, u274, u275, u276, u277, u278, u279, u280, u281, u282, u283, u284, u285, u286, u287, u288, u289, u290, u291, u292, u293, u294, u295, u296, u297, u298, u299, u300, u301, u302, u303, u304, u305, u306, u307, u308], []⟩ wr := by
  conv => arg 2; whnf
  dsimp only
  have HK := Lib.hid hKp
  have HS := Lib.hid hRS
  have HR := Lib.hid hR
  have HT := Lib.hid ht
  have HA := Lib.hid (And.intro hA hBc)
  have H56 := Lib.hid (And.intro h56 h6)
  have hWd := hR.wid
  have hHt := hR.hei
  have HN := Lib.hid (And.intro hR.area hR.small)
  have HSZ := Lib.hid hR.sizes
  have HLE := Lib.hid hR.len
  clear hKp hRS hR ht hA hBc h56 h6
  obtain ⟨c0, c1⟩ := cells2 (HK.out.2 _ (.tail _ (.head _)))
  obtain ⟨m0, m1, m2⟩ := cells3 (HK.out.2 _ (.tail _ (.tail _ (.head _))))
  go_upto_block 0 with fail
  clear c0 c1 m0 m1 m2
  go_cut [7, 8] (fun s7 s8 wc => ∃ (g : Nat) (pk : Int), s7 = .int .i64 ks.sum ∧ s8 = .float .f32 (smpOf pk) ∧ pk = ks[pkTo ks n]?.getD 0 ∧ Kp w wc [(B6, (.cells #[.int .i64 W, .int .i64 H, .slice (some ⟨g, 0, none⟩) n n] 54 (0, 0))), (w.heap.size, (.cells #[.int .i64 W, .int .i64 H, .slice (some ⟨b, o, none⟩) n c] 48 (0, 0)))] ∧ RM wc W H n ks g 0)
  case first =>
    go_wp2_with fail
    go_loopw [7, 8, 70] (fun s7 s8 iv wy => ∃ (i g : Nat) (pk : Int), i ≤ 2 ∧ iv = .int .i64 i ∧ s7 = .int .i64 (covK W n (cutAt A W i) (cutAt A W (i + 1)) 0 ks).sum ∧ s8 = .float .f32 (smpOf pk) ∧ pk.natAbs ≤ 16384 ∧ PeakOf W H (cutAt A W i) (cutAt A W (i + 1)) 0 ks pk ∧ Kp w wy [(B6, (.cells #[.int .i64 W, .int .i64 H, .slice (some ⟨g, 0, none⟩) n n] 54 (0, 0))), (B5, (.cells #[.int .i64 (A : Nat), .int .i64 (Bc : Nat)] 152 (0, 0))), (w.heap.size, (.cells #[.int .i64 W, .int .i64 H, .slice (some ⟨b, o, none⟩) n c] 48 (0, 0)))] ∧ RM wy W H n (covK W n (cutAt A W i) (cutAt A W (i + 1)) 0 ks) g 0) (fun _ _ iv _ => 2 - (intOf iv).toNat)
    case atStart =>
      have e0 : covK W n (cutAt A W 0) (cutAt A W (0 + 1)) 0 ks = List.replicate n 0 := covK_none W n _ ks
      refine ⟨0, g6, -16384, by omega, rfl, ?_, ?_, by decide, PeakOf.none W H _ ks, HK.out, ?_⟩
      · rw [e0]; simp
      · rw [show smpOf (-16384) = 3296722944 from by decide +kernel]
      · rw [e0]; exact HS.out
    case round =>
      obtain ⟨i, g, pk, hi2, rfl, rfl, rfl, hpk, hpo, hk, hm⟩ := hrel
      have K1 := Lib.hid hk
      have S1 := Lib.hid hm
      have PO1 := Lib.hid hpo
      have PK1 := Lib.hid hpk
      clear hk hm hpo hpk HK HS
      by_cases hlt : i < 2
      · have hltI : (i : Int) < 2 := by omega
        obtain ⟨C0, hC0⟩ : ∃ C0, cutAt A W i = C0 := ⟨_, rfl⟩
        obtain ⟨C1, hC1⟩ : ∃ C1, cutAt A W (i + 1) = C1 := ⟨_, rfl⟩
        have hCC : C0 ≤ C1 ∧ C1 ≤ W := by rw [← hC0, ← hC1]; exact cutAt_le HA.out.1 i
        have hix : ∀ w1 : World, (Instr.index 71 (.agg #[.int .i64 0, .int .i64 (A : Nat), .int .i64 (A : Nat), .int .i64 (W : Nat)]) (.int .i64 (i : Int))).run Tryz.prog w1 = .ok (.agg #[.int .i64 (C0 : Nat), .int .i64 (C1 : Nat)]) w1 := fun w1 => by
          rcases (show i = 0 ∨ i = 1 by omega) with h | h
          · subst h; rw [← hC0, ← hC1]; kernel_rfl
          · subst h; rw [← hC0, ← hC1]; kernel_rfl
        rw [hC0, hC1] at PO1 S1
        have HCE := Lib.hid (And.intro hC0 hC1)
        have HCC := Lib.hid hCC
        obtain ⟨t0, ht0⟩ : ∃ t0, (covK W n (cutAt A W i) (cutAt A W (i + 1)) 0 ks).sum = t0 := ⟨_, rfl⟩
        have HT0 : Hid ((covK W n C0 C1 0 ks).sum = t0) := Lib.hid (by rw [← hC0, ← hC1]; exact ht0)
        rw [ht0]
        clear hC0 hC1 hCC ht0
        obtain ⟨c0, c1⟩ := cells2 (K1.out.2 _ (.tail _ (.head _)))
        obtain ⟨m0, m1, m2⟩ := cells3 (K1.out.2 _ (.tail _ (.tail _ (.head _))))
        go_upto_region 10 with fail
        obtain ⟨W9, hW9⟩ : ∃ W9, wr.alloc (.cells #[.int .i64 (C0 : Nat), .int .i64 (C1 : Nat)] 70) = W9 := ⟨_, rfl⟩
        obtain ⟨B10, hB10⟩ : ∃ B10, wr.heap.size = B10 := ⟨_, rfl⟩
        have k9 := K1.out.alloc (.cells #[.int .i64 (C0 : Nat), .int .i64 (C1 : Nat)] 70)
        have s9 := S1.out.kept ((Below.refl _ wr).alloc (Nat.le_refl _) (.cells #[.int .i64 (C0 : Nat), .int .i64 (C1 : Nat)] 70))
        rw [hW9] at k9 s9 ⊢
        rw [hB10] at k9 ⊢
        have K9 := Lib.hid k9.swap
        have S9 := Lib.hid s9
        clear hW9 hB10 k9 s9 c0 c1 m0 m1 m2 K1 S1 hix
        obtain ⟨c0, c1⟩ := cells2 (K9.out.2 _ (.tail _ (.tail _ (.head _))))
        obtain ⟨m0, m1, m2⟩ := cells3 (K9.out.2 _ (.tail _ (.tail _ (.tail _ (.head _)))))
        go_wp2_with fail
        clear c0 c1 m0 m1 m2
        go_loopw [7, 8, 82] (fun s7 s8 jv wz => ∃ (j g : Nat) (pk : Int), j ≤ 2 ∧ jv = .int .i64 j ∧ s7 = .int .i64 (covK W n C0 C1 (cutAt Bc H j) ks).sum ∧ s8 = .float .f32 (smpOf pk) ∧ pk.natAbs ≤ 16384 ∧ PeakOf W H C0 C1 (cutAt Bc H j) ks pk ∧ Kp w wz [(B6, (.cells #[.int .i64 W, .int .i64 H, .slice (some ⟨g, 0, none⟩) n n] 54 (0, 0))), (B10, (.cells #[.int .i64 (C0 : Nat), .int .i64 (C1 : Nat)] 70 (0, 0))), (B5, (.cells #[.int .i64 (A : Nat), .int .i64 (Bc : Nat)] 152 (0, 0))), (w.heap.size, (.cells #[.int .i64 W, .int .i64 H, .slice (some ⟨b, o, none⟩) n c] 48 (0, 0)))] ∧ RM wz W H n (covK W n C0 C1 (cutAt Bc H j) ks) g 0) (fun _ _ jv _ => 2 - (intOf jv).toNat)
        case atStart => exact ⟨0, g, pk, by omega, rfl, by rw [← HT0.out]; rfl, rfl, PK1.out, PO1.out, K9.out, S9.out⟩
        case round =>
          obtain ⟨j, g', pk', hj2, rfl, rfl, rfl, hpk', hpo', hk', hm'⟩ := hrel
          have K2 := Lib.hid hk'
          have S2 := Lib.hid hm'
          have PO2 := Lib.hid hpo'
          have PK2 := Lib.hid hpk'
          clear hk' hm' hpo' hpk' K9 S9 PO1 PK1 HT0
          by_cases hlt2 : j < 2
          · have hlt2I : (j : Int) < 2 := by omega
            obtain ⟨R0, hR0⟩ : ∃ R0, cutAt Bc H j = R0 := ⟨_, rfl⟩
            obtain ⟨R1, hR1⟩ : ∃ R1, cutAt Bc H (j + 1) = R1 := ⟨_, rfl⟩
            have hRR : R0 ≤ R1 ∧ R1 ≤ H := by rw [← hR0, ← hR1]; exact cutAt_le HA.out.2 j
            have hjx : ∀ w1 : World, (Instr.index 71 (.agg #[.int .i64 0, .int .i64 (Bc : Nat), .int .i64 (Bc : Nat), .int .i64 (H : Nat)]) (.int .i64 (j : Int))).run Tryz.prog w1 = .ok (.agg #[.int .i64 (R0 : Nat), .int .i64 (R1 : Nat)]) w1 := fun w1 => by
              rcases (show j = 0 ∨ j = 1 by omega) with h | h
              · subst h; rw [← hR0, ← hR1]; kernel_rfl
              · subst h; rw [← hR0, ← hR1]; kernel_rfl
            rw [hR0] at PO2 S2
            have HRE := Lib.hid (And.intro hR0 hR1)
            have HRR := Lib.hid hRR
            obtain ⟨tt, htt⟩ : ∃ tt, (covK W n C0 C1 (cutAt Bc H j) ks).sum = tt := ⟨_, rfl⟩
            have HTT : Hid ((covK W n C0 C1 R0 ks).sum = tt) := Lib.hid (by rw [← hR0]; exact htt)
            rw [htt]
            clear hR0 hR1 hRR htt
            go_upto_region 13 with fail
            obtain ⟨W12, hW12⟩ : ∃ W12, wr.alloc (.cells #[.int .i64 (R0 : Nat), .int .i64 (R1 : Nat)] 70) = W12 := ⟨_, rfl⟩
            obtain ⟨B12, hB12⟩ : ∃ B12, wr.heap.size = B12 := ⟨_, rfl⟩
            have k12 := K2.out.alloc (.cells #[.int .i64 (R0 : Nat), .int .i64 (R1 : Nat)] 70)
            have s12 := S2.out.kept ((Below.refl _ wr).alloc (Nat.le_refl _) (.cells #[.int .i64 (R0 : Nat), .int .i64 (R1 : Nat)] 70))
            rw [hW12] at k12 s12 ⊢
            rw [hB12] at k12 ⊢
            have K3 := Lib.hid k12.swap2
            have S3 := Lib.hid s12
            clear hW12 hB12 k12 s12 K2 S2 hjx
            obtain ⟨r, hr⟩ : ∃ r : Int, r = if C0 = C1 ∨ R0 = R1 then 14 else 0 := ⟨_, rfl⟩
            have HRR2 := Lib.hid hr
            clear hr
            go_cut [13, 14] (fun s13 s14 wc => (∃ B, s13 = .pointer (some ⟨B, 0, none⟩) ∧ ResBox wc B 54 r ((C1 - C0 : Nat) : Int) ((R1 - R0 : Nat) : Int) (pieceK W C0 (C1 - C0) R0 (R1 - R0) ks)) ∧ s14 = .int .i64 r ∧ Below W12.heap.size W12 wc)
            case first =>
              obtain ⟨m0, m1, m2⟩ := cells3 (K3.out.2 _ (.tail _ (.tail _ (.tail _ (.tail _ (.head _))))))
              obtain ⟨p0, p1⟩ := cells2 (K3.out.2 _ (.head _))
              obtain ⟨q0, q1⟩ := cells2 (K3.out.2 _ (.tail _ (.head _)))
              have lm := lt_of_blk (K3.out.2 _ (.tail _ (.tail _ (.tail _ (.tail _ (.head _))))))
              have lp := lt_of_blk (K3.out.2 _ (.head _))
              have lq := lt_of_blk (K3.out.2 _ (.tail _ (.head _)))
              have KO : Hid (∀ w1 : World, Blw W12.heap.size W12 w1 → Calls Tryz.prog 38 #[.agg #[.int .i64 W, .int .i64 H, .slice (some ⟨b, o, none⟩) n c]] w1 fun e w' =>
                  ∃ g c', e = .returned (.agg #[.int .i64 W, .int .i64 H, .slice (some ⟨g, 0, none⟩) n c']) ∧ RM w' W H n ks g 0 ∧ Below w1.heap.size w1 w' ∧ Below W12.heap.size W12 w') :=
                Lib.hid fun w1 (h : Below W12.heap.size W12 w1) => (rm_own (HR.out.kept (K3.out.1.trans (h.mono K3.out.1.size))) c).mono fun e w' ⟨g, c', he, hm, hb⟩ => ⟨g, c', he, hm, hb, h.trans (hb.mono h.size)⟩
              have KA : Hid (∀ w1 g c', RM w1 W H n ks g 0 → Blw W12.heap.size W12 w1 → Calls Tryz.prog 49 #[.agg #[.int .i64 W, .int .i64 H, .slice (some ⟨g, 0, none⟩) n c'], .agg #[.int .i64 (C0 : Nat), .int .i64 (C1 : Nat)], .agg #[.int .i64 (R0 : Nat), .int .i64 (R1 : Nat)]] w1 fun e w' =>
                  ∃ X Y a' n' c'', e = .returned (.tuple #[.agg #[.int .i64 X, .int .i64 Y, .slice a' n' c''], .int .i64 r]) ∧ ResV w' r ((C1 - C0 : Nat) : Int) ((R1 - R0 : Nat) : Int) (pieceK W C0 (C1 - C0) R0 (R1 - R0) ks) X Y a' n' c'' ∧ Below w1.heap.size w1 w' ∧ Below W12.heap.size W12 w') :=
                Lib.hid fun w1 g c' h1 (h : Below W12.heap.size W12 w1) => (rm_part_any h1 c' HCC.out HRR.out r HRR2.out).mono fun e w' ⟨X, Y, a', n', c'', he, hv, hb⟩ => ⟨X, Y, a', n', c'', he, hv, hb, h.trans (hb.mono h.size)⟩
              have hR : Blw W12.heap.size W12 W12.drew := show Below _ _ _ from (Below.refl W12.heap.size W12).drew
              clear K3 S3 HR HT HA HN HSZ HLE HTT PO2 PK2
              go_region_held3 (fun w' => w'.cell? ⟨w.heap.size, 0, none⟩ = some (.int .i64 W) ∧ w'.cell? ⟨w.heap.size, 1, none⟩ = some (.int .i64 H) ∧ w'.cell? ⟨w.heap.size, 2, none⟩ = some (.slice (some ⟨b, o, none⟩) n c) ∧ w'.cell? ⟨B10, 0, none⟩ = some (.int .i64 (C0 : Nat)) ∧ w'.cell? ⟨B10, 1, none⟩ = some (.int .i64 (C1 : Nat)) ∧
                  w'.cell? ⟨B12, 0, none⟩ = some (.int .i64 (R0 : Nat)) ∧ w'.cell? ⟨B12, 1, none⟩ = some (.int .i64 (R1 : Nat)) ∧ Blw W12.heap.size W12 w')
                (first
                  | (go_split_ands; refine ⟨?_, ?_, ?_, ?_, ?_, ?_, ?_, ?_⟩ <;> first | (with_reducible assumption) | exact hb2 | ((rw [hb2.cell (by simp; try omega)]; assumption)))
                  | (go_split_ands; refine ⟨?_, ?_, ?_, ?_, ?_, ?_, ?_, ?_⟩ <;> first | ((rw [(hb2.alloc hb2.size _).cell (by simp; try omega)]; assumption)) | exact (hb2.alloc hb2.size _ : Below _ _ _))
                  | (go_split_ands; refine ⟨?_, ?_, ?_, ?_, ?_, ?_, ?_, ?_⟩ <;> first | ((refine Eq.trans (Below.cell (B := W12.heap.size) (w := W12) (below_set3 hb2 ?_ _ _ _) ?_) ?_ <;> first | assumption | omega | (simp; done) | (simp; omega)); done) | ((refine (below_set3 hb2 ?_ _ _ _ : Below _ _ _) <;> first | omega | (simp; done) | (simp; omega)); done))
                  | (go_split_ands; refine ⟨?_, ?_, ?_, ?_, ?_, ?_, ?_, ?_⟩ <;> first | ((rw [((Below.refl W12.heap.size W12).alloc (Nat.le_refl _) _).drew.cell (by simp; try omega)]; assumption)) | exact (((Below.refl W12.heap.size W12).alloc (Nat.le_refl _) _).drew : Below _ _ _))
                  | (go_keep; done))
                (first
                  | (go_at_call 38; refine (KO.out _ ?_).mono ?_; rotate_left 1; rintro e wA ⟨ga, ca, rfl, hmA, hbA, hb2⟩; (obtain ⟨hcA, hfA⟩ := bcell hbA); (have hsA := hbA.size); (try simp at hsA); (try have hq0 : W12.heap.size < wA.heap.size := by omega); rotate_left 1; (simp [*]))
                  | (go_at_call 49; refine (KA.out _ _ _ (by first | exact hmA | exact hmA.kept ((Below.refl _ wA).alloc (Nat.le_refl _) _)) (by first | exact (hb2 : Below _ _ _) | exact (hb2.alloc hb2.size _ : Below _ _ _))).mono ?_; rintro e wC ⟨X, Y, a', n', c'', rfl, hres, hbC, hb2⟩; (obtain ⟨hcC, hfC⟩ := bcell hbC); (have hsC := hbC.size); (try simp at hsC); (try have hq4 : W12.heap.size < wC.heap.size := by omega); (try have hq5 : wA.heap.size < wC.heap.size := by omega)))
              all_goals go_wp2_with fail
              all_goals go_meet
              all_goals first
                | exact ⟨⟨_, rfl, ResBox.new hres⟩, rfl, hb2.alloc hb2.size _⟩
                | (have z := (hbC.block wA.heap.size (by simp)).trans (blk_alloc_new wA _); exact ⟨⟨_, rfl, ResBox.put z hres⟩, rfl, below_set3 hb2 (by omega) _ _ _⟩)
                | (have z := (hbC.block W12.heap.size (by omega)).trans ((hbA.block W12.heap.size (by simp)).trans (blk_alloc_new W12 _)); exact ⟨⟨_, rfl, ResBox.put z hres⟩, rfl, below_set3 hb2 (by omega) _ _ _⟩)
            case rest =>
              rename_i hK
              obtain ⟨⟨B13, rfl, hbx⟩, rfl, hb⟩ := hcut
              refine hK _ _ ?_
              clear hK
              have K4 := Lib.hid (K3.out.call hb)
              have S4 := Lib.hid (S3.out.kept hb)
              clear K3 S3 hb
              by_cases he : C0 = C1 ∨ R0 = R1
              · obtain rfl : r = 14 := by rw [HRR2.out, if_pos he]
                have HE := Lib.hid he
                obtain ⟨p0, p1⟩ := cells2 (K4.out.2 _ (.head _))
                obtain ⟨q0, q1⟩ := cells2 (K4.out.2 _ (.tail _ (.head _)))
                by_cases hc : C0 = C1
                · have hcb : ((C0 : Int) == (C1 : Int)) = true := by simp [hc]
                  clear he hc hbx
                  go_wp2_with fail
                  go_roundw
                  case rel => exact ⟨j + 1, g', pk', by omega, by go_num, by rw [HRE.out.2, ← covK_empty W n C0 C1 R0 R1 HE.out ks, HTT.out], rfl, PK2.out, by rw [HRE.out.2]; exact PO2.out.empty HE.out, (K4.out.subs (fun p hp => .tail _ hp) : Kp w _ [(B10, (.cells #[.int .i64 (C0 : Nat), .int .i64 (C1 : Nat)] 70 (0, 0))), (B6, (.cells #[.int .i64 W, .int .i64 H, .slice (some ⟨g', 0, none⟩) n n] 54 (0, 0))), (B5, (.cells #[.int .i64 (A : Nat), .int .i64 (Bc : Nat)] 152 (0, 0))), (w.heap.size, (.cells #[.int .i64 W, .int .i64 H, .slice (some ⟨b, o, none⟩) n c] 48 (0, 0)))]).swap, by rw [HRE.out.2, ← covK_empty W n C0 C1 R0 R1 HE.out ks]; exact S4.out⟩
                  case measure => simp [intOf]; omega
                · have hcb : ((C0 : Int) == (C1 : Int)) = false := by simp; omega
                  have hrb : ((R0 : Int) == (R1 : Int)) = true := by simp; omega
                  clear he hc hbx
                  go_wp2_with fail
                  go_roundw
                  case rel => exact ⟨j + 1, g', pk', by omega, by go_num, by rw [HRE.out.2, ← covK_empty W n C0 C1 R0 R1 HE.out ks, HTT.out], rfl, PK2.out, by rw [HRE.out.2]; exact PO2.out.empty HE.out, (K4.out.subs (fun p hp => .tail _ hp) : Kp w _ [(B10, (.cells #[.int .i64 (C0 : Nat), .int .i64 (C1 : Nat)] 70 (0, 0))), (B6, (.cells #[.int .i64 W, .int .i64 H, .slice (some ⟨g', 0, none⟩) n n] 54 (0, 0))), (B5, (.cells #[.int .i64 (A : Nat), .int .i64 (Bc : Nat)] 152 (0, 0))), (w.heap.size, (.cells #[.int .i64 W, .int .i64 H, .slice (some ⟨b, o, none⟩) n c] 48 (0, 0)))]).swap, by rw [HRE.out.2, ← covK_empty W n C0 C1 R0 R1 HE.out ks]; exact S4.out⟩
                  case measure => simp [intOf]; omega
              · obtain rfl : r = 0 := by rw [HRR2.out, if_neg he]
                have hcc := HCC.out
                have hrr := HRR.out
                obtain ⟨DW, hDW⟩ : ∃ DW, C1 - C0 = DW := ⟨_, rfl⟩
                obtain ⟨DH, hDH⟩ : ∃ DH, R1 - R0 = DH := ⟨_, rfl⟩
                rw [hDW, hDH] at hbx
                have eC : C0 + DW = C1 := by omega
                have eR : R0 + DH = R1 := by omega
                have hdw : 1 ≤ DW ∧ 1 ≤ DH := by omega
                obtain ⟨gp, cp, hq, hP⟩ := hbx.rm (pieceK_len ..) (Nat.mul_comm DH DW) ⟨by omega, by omega⟩ ⟨by omega, by omega⟩
                obtain ⟨P, hPe⟩ : ∃ P, pieceK W C0 DW R0 DH ks = P := ⟨_, rfl⟩
                have hsum := cov_sum HN.out.1 (C0 := C0) (DW := DW) (R0 := R0) (DH := DH) (by omega) (by omega) ks
                have hpl := cov_placed HN.out.1 (C0 := C0) (DW := DW) (R0 := R0) (DH := DH) (by omega) (by omega) ks
                rw [eC, eR, hPe] at hsum hpl
                rw [hPe] at hP
                have hpo3 : PeakOf W H C0 C1 R1 ks (max pk' (P[pkTo P (DW * DH)]?.getD 0)) := by
                  have h0 : PeakOf W H C0 (C0 + DW) R0 ks pk' := by rw [eC]; exact PO2.out
                  have h := h0.part (DH := DH) ⟨by omega, by omega⟩ ⟨by omega, by omega⟩
                  rw [eC, eR, hPe] at h
                  exact h
                have hN1 : 1 ≤ DW * DH := Nat.mul_pos (by omega) (by omega)
                have hPs : (P[pkTo P (DW * DH)]?.getD 0).natAbs ≤ 16384 := hP.sizes _ (pkTo_lt P _ hN1)
                obtain ⟨pk3, hpk3⟩ : ∃ pk3, max pk' (P[pkTo P (DW * DH)]?.getD 0) = pk3 := ⟨_, rfl⟩
                have hpk3s : pk3.natAbs ≤ 16384 := by
                  have h1 := PK2.out
                  rw [← hpk3]
                  rcases Int.le_total pk' (P[pkTo P (DW * DH)]?.getD 0) with h | h
                  · rw [Int.max_eq_right h]; exact hPs
                  · rw [Int.max_eq_left h]; exact h1
                rw [hpk3] at hpo3
                have hsb := covK_sum (W := W) (C0 := C0) (C1 := C1) (R := R1) HN.out.2 HSZ.out
                obtain ⟨t3, ht3⟩ : ∃ t3, (covK W n C0 C1 R1 ks).sum = t3 := ⟨_, rfl⟩
                rw [ht3] at hsb
                have HT3 := Lib.hid ht3
                have HPO := Lib.hid hpo3
                have HPK := Lib.hid hpk3s
                have htw : IntKind.i64.wrap (tt + P.sum) = t3 := by
                  rw [← HTT.out, hsum, ht3]
                  exact IntWalk.i64_in _ ⟨by omega, by omega⟩
                have hcw : IntKind.i64.wrap ((C1 : Int) - (C0 : Int)) = (DW : Int) := by
                  rw [show (C1 : Int) - (C0 : Int) = (DW : Int) by omega]; exact IntWalk.i64_in _ ⟨by omega, by omega⟩
                have hrw : IntKind.i64.wrap ((R1 : Int) - (R0 : Int)) = (DH : Int) := by
                  rw [show (R1 : Int) - (R0 : Int) = (DH : Int) by omega]; exact IntWalk.i64_in _ ⟨by omega, by omega⟩
                refine cut14 w W H b o n c ks n0 n1 C0 DW R0 DH (DW * DH) cp C1 R1 P (covK W n C0 C1 R0 ks) (covK W n C0 C1 R1 ks) tt t3 pk' pk3 B5 B6 B10 B12 B13 g' gp _ _ (Nat.mul_comm DH DW) HN.out.1 (by omega) (by omega) hWd.2 hHt.2 hpl.symm (fun j hj => covK_small HSZ.out hj) htw PK2.out hpk3.symm hPs H56.out.1 H56.out.2 HR.out hPe.symm hdw hcw hrw (by simp; omega) (by simp; omega) _ _ _ _ _ _ _ _ _ _ _ _ _ _ _ _ _ _ _ _ _ _ _ _ _ _ _ _ _ _ _ _ _ _ _ _ _ _ _ _ _ _ _ _ _ _ _ _ _ _ _ _ _ _ _ _ _ _ _ _ _ _ _ _ _ _ _ _ _ _ _ _ _ _ _ _ _ _ _ _ _ _ _ _ _ _ _ _ _ _ _ _ _ _ _ _ _ _ _ _ _ _ _ _ _ _ _ _ _ _ _ _ _ _ _ _ _ _ _ _ _ _ _ _ _ _ _ _ _ _ _ _ _ _ _ _ _ _ _ _ _ _ _ _ _ _ _ _ _ _ _ _ _ _ _ _ _ _ _ _ _ _ _ _ _ _ _ _ _ _ _ _ _ _ _ _ _ _ _ _ _ _ _ _ _ _ _ _ _ _ _ _ _ _ _ _ _ _ _ _ _ _ _ _ _ _ _ _ _ _ _ _ _ _ _ _ _ _ _ _ _ _ _ _ _ _ _ _ _ _ _ _ _ _ _ _ _ _ _ _ _ _ _ _ _ _ _ _ _ _ _ _ _ _ _ _ _ _ _ _ _ _ _ _ _ _ _ _ _ _ _ _ _ _ _ _ _ _ _ _ _ _ _ _ _ _ _ _ _ _ _ _ _ _ _ _ _ _ (K4.out.cons hq) hP S4.out ?_
                clear hbx hq hP hsum hpl hpo3 hPs hpk3 hpk3s hsb ht3 htw hcw hrw he hPe K4 S4
                intro w' g6' v4 v12 v13 v14 v15 v16 v17 v18 v19 v20 v21 v22 v23 v24 v25 v26 v27 v83 v84 v85 v86 v87 v88 v89 v90 v91 v92 v93 v94 v95 v96 v97 v98 v99 v100 v101 v102 v103 v104 v105 v106 v107 v108 v109 v110 v111 v112 v113 v114 v115 v116 v117 v118 v119 v120 v121 v122 v123 v124 v125 v126 v127 v128 v129 v130 v131 v132 v133 v134 v135 v136 v137 v138 v139 v140 v141 v142 v143 v144 v145 v146 v147 v148 v149 v150 v151 v152 v153 v154 v155 v156 v157 v158 v159 v160 v161 v162 v163 v164 v165 v166 v167 v168 v169 v170 v171 v172 v173 v174 v175 v176 v177 v178 v179 v180 v181 v182 v183 v184 v185 v186 v187 v188 v189 v190 v191 v192 v193 v194 v195 v196 v197 v198 v199 v200 v201 v202 v203 v204 v205 v206 v207 v208 v209 v210 v211 v212 v213 v214 v215 v216 v217 v218 v219 v220 v221 v222 v223 v224 v225 v226 v227 v228 v229 v230 v231 hk' hr'
                have FK := Lib.hid hk'
                have FR := Lib.hid hr'
                clear hk' hr'
                go_wp2_with fail
                go_roundw
                case rel => exact ⟨j + 1, g6', pk3, by omega, by go_num, by rw [HRE.out.2, HT3.out], rfl, HPK.out, by rw [HRE.out.2]; exact HPO.out, FK.out, by rw [HRE.out.2]; exact FR.out⟩
                case measure => simp [intOf]; omega
          · obtain rfl : j = 2 := by omega
            have e2 : covK W n C0 C1 (cutAt Bc H 2) ks = covK W n (cutAt A W (i + 1)) (cutAt A W (i + 1 + 1)) 0 ks := by
              rw [show cutAt Bc H 2 = H from rfl, covK_next W H n C0 C1 HN.out.1 HCC.out.1, HCE.out.2]
              exact covK_c1 ..
            have hpn : PeakOf W H (cutAt A W (i + 1)) (cutAt A W (i + 1 + 1)) 0 ks pk' := by
              have h := PeakOf.next (show PeakOf W H C0 C1 H ks pk' from PO2.out) HCC.out.1 (cutAt A W (i + 1 + 1))
              rw [← HCE.out.2] at h
              exact h
            have S3 := S2.out
            rw [e2] at S3
            have S4 := Lib.hid S3
            have HPN := Lib.hid hpn
            rw [e2]
            obtain ⟨tt, htt⟩ : ∃ tt, (covK W n (cutAt A W (i + 1)) (cutAt A W (i + 1 + 1)) 0 ks).sum = tt := ⟨_, rfl⟩
            have HTT := Lib.hid htt
            rw [htt]
            clear e2 hpn S3 htt
            go_wp2_with fail
            go_roundw
            case rel => exact ⟨i + 1, g', pk', by omega, by go_num, by rw [HTT.out], rfl, PK2.out, HPN.out, K2.out.drop1, S4.out⟩
            case measure => simp [intOf]; omega
      · obtain rfl : i = 2 := by omega
        have hn1 : 1 ≤ n := by rw [← HN.out.1]; exact Nat.mul_pos (by omega) (by omega)
        have e2 : covK W n (cutAt A W 2) (cutAt A W (2 + 1)) 0 ks = ks := covK_all W H n _ 0 HN.out.1 ks HLE.out
        have hz : pk = ks[pkTo ks n]?.getD 0 := PeakOf.all (show PeakOf W H W _ 0 ks pk from PO1.out) HN.out.1 hn1 HSZ.out
        have S3 := S1.out
        rw [e2] at S3
        have S4 := Lib.hid S3
        rw [e2]
        obtain ⟨tt, htt⟩ : ∃ tt, ks.sum = tt := ⟨_, rfl⟩
        rw [htt]
        have HZ := Lib.hid hz
        clear e2 hz S3 hn1
        go_wp2_with fail
        go_meet
        exact ⟨g, pk, by first | rfl | rw [htt], rfl, HZ.out, K1.out.drop1, S4.out⟩
  case rest =>
    rename_i hK
    obtain ⟨g, pk, rfl, rfl, hpk, hk', hr'⟩ := hcut
    refine hK _ _ ?_
    clear hK
    exact cut41 w W H b o n c ks HR.out n0 n1 _ pk rfl hpk B5 B6 g _ HT.out _ _ _ _ _ _ _ _ _ _ _ _ _ _ _ _ _ _ _ _ _ _ _ _ _ _ _ _ _ _ _ _ _ _ _ _ _ _ _ _ _ _ _ _ _ _ _ _ _ _ _ _ _ _ _ _ _ _ _ _ _ _ _ _ _ _ _ _ _ _ _ _ _ _ _ _ _ _ _ _ _ _ _ _ _ _ _ _ _ _ _ _ _ _ _ _ _ _ _ _ _ _ _ _ _ _ _ _ _ _ _ _ _ _ _ _ _ _ _ _ _ _ _ _ _ _ _ _ _ _ _ _ _ _ _ _ _ _ _ _ _ _ _ _ _ _ _ _ _ _ _ _ _ _ _ _ _ _ _ _ _ _ _ _ _ _ _ _ _ _ _ _ _ _ _ _ _ _ _ _ _ _ _ _ _ _ _ _ _ _ _ _ _ _ _ _ _ _ _ _ _ _ _ _ _ _ _ _ _ _ _ _ _ _ _ _ _ _ _ _ _ _ _ _ _ _ _ _ _ _ _ _ _ _ _ _ _ _ _ _ _ _ _ _ _ _ _ _ _ _ _ _ _ _ _ _ _ _ _ _ _ _ _ _ _ _ _ _ _ _ _ _ _ _ _ _ _ _ _ _ _ _ _ _ _ _ _ _ _ _ _ _ _ _ _ _ _ _ _ _ _ hk' hr'
end Go.Proofs.YtfdkmmllemkogaaGreatDoor
