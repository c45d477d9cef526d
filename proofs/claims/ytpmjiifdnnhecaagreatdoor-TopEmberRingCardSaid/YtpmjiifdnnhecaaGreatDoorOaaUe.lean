/-
  TopEmberRing: its walk from the end of the first loop on.
-/
import Derived.Test.YtpmjiifdnnhecaaGreatDoorOaaUd
namespace Go.Proofs.YtpmjiifdnnhecaaGreatDoor
open Go.RowKit Go.Shelf
set_option linter.unusedVariables false
set_option linter.unusedSimpArgs false

set_option maxRecDepth 1000000 in
set_option maxHeartbeats 25600000 in
theorem ring21 (w : World) (s D n N b o c : Nat) (L : List Int) (hs : 1 ≤ s ∧ s ≤ 8) (hD : 2 * s = D) (hN : D * D = N) (hL : L.length = s * s) (hsm : ∀ j : Nat, (L[j]?.getD 0 : Int).natAbs ≤ 256) (R : List Int) (hRR : ringK s L 4 = R) (Tt : Int) (hT : L.sum = Tt) (hn : s * s = n) (sh : Int) (hsh : 0 ≤ sh ∧ sh ≤ 4) (hM : RM w s s n L b o) (Bt gt ct Ba ga ca : Nat) (ht : TabAt w) (hm : MaxAt w) (wr : World)
    (u0 u1 u3 u4 u8 u11 u12 u13 u14 u15 u16 u17 u18 u19 u20 u21 u22 u23 u24 u25 u26 u27 u28 u29 u30 u31 u32 u33 u34 u35 u36 u37 u38 u39 u40 u41 u42 u43 u44 u45 u46 u47 u48 u49 u50 u51 u52 u53 u54 u55 u56 u57 u58 u59 u60 u61 u62 u63 u64 u65 u66 u67 u68 u69 u70 u71 u72 u73 u74 u75 u76 u77 u78 u79 u80 u81 u82 u83 u84 u85 u86 u87 u88 u89 u90 u91 u92 u93 u94 u95 u96 u97 u98 u99 u100 u101 u102 u103 u104 u105 u106 u107 u108 u109 u110 u111 u112 u113 u114 u115 u116 u117 u118 u119 u120 u121 u122 u123 u124 u125 u126 u127 u128 u129 u130 u131 u132 u133 u134 u135 u136 u137 u138 u139 u140 u141 u142 u143 u144 u145 u146 u147 u148 u149 u150 u151 u152 u153 u154 u155 u156 u157 u158 u159 u160 u161 u162 u163 u164 u165 u166 u167 u168 u169 u170 u171 u172 u173 u174 u175 u176 u177 u178 u179 u180 u181 u182 u183 u184 u185 u186 u187 u188 u189 u190 u191 u192 u193 u194 u195 u196 u197 u198 u199 u200 u201 u202 u203 u204 u205 u206 u207 u208 u209 u210 u211 u212 u213 u214 u215 u216 u217 u218 u219 u220 u221 u222 u223 u224 u225 u226 u227 u228 u229 u230 u231 u232 u233 u234 u235 u236 u237 u238 u239 u240 u241 u242 u243 u244 u245 u246 u247 u248 u249 u250 u251 u252 u253 u254 u255 u256 u257 u258 u259 u260 u261 u262 u263 u264 u265 u266 u267 u268 u269 u270 u271 u272 u273 u274 u275 u276 u277 u278 u279 u280 u281 u282 : Value)
    (hKp : Kp w wr [(Bt, (.cells #[.int .i64 (s : Nat), .int .i64 (s : Nat), .slice (some ⟨gt, 0, none⟩) n ct] 121 (0, 0))), (Ba, (.cells #[.int .i64 (D : Nat), .int .i64 (D : Nat), .slice (some ⟨ga, 0, none⟩) N ca] 121 (0, 0))), (w.heap.size, (.cells #[.int .i64 (s : Nat), .int .i64 (s : Nat), .slice (some ⟨b, o, none⟩) n c] 117 (0, 0)))]) (hTn : RM wr s s n L gt 0) (hA : RM wr D D N R ga 0) :
    Code.wp Tryz.prog (cutR 21) (bodyPost Tryz.prog Tryz.f10 (RingPost w)) ⟨#[u0, u1, .pointer (some ⟨w.heap.size, 0, none⟩), u3, u4, .int .i64 (s : Nat), .int .i64 sh, .int .i64 Tt, u8, .pointer (some ⟨Bt, 0, none⟩), .pointer (some ⟨Ba, 0, none⟩), u11, u12, u13, u14, u15, u16, u17, u18, u19, u20, u21, u22, u23, u24, u25, u26, u27, u28, u29, u30, u31, u32, u33, u34, u35, u36, u37, u38, u39, u40, u41, u42, u43, u44, u45, u46, u47, u48, u49, u50, u51, u52, u53, u54, u55, u56, u57, u58, u59, u60, u61, u62, u63, u64, u65, u66, u67, u68, u69, u70, u71, u72, u73, u74, u75, u76, u77, u78, u79, u80, u81, u82, u83, u84, u85, u86, u87, u88, u89, u90, u91, u92, u93, u94, u95, u96, u97, u98, u99, u100, u101, u102, u103, u104, u105, u106, u107, u108, u109, u110, u111, u112, u113, u114, u115, u116, u117, u118, u119, u120, u121, u122, u123, u124, u125, u126, u127, u128, u129, u130, u131, u132, u133, u134, u135, u136, u137, u138, u139, u140, u141, u142, u143, u144, u145, u146, u147, u148, u149, u150, u151, u152, u153, u154, u155, u156, u157, u158, u159, u160, u161, u162, u163, u164, u165, u166, u167, u168, u169, u170, u171, u172, u173, u174, u175, u176, u177, u178, u179, u180, u181, u182, u183, u184, u185, u186, u187, u188, u189, u190, u191, u192, u193, u194, u195, u196, u197, u198, u199, u200, u201, u202, u203, u204, u205, u206, u207, u208, u209, u210, u211, u212, u213, u214, u215, u216, u217, u218, u219, u220, u221, u222, u223, u224, u225, u226, u227, u228, u229, u230, u231, u232, u233, u234, u235, u236, u237, u238, u239, u240, u241, u242, u243, u244, u245, u246, u247, u248, u249, u250, u251, u252, u253, u254, u255, u256, u257, u258, u259, u260, u261, u262, u263, u264, u265, u266, u267, u268, u269, u270, u271, u272, u273, u274, u275, u276, u277, u278, u279, u280, u281, u282], []⟩ wr := by
  conv => arg 2; whnf
  dsimp only
  obtain ⟨Sp, hSp⟩ : ∃ Sp, roundsTo D D sh R (gridPlaces D (D * D)) = Sp := ⟨_, rfl⟩
  have hRl : R.length = D * D := by rw [← hRR, ringK_len, ← hD]
  have hR256 : ∀ j : Nat, (R[j]?.getD 0 : Int).natAbs ≤ 256 := fun j => by rw [← hRR]; exact ring_small (s := s) hsm j
  have hSs : Sp.sum = 4 * Tt := by rw [← hSp, spread_sum D D sh R hRl, ← hRR, ring_sum hs.1 hL, hT]
  have hRs : R.sum = 4 * Tt := by rw [← hRR, ring_sum hs.1 hL, hT]
  have hRt : turnK D D N R = R := by rw [← hRR, ← hN, ← hD]; exact ring_turn hL
  have hSt : turnK D D N Sp = Sp := by rw [← hSp, ← hRR, ← hN, ← hD]; exact ring_spread_turn hL sh
  have hSsm : ∀ j, j < N → (Sp[j]?.getD 0 : Int).natAbs ≤ 16384 := fun j hj => by
    rw [← hSp]; exact ring_spreadSmall (by omega) hsh hRl hR256 j (by rw [hN]; exact hj)
  have hTs : Tt.natAbs ≤ 16384 := by rw [← hT]; exact ring_total hs.2 hL hsm
  have w4 : IntKind.i64.wrap (4 * Tt) = 4 * Tt := IntWalk.i64_in _ ⟨by omega, by omega⟩
  have KS : Hid (∀ (w1 : World) (g cc : Nat), RM w1 D D N R g 0 → Calls Tryz.prog 69 #[.agg #[.int .i64 (D : Nat), .int .i64 (D : Nat), .slice (some ⟨g, 0, none⟩) N cc], .int .i64 sh] w1 fun e w' =>
      ∃ g, e = .returned (.tuple #[.agg #[.int .i64 (D : Nat), .int .i64 (D : Nat), .slice (some ⟨g, 0, none⟩) N N], .int .i64 0]) ∧ RM w' D D N Sp g 0 ∧ Below w1.heap.size w1 w') := Lib.hid fun w1 g cc h => by
    have k := rm_spread h cc sh hsh.1 hsh.2 (fun j hj => by rw [hSp]; exact hSsm j hj)
    rw [hSp] at k
    exact k
  have HG := Lib.hid (And.intro hs (And.intro hD (And.intro hN (And.intro hL (And.intro hsm (And.intro hRR (And.intro hT (And.intro ht hm))))))))
  have HD16 : D ≤ 16 := by omega
  have HM := Lib.hid hM
  have HK := Lib.hid hKp
  have HT := Lib.hid hTn
  have HA := Lib.hid hA
  have HSS := Lib.hid hSs
  have HRS := Lib.hid hRs
  have HRT := Lib.hid hRt
  have HST := Lib.hid hSt
  clear hs hD hN hL hsm hRR hT ht hm hn hsh hM hKp hTn hA hSp hRl hR256 hSs hRs hRt hSt hSsm hTs HD16
  obtain ⟨t0, t1, t2⟩ := cells3 (HK.out.2 _ (.head _))
  obtain ⟨m0, m1, m2⟩ := cells3 (HK.out.2 _ (.tail _ (.tail _ (.head _))))
  have KSM : Hid (∀ w1 : World, RM w1 s s n L gt 0 → RM w1 s s n L b o → Calls Tryz.prog 68 #[.agg #[.int .i64 (s : Nat), .int .i64 (s : Nat), .slice (some ⟨gt, 0, none⟩) n ct], .agg #[.int .i64 (s : Nat), .int .i64 (s : Nat), .slice (some ⟨b, o, none⟩) n c]] w1 fun e w' => e = .returned (.bool true) ∧ Below w1.heap.size w1 w') := Lib.hid fun w1 h h' => rm_same h h' ct c
  have HSUB : Hid (∀ w1 : World, Kp w w1 [(Bt, (.cells #[.int .i64 (s : Nat), .int .i64 (s : Nat), .slice (some ⟨gt, 0, none⟩) n ct] 121 (0, 0))), (Ba, (.cells #[.int .i64 (D : Nat), .int .i64 (D : Nat), .slice (some ⟨ga, 0, none⟩) N ca] 121 (0, 0))), (w.heap.size, (.cells #[.int .i64 (s : Nat), .int .i64 (s : Nat), .slice (some ⟨b, o, none⟩) n c] 117 (0, 0)))] → Kp w w1 [(Ba, (.cells #[.int .i64 (D : Nat), .int .i64 (D : Nat), .slice (some ⟨ga, 0, none⟩) N ca] 121 (0, 0)))]) := Lib.hid fun w1 h => h.subs fun p hp => by
    rcases List.mem_cons.1 hp with rfl | hp
    · exact .tail _ (.head _)
    · nomatch hp
  go_upto_region 23 with (first
    | (go_at_call 68; (refine Calls.mono (KSM.out _ HT.out (HM.out.kept (Kp.below HK.out))) ?_); rintro e w1 ⟨rfl, hb⟩;
       have K1 := Lib.hid (HSUB.out _ (HK.out.call hb)); have A1 := Lib.hid (HA.out.kept hb); clear hb))
  clear t0 t1 t2 m0 m1 m2 HK HT HA HM
  obtain ⟨x0, x1, x2⟩ := cells3 (K1.out.2 _ (.head _))
  go_upto_region 24 with (first
    | (go_at_call 63; (refine Calls.mono (rm_emberMap A1.out ca) ?_); rintro e w2 ⟨g2, c2, rfl, hm, hb⟩;
       have K2 := Lib.hid (K1.out.call hb); have A2 := Lib.hid (A1.out.kept hb); have M2 := Lib.hid hm; clear hb hm)
    | (go_at_call 69; (refine Calls.mono (KS.out _ _ _ M2.out) ?_); rintro e w3 ⟨gs, rfl, hm, hb⟩;
       have K3 := Lib.hid (K2.out.call hb); have A3 := Lib.hid (A2.out.kept hb); have S3 := Lib.hid hm; clear hb hm))
  clear x0 x1 x2 K1 A1 K2 A2 M2
  refine wp_world (fun w' => Kp w w' [(w3.heap.size, (.cells #[.int .i64 (D : Nat), .int .i64 (D : Nat), .slice (some ⟨gs, 0, none⟩) N N] 121 (0, 0))), (Ba, (.cells #[.int .i64 (D : Nat), .int .i64 (D : Nat), .slice (some ⟨ga, 0, none⟩) N ca] 121 (0, 0)))] ∧ Below w3.heap.size w3 w') (by first | exact ⟨K3.out.alloc _, (Below.refl _ _).alloc (Nat.le_refl _) _⟩ | exact ⟨kp_set3 K3.out _ _ _, below_new3 _ _ _⟩) fun w5 k5 => ?_
  have K5 := Lib.hid k5.1
  have A5 := Lib.hid (A3.out.kept k5.2)
  have S5 := Lib.hid (S3.out.kept k5.2)
  obtain ⟨Bs, hBs⟩ : ∃ Bs, w3.heap.size = Bs := ⟨_, rfl⟩
  rw [hBs] at K5 ⊢
  clear k5 K3 A3 S3 hBs
  obtain ⟨x0, x1, x2⟩ := cells3 (K5.out.2 _ (.head _))
  go_upto_if 160 with (first
    | (go_at_call 67; (refine Calls.mono (rm_check S5.out N) ?_); rintro e w6 ⟨rfl, hb⟩;
       have K6 := Lib.hid (K5.out.call hb); have A6 := Lib.hid (A5.out.kept hb); have S6 := Lib.hid (S5.out.kept hb); clear hb))
  clear x0 x1 x2 K5 A5 S5
  obtain ⟨x0, x1, x2⟩ := cells3 (K6.out.2 _ (.tail _ (.head _)))
  obtain ⟨y0, y1, y2⟩ := cells3 (K6.out.2 _ (.head _))
  go_upto_block 2 with fail
  clear x0 x1 x2 y0 y1 y2
  go_cut [] (fun wc => Kp w wc [(Ba, (.cells #[.int .i64 (D : Nat), .int .i64 (D : Nat), .slice (some ⟨ga, 0, none⟩) N ca] 121 (0, 0)))] ∧ RM wc D D N R ga 0)
  case first =>
    go_wp2_with fail
    go_loopw [164] (fun iv wx => ∃ j : Nat, j ≤ 2 ∧ iv = .int .i64 j ∧ Kp w wx [(Ba, (.cells #[.int .i64 (D : Nat), .int .i64 (D : Nat), .slice (some ⟨ga, 0, none⟩) N ca] 121 (0, 0)))] ∧ RM wx D D N R ga 0 ∧ RM wx D D N Sp gs 0) (fun iv _ => 2 - (intOf iv).toNat)
    case atStart => exact ⟨0, by omega, rfl, K6.out.subs (fun p hp => .tail _ hp), A6.out, S6.out⟩
    case round =>
      obtain ⟨j, hj, rfl, hkp, hra, hrs⟩ := hrel
      have J0 := Lib.hid hkp
      have R0 := Lib.hid hra
      have S0 := Lib.hid hrs
      by_cases hlt : j < 2
      · have hx : ∃ (gx cx : Nat) (X : List Int), (∀ w1 : World, (Instr.index 133 (.agg #[.int .i64 (D : Nat), .int .i64 (D : Nat), .slice (some ⟨ga, 0, none⟩) N ca, .int .i64 (D : Nat), .int .i64 (D : Nat), .slice (some ⟨gs, 0, none⟩) N N]) (.int .i64 (j : Int))).run Tryz.prog w1 = .ok (.agg #[.int .i64 (D : Nat), .int .i64 (D : Nat), .slice (some ⟨gx, 0, none⟩) N cx]) w1) ∧ RM wr D D N X gx 0 ∧ turnK D D N X = X ∧ X.sum = 4 * Tt := by
          rcases (show j = 0 ∨ j = 1 by omega) with rfl | rfl
          · exact ⟨ga, ca, R, fun w1 => by kernel_rfl, hra, HRT.out, HRS.out⟩
          · exact ⟨gs, N, Sp, fun w1 => by kernel_rfl, hrs, HST.out, HSS.out⟩
        obtain ⟨gx, cx, X, hix, hX, hXt, hXs⟩ := hx
        have X0 := Lib.hid hX
        have XT := Lib.hid hXt
        have XS := Lib.hid hXs
        clear hkp hra hrs hX hXt hXs K6 A6 S6
        go_upto_region 29 with fail
        clear hix
        refine wp_world (fun w' => Kp w w' [(wr.heap.size, (.cells #[.int .i64 (D : Nat), .int .i64 (D : Nat), .slice (some ⟨gx, 0, none⟩) N cx] 121 (0, 0))), (Ba, (.cells #[.int .i64 (D : Nat), .int .i64 (D : Nat), .slice (some ⟨ga, 0, none⟩) N ca] 121 (0, 0)))] ∧ Below wr.heap.size wr w') (by first | exact ⟨J0.out.alloc _, (Below.refl _ _).alloc (Nat.le_refl _) _⟩ | exact ⟨kp_set3 J0.out _ _ _, below_new3 _ _ _⟩) fun wa ka => ?_
        have J1 := Lib.hid ka.1
        have R1 := Lib.hid (R0.out.kept ka.2)
        have S1 := Lib.hid (S0.out.kept ka.2)
        have X1 := Lib.hid (X0.out.kept ka.2)
        obtain ⟨Bx, hBx⟩ : ∃ Bx, wr.heap.size = Bx := ⟨_, rfl⟩
        rw [hBx] at J1 ⊢
        clear ka J0 R0 S0 X0 hBx
        obtain ⟨x0, x1, x2⟩ := cells3 (J1.out.2 _ (.head _))
        go_upto_region 30 with (first
          | (go_at_call 63; (refine Calls.mono (rm_emberMap X1.out cx) ?_); rintro e wb ⟨gb, cb, rfl, hm, hb⟩;
             have J2 := Lib.hid (J1.out.call hb); have R2 := Lib.hid (R1.out.kept hb); have S2 := Lib.hid (S1.out.kept hb); have X2 := Lib.hid (X1.out.kept hb); have M2 := Lib.hid hm; clear hb hm)
          | (go_at_call 66; (refine Calls.mono (show Calls _ _ _ _ _ from by have k := rm_turned M2.out cb; unfold GivesMap at k; rw [XT.out] at k; exact k) ?_); rintro e wd ⟨gd, rfl, hm, hb⟩;
             have J3 := Lib.hid (J2.out.call hb); have R3 := Lib.hid (R2.out.kept hb); have S3 := Lib.hid (S2.out.kept hb); have X3 := Lib.hid (X2.out.kept hb); have D3 := Lib.hid hm; clear hb hm))
        clear x0 x1 x2 J1 R1 S1 X1 J2 R2 S2 X2 M2
        refine wp_world (fun w' => Kp w w' [(wd.heap.size, (.cells #[.int .i64 (D : Nat), .int .i64 (D : Nat), .slice (some ⟨gd, 0, none⟩) N N] 121 (0, 0))), (Bx, (.cells #[.int .i64 (D : Nat), .int .i64 (D : Nat), .slice (some ⟨gx, 0, none⟩) N cx] 121 (0, 0))), (Ba, (.cells #[.int .i64 (D : Nat), .int .i64 (D : Nat), .slice (some ⟨ga, 0, none⟩) N ca] 121 (0, 0)))] ∧ Below wd.heap.size wd w') (by first | exact ⟨J3.out.alloc _, (Below.refl _ _).alloc (Nat.le_refl _) _⟩ | exact ⟨kp_set3 J3.out _ _ _, below_new3 _ _ _⟩) fun wf kf => ?_
        have J4 := Lib.hid kf.1
        have R4 := Lib.hid (R3.out.kept kf.2)
        have S4 := Lib.hid (S3.out.kept kf.2)
        have X4 := Lib.hid (X3.out.kept kf.2)
        have D4 := Lib.hid (D3.out.kept kf.2)
        obtain ⟨Bd, hBd⟩ : ∃ Bd, wd.heap.size = Bd := ⟨_, rfl⟩
        rw [hBd] at J4 ⊢
        clear kf J3 R3 S3 X3 D3 hBd
        obtain ⟨x0, x1, x2⟩ := cells3 (J4.out.2 _ (.tail _ (.head _)))
        go_upto_region 31 with (first
          | (go_at_call 63; (refine Calls.mono (rm_emberMap X4.out cx) ?_); rintro e wg ⟨gg, cg, rfl, hm, hb⟩;
             have J5 := Lib.hid (J4.out.call hb); have R5 := Lib.hid (R4.out.kept hb); have S5 := Lib.hid (S4.out.kept hb); have X5 := Lib.hid (X4.out.kept hb); have D5 := Lib.hid (D4.out.kept hb); have M5 := Lib.hid hm; clear hb hm)
          | (go_at_call 62; (refine Calls.mono (show Calls _ _ _ _ _ from by have k := rm_total M5.out cg; rw [XS.out] at k; exact k) ?_); rintro e wh ⟨rfl, hb⟩;
             have J6 := Lib.hid (J5.out.call hb); have R6 := Lib.hid (R5.out.kept hb); have S6 := Lib.hid (S5.out.kept hb); have X6 := Lib.hid (X5.out.kept hb); have D6 := Lib.hid (D5.out.kept hb); clear hb))
        clear x0 x1 x2 J4 R4 S4 X4 D4 J5 R5 S5 X5 D5 M5
        obtain ⟨x0, x1, x2⟩ := cells3 (J6.out.2 _ (.tail _ (.head _)))
        obtain ⟨y0, y1, y2⟩ := cells3 (J6.out.2 _ (.head _))
        have eqT : (4 * Tt == 4 * Tt) = true := by simp
        go_wp2_with (first
          | (go_at_call 68; (refine Calls.mono (rm_same D6.out X6.out N cx) ?_); rintro e wi ⟨rfl, hb⟩;
             have J7 := Lib.hid ((J6.out.call hb).subs (m := [(Ba, (.cells #[.int .i64 (D : Nat), .int .i64 (D : Nat), .slice (some ⟨ga, 0, none⟩) N ca] 121 (0, 0)))]) (fun p hp => .tail _ (.tail _ hp))); have R7 := Lib.hid (R6.out.kept hb); have S7 := Lib.hid (S6.out.kept hb); clear hb))
        go_roundw
        case rel => exact ⟨j + 1, by omega, by go_num, J7.out, R7.out, S7.out⟩
        case measure => simp [intOf]; omega
      · obtain rfl : j = 2 := by omega
        clear hkp hra hrs
        go_wp2_with fail
        go_meet
        exact ⟨J0.out, R0.out⟩
  case rest =>
    rename_i hK
    obtain ⟨hk, ha⟩ := hcut
    refine hK _ _ ?_
    clear hK
    obtain ⟨a1, a2, a3, a4, a5, a6, a7, a8, a9⟩ := HG.out
    exact ring34 w s D N L a1 a2 a3 a4 a5 R a6 Tt a7 Ba ga ca a8 a9 _ _ _ _ _ _ _ _ _ _ _ _ _ _ _ _ _ _ _ _ _ _ _ _ _ _ _ _ _ _ _ _ _ _ _ _ _ _ _ _ _ _ _ _ _ _ _ _ _ _ _ _ _ _ _ _ _ _ _ _ _ _ _ _ _ _ _ _ _ _ _ _ _ _ _ _ _ _ _ _ _ _ _ _ _ _ _ _ _ _ _ _ _ _ _ _ _ _ _ _ _ _ _ _ _ _ _ _ _ _ _ _ _ _ _ _ _ _ _ _ _ _ _ _ _ _ _ _ _ _ _ _ _ _ _ _ _ _ _ _ _ _ _ _ _ _ _ _ _ _ _ _ _ _ _ _ _ _ _ _ _ _ _ _ _ _ _ _ _ _ _ _ _ _ _ _ _ _ _ _ _ _ _ _ _ _ _ _ _ _ _ _ _ _ _ _ _ _ _ _ _ _ _ _ _ _ _ _ _ _ _ _ _ _ _ _ _ _ _ _ _ _ _ _ _ _ _ _ _ _ _ _ _ _ _ _ _ _ _ _ _ _ _ _ _ _ _ _ _ _ _ _ _ _ _ _ _ _ _ _ _ _ _ _ _ _ _ _ _ _ _ _ _ _ _ _ _ _ _ _ _ hk ha
end Go.Proofs.YtpmjiifdnnhecaaGreatDoor
