/-
  TopEmberRing: its walk from the binned map on.
-/
import Derived.Deep.CutBlock
import Derived.Deep.DeepCutAuto
import Derived.Test.YtpmjiifdnnhecaaGreatDoorOaaTl
import Derived.Test.YtpmjiifdnnhecaaGreatDoorOaaPf
import Derived.Test.YtpmjiifdnnhecaaGreatDoorOaaXs
namespace Go.Proofs.YtpmjiifdnnhecaaGreatDoor
open Go.RowKit Go.Shelf
set_option linter.unusedVariables false
set_option linter.unusedSimpArgs false

noncomputable def cutR (n : Nat) : Code := ((Tryz.f10.body.bind (tailC n)).getD .skip)
attribute [local go_sem] store_complex store_float4
def RingPost (w : World) (e : Ending) (w' : World) : Prop := e = .returned (.bool true) ∧ Below w.heap.size w w'

set_option maxRecDepth 1000000 in
set_option maxHeartbeats 25600000 in
theorem ring34 (w : World) (s D N : Nat) (L : List Int) (hs : 1 ≤ s ∧ s ≤ 8) (hD : 2 * s = D) (hN : D * D = N) (hL : L.length = s * s) (hsm : ∀ j : Nat, (L[j]?.getD 0 : Int).natAbs ≤ 256) (R : List Int) (hRR : ringK s L 4 = R) (Tt : Int) (hT : L.sum = Tt) (Ba ga ca : Nat) (ht : TabAt w) (hm : MaxAt w) (wr : World)
    (u0 u1 u2 u3 u4 u6 u8 u9 u11 u12 u13 u14 u15 u16 u17 u18 u19 u20 u21 u22 u23 u24 u25 u26 u27 u28 u29 u30 u31 u32 u33 u34 u35 u36 u37 u38 u39 u40 u41 u42 u43 u44 u45 u46 u47 u48 u49 u50 u51 u52 u53 u54 u55 u56 u57 u58 u59 u60 u61 u62 u63 u64 u65 u66 u67 u68 u69 u70 u71 u72 u73 u74 u75 u76 u77 u78 u79 u80 u81 u82 u83 u84 u85 u86 u87 u88 u89 u90 u91 u92 u93 u94 u95 u96 u97 u98 u99 u100 u101 u102 u103 u104 u105 u106 u107 u108 u109 u110 u111 u112 u113 u114 u115 u116 u117 u118 u119 u120 u121 u122 u123 u124 u125 u126 u127 u128 u129 u130 u131 u132 u133 u134 u135 u136 u137 u138 u139 u140 u141 u142 u143 u144 u145 u146 u147 u148 u149 u150 u151 u152 u153 u154 u155 u156 u157 u158 u159 u160 u161 u162 u163 u164 u165 u166 u167 u168 u169 u170 u171 u172 u173 u174 u175 u176 u177 u178 u179 u180 u181 u182 u183 u184 u185 u186 u187 u188 u189 u190 u191 u192 u193 u194 u195 u196 u197 u198 u199 u200 u201 u202 u203 u204 u205 u206 u207 u208 u209 u210 u211 u212 u213 u214 u215 u216 u217 u218 u219 u220 u221 u222 u223 u224 u225 u226 u227 u228 u229 u230 u231 u232 u233 u234 u235 u236 u237 u238 u239 u240 u241 u242 u243 u244 u245 u246 u247 u248 u249 u250 u251 u252 u253 u254 u255 u256 u257 u258 u259 u260 u261 u262 u263 u264 u265 u266 u267 u268 u269 u270 u271 u272 u273 u274 u275 u276 u277 u278 u279 u280 u281 u282 : Value)
    (hKp : Kp w wr [(Ba, (.cells #[.int .i64 (D : Nat), .int .i64 (D : Nat), .slice (some ⟨ga, 0, none⟩) N ca] 121 (0, 0)))]) (hA : RM wr D D N R ga 0) :
    Code.wp Tryz.prog (cutR 34) (bodyPost Tryz.prog Tryz.f10 (RingPost w)) ⟨#[u0, u1, u2, u3, u4, .int .i64 (s : Nat), u6, .int .i64 Tt, u8, u9, .pointer (some ⟨Ba, 0, none⟩), u11, u12, u13, u14, u15, u16, u17, u18, u19, u20, u21, u22, u23, u24, u25, u26, u27, u28, u29, u30, u31, u32, u33, u34, u35, u36, u37, u38, u39, u40, u41, u42, u43, u44, u45, u46, u47, u48, u49, u50, u51, u52, u53, u54, u55, u56, u57, u58, u59, u60, u61, u62, u63, u64, u65, u66, u67, u68, u69, u70, u71, u72, u73, u74, u75, u76, u77, u78, u79, u80, u81, u82, u83, u84, u85, u86, u87, u88, u89, u90, u91, u92, u93, u94, u95, u96, u97, u98, u99, u100, u101, u102, u103, u104, u105, u106, u107, u108, u109, u110, u111, u112, u113, u114, u115, u116, u117, u118, u119, u120, u121, u122, u123, u124, u125, u126, u127, u128, u129, u130, u131, u132, u133, u134, u135, u136, u137, u138, u139, u140, u141, u142, u143, u144, u145, u146, u147, u148, u149, u150, u151, u152, u153, u154, u155, u156, u157, u158, u159, u160, u161, u162, u163, u164, u165, u166, u167, u168, u169, u170, u171, u172, u173, u174, u175, u176, u177, u178, u179, u180, u181, u182, u183, u184, u185, u186, u187, u188, u189, u190, u191, u192, u193, u194, u195, u196, u197, u198, u199, u200, u201, u202, u203, u204, u205, u206, u207, u208, u209, u210, u211, u212, u213, u214, u215, u216, u217, u218, u219, u220, u221, u222, u223, u224, u225, u226, u227, u228, u229, u230, u231, u232, u233, u234, u235, u236, u237, u238, u239, u240, u241, u242, u243, u244, u245, u246, u247, u248, u249, u250, u251, u252, u253, u254, u255, u256, u257, u258, u259, u260, u261, u262, u263, u264, u265, u266, u267, u268, u269, u270, u271, u272, u273, u274, u275, u276, u277, u278, u279, u280, u281, u282], []⟩ wr := by
  conv => arg 2; whnf
  dsimp only
  have hRl : R.length = N := by rw [← hRR, ringK_len, ← hN, ← hD]
  have hR2 : ∀ k ∈ R, k.natAbs ≤ 1024 := fun k hk => by
    obtain ⟨j, hj, rfl⟩ := List.getElem_of_mem hk
    have h := ring_small (s := s) hsm j
    rw [hRR, List.getElem?_eq_getElem hj] at h
    have h' : (R[j]).natAbs ≤ 256 := h
    omega
  have hTs : Tt.natAbs ≤ 16384 := by rw [← hT]; exact ring_total hs.2 hL hsm
  have hN256 : N ≤ 256 := by rw [← hN]; exact Nat.mul_le_mul (show D ≤ 16 by omega) (show D ≤ 16 by omega)
  have KB : Hid (∀ (w1 : World) (g cc : Nat), RM w1 D D N R g 0 → Calls Tryz.prog 70 #[.agg #[.int .i64 (D : Nat), .int .i64 (D : Nat), .slice (some ⟨g, 0, none⟩) N cc], .int .i64 (s : Nat)] w1 fun e w' =>
      ∃ g' c', e = .returned (.tuple #[.agg #[.int .i64 2, .int .i64 2, .slice (some ⟨g', 0, none⟩) 4 c'], .int .i64 0]) ∧ RM w' 2 2 4 [Tt, Tt, Tt, Tt] g' 0 ∧ Below w1.heap.size w1 w') := Lib.hid fun w1 g cc h => by
    subst hRR hT hN hD
    exact rm_ringBin hs hL hsm h cc
  have KC : Hid (∀ w1 : World, Calls Tryz.prog 71 #[.int .i64 Tt] w1 fun e w' => e = .returned (.float .f32 (smpOf Tt)) ∧ w1 = w') := Lib.hid fun w1 => refSample_any Tt (Nat.lt_of_le_of_lt hTs (by decide)) w1
  have KS : Hid (∀ (w1 : World) (g cc g' cc' : Nat), RM w1 2 2 4 [Tt, Tt, Tt, Tt] g 0 → RM w1 2 2 4 [Tt, Tt, Tt, Tt] g' 0 → Calls Tryz.prog 68 #[.agg #[.int .i64 2, .int .i64 2, .slice (some ⟨g, 0, none⟩) 4 cc], .agg #[.int .i64 2, .int .i64 2, .slice (some ⟨g', 0, none⟩) 4 cc']] w1 fun e w' => e = .returned (.bool true) ∧ Below w1.heap.size w1 w') := Lib.hid fun w1 g cc g' cc' h h' => rm_same h h' cc cc'
  have KM : Hid (∀ (w1 : World) (g cc g' cc' : Nat), RM w1 D D N R g 0 → RM w1 D D N R g' 0 → Calls Tryz.prog 68 #[.agg #[.int .i64 (D : Nat), .int .i64 (D : Nat), .slice (some ⟨g, 0, none⟩) N cc], .agg #[.int .i64 (D : Nat), .int .i64 (D : Nat), .slice (some ⟨g', 0, none⟩) N cc']] w1 fun e w' => e = .returned (.bool true) ∧ Below w1.heap.size w1 w') := Lib.hid fun w1 g cc g' cc' h h' => rm_same h h' cc cc'
  have KF : Hid (∀ w1 : World, Calls Tryz.prog 72 #[.agg #[.float .f32 (smpOf Tt), .float .f32 (smpOf Tt), .float .f32 (smpOf Tt), .float .f32 (smpOf Tt)]] w1 fun e w' =>
      ∃ a0 b0 a1 b1 a2 b2 a3 b3, e = .returned (.tuple #[.agg #[.complex .f32 a0 b0, .complex .f32 a1 b1, .complex .f32 a2 b2, .complex .f32 a3 b3], .int .i64 0]) ∧
        Hid (Smp a0 (4 * Tt) ∧ Smp b0 0 ∧ Smp a1 0 ∧ Smp b1 0 ∧ Smp a2 0 ∧ Smp b2 0 ∧ Smp a3 0 ∧ Smp b3 0) ∧ Below w1.heap.size w1 w') := Lib.hid fun w1 => (four_one Tt hTs w1).mono fun e w' ⟨a0, b0, a1, b1, a2, b2, a3, b3, he, h0, h1, h2, h3, h4, h5, h6, h7, hb⟩ => ⟨a0, b0, a1, b1, a2, b2, a3, b3, he, Lib.hid ⟨h0, h1, h2, h3, h4, h5, h6, h7⟩, hb⟩
  obtain ⟨P, hP⟩ : ∃ P, strB (textL D D R) = P := ⟨_, rfl⟩
  have KP : Hid (∀ (w1 : World) (g cc : Nat), Below w.heap.size w w1 → RM w1 D D N R g 0 → Calls Tryz.prog 73 #[.agg #[.int .i64 (D : Nat), .int .i64 (D : Nat), .slice (some ⟨g, 0, none⟩) N cc]] w1 fun e w' => e = .returned (.tuple #[.string P, .int .i64 0]) ∧ Below w1.heap.size w1 w') := Lib.hid fun w1 g cc hb h => by
    subst hP; exact rm_print h cc (ht.on hb)
  have KQ : Hid (∀ w1 : World, Below w.heap.size w w1 → Calls Tryz.prog 74 #[.string P] w1 fun e w' => ∃ g c, e = .returned (.tuple #[.agg #[.int .i64 (D : Nat), .int .i64 (D : Nat), .slice (some ⟨g, 0, none⟩) N c], .int .i64 0, .int .i64 0]) ∧ RM w' D D N R g 0 ∧ Below w1.heap.size w1 w') := Lib.hid fun w1 hb => by
    subst hP; exact rm_parse (by omega) (by omega) hRl hN hR2 w1 (hm.on hb)
  obtain ⟨m, hmm⟩ : ∃ m, 10 + 4 * N = m := ⟨_, rfl⟩
  obtain ⟨S, hS⟩ : ∃ S, packL D D R = S := ⟨_, rfl⟩
  have KK : Hid (∀ (w1 : World) (g cc : Nat), RM w1 D D N R g 0 → Calls Tryz.prog 75 #[.agg #[.int .i64 (D : Nat), .int .i64 (D : Nat), .slice (some ⟨g, 0, none⟩) N cc]] w1 fun e w' => ∃ a c', e = .returned (.tuple #[.slice a m c', .int .i64 0]) ∧ Hid (m ≤ c' ∧ c' ≤ 9223372036854775807) ∧ AnyBytes w' a m S ∧ Below w1.heap.size w1 w') := Lib.hid fun w1 g cc h => by
    subst hmm hS
    exact (rm_pack h cc).mono fun e w' ⟨a, c', he, h1, h2, h3, h4⟩ => ⟨a, c', he, Lib.hid ⟨h1, h2⟩, h3, h4⟩
  have KU : Hid (∀ (w1 : World) (a : Option Addr) (cp : Nat), Hid (m ≤ cp ∧ cp ≤ 9223372036854775807) → AnyBytes w1 a m S → Calls Tryz.prog 76 #[.slice a m cp] w1 fun e w' => ∃ g c, e = .returned (.tuple #[.agg #[.int .i64 (D : Nat), .int .i64 (D : Nat), .slice (some ⟨g, 0, none⟩) N c], .int .i64 0]) ∧ RM w' D D N R g 0 ∧ Below w1.heap.size w1 w') := Lib.hid fun w1 a cp h1 h2 => by
    subst hmm hS
    exact rm_unpack (by omega) (by omega) hRl hN hN256 hR2 w1 a cp h1.out.1 h1.out.2 h2
  have KL : Hid (∀ w1 : World, RM (w1.alloc (.cells #[.float .f32 (smpOf Tt), .float .f32 (smpOf Tt), .float .f32 (smpOf Tt), .float .f32 (smpOf Tt)] 119)) 2 2 4 [Tt, Tt, Tt, Tt] w1.heap.size 0) := Lib.hid fun w1 => rm_lit4 w1 hTs
  obtain ⟨x4, hx4, hx5⟩ := smp_mul4 (smpOf_smp Tt (Nat.lt_of_le_of_lt hTs (by decide))) (Nat.lt_of_le_of_lt hTs (by decide))
  have c4 := run_mul 119 hx4
  have HX4 := Lib.hid hx5
  obtain ⟨o, ho⟩ : ∃ o, smpOf Tt = o := ⟨_, rfl⟩
  rw [ho] at KC KF KL c4
  have HK := Lib.hid hKp
  have HA := Lib.hid hA
  clear hKp hA hRl hR2 hTs hN256 hP hmm hS hx4 hx5 ho hs hD hN hL hsm hRR hT ht hm
  obtain ⟨x0, x1, x2⟩ := cells3 (HK.out.2 _ (.head _))
  go_upto_region 35 with (first
    | (go_at_call 63; (refine Calls.mono (rm_emberMap HA.out ca) ?_); rintro e w1 ⟨g1, c1, rfl, hm, hb⟩;
       have K1 := Lib.hid (HK.out.call hb); have A1 := Lib.hid (HA.out.kept hb); have M1 := Lib.hid hm; clear hb hm)
    | (go_at_call 70; (refine Calls.mono (KB.out _ _ _ M1.out) ?_); rintro e w2 ⟨g2, c2, rfl, hm, hb⟩;
       have K2 := Lib.hid (K1.out.call hb); have A2 := Lib.hid (A1.out.kept hb); have M2 := Lib.hid hm; clear hb hm))
  clear x0 x1 x2 K1 A1 M1 HK HA
  refine wp_world (fun w' => Kp w w' [(w2.heap.size, (.cells #[.int .i64 2, .int .i64 2, .slice (some ⟨g2, 0, none⟩) 4 c2] 121 (0, 0))), (Ba, (.cells #[.int .i64 (D : Nat), .int .i64 (D : Nat), .slice (some ⟨ga, 0, none⟩) N ca] 121 (0, 0)))] ∧ Below w2.heap.size w2 w') (by first | exact ⟨K2.out.alloc _, (Below.refl _ _).alloc (Nat.le_refl _) _⟩ | exact ⟨kp_set3 K2.out _ _ _, below_new3 _ _ _⟩) fun w3 k3 => ?_
  have K3 := Lib.hid k3.1
  have A3 := Lib.hid (A2.out.kept k3.2)
  have M3 := Lib.hid (M2.out.kept k3.2)
  obtain ⟨B27, hB27⟩ : ∃ B27, w2.heap.size = B27 := ⟨_, rfl⟩
  rw [hB27] at K3 ⊢
  clear k3 K2 A2 M2 hB27
  obtain ⟨x0, x1, x2⟩ := cells3 (K3.out.2 _ (.head _))
  go_upto_if 219 with (first
    | (go_at_call 71; (refine Calls.mono (KC.out _) ?_); rintro e w9 ⟨rfl, rfl⟩)
    | (go_at_call 68; (refine Calls.mono (KS.out _ _ _ _ _ (M3.out.kept ((Below.refl _ _).alloc (Nat.le_refl _) _)) (KL.out _)) ?_); rintro e w4 ⟨rfl, hb⟩;
       have K4 := Lib.hid (((K3.out.alloc _).call hb).subs (m := [(Ba, (.cells #[.int .i64 (D : Nat), .int .i64 (D : Nat), .slice (some ⟨ga, 0, none⟩) N ca] 121 (0, 0)))]) (fun p hp => .tail _ (.tail _ hp))); have A4 := Lib.hid ((A3.out.kept ((Below.refl _ _).alloc (Nat.le_refl _) _)).kept hb); clear hb))
  clear x0 x1 x2 K3 A3 M3
  go_upto_region 39 with (first
    | (go_at_call 72; (refine Calls.mono (KF.out _) ?_); rintro e w5 ⟨a0, b0, a1, b1, a2, b2, a3, b3, rfl, HF, hb⟩;
       have K5 := Lib.hid (K4.out.call hb); have A5 := Lib.hid (A4.out.kept hb); clear hb))
  clear K4 A4
  refine wp_world (fun w' => Kp w w' [(w5.heap.size, (.cells #[.complex .f32 a0 b0, .complex .f32 a1 b1, .complex .f32 a2 b2, .complex .f32 a3 b3] 136 (0, 0))), (Ba, (.cells #[.int .i64 (D : Nat), .int .i64 (D : Nat), .slice (some ⟨ga, 0, none⟩) N ca] 121 (0, 0)))] ∧ Below w5.heap.size w5 w') (by first | exact ⟨K5.out.alloc _, (Below.refl _ _).alloc (Nat.le_refl _) _⟩ | exact ⟨kp_set4 K5.out _ _ _ _, (kp_set4 (Kp.none w5) _ _ _ _).1⟩) fun w6 k6 => ?_
  have K6 := Lib.hid k6.1
  have A6 := Lib.hid (A5.out.kept k6.2)
  obtain ⟨B30, hB30⟩ : ∃ B30, w5.heap.size = B30 := ⟨_, rfl⟩
  rw [hB30] at K6 ⊢
  clear k6 K5 A5 hB30
  obtain ⟨x0, x1, x2⟩ := cells3 (K6.out.2 _ (.tail _ (.head _)))
  go_upto_region 41 with (first
    | (go_at_call 63; (refine Calls.mono (rm_emberMap A6.out ca) ?_); rintro e w7 ⟨g7, c7, rfl, hm, hb⟩;
       have K7 := Lib.hid (K6.out.call hb); have A7 := Lib.hid (A6.out.kept hb); have M7 := Lib.hid hm; clear hb hm)
    | (go_at_call 73; (refine Calls.mono (KP.out _ _ _ (Kp.below K7.out) M7.out) ?_); rintro e w8 ⟨rfl, hb⟩;
       have K8 := Lib.hid (K7.out.call hb); have A8 := Lib.hid (A7.out.kept hb); clear hb)
    | (go_at_call 74; (refine Calls.mono (KQ.out _ (Kp.below K8.out)) ?_); rintro e w10 ⟨g10, c10, rfl, hm, hb⟩;
       have K10 := Lib.hid (K8.out.call hb); have A10 := Lib.hid (A8.out.kept hb); have M10 := Lib.hid hm; clear hb hm))
  clear x0 x1 x2 K6 A6 K7 A7 M7 K8 A8
  refine wp_world (fun w' => Kp w w' [(w10.heap.size, (.cells #[.int .i64 (D : Nat), .int .i64 (D : Nat), .slice (some ⟨g10, 0, none⟩) N c10] 121 (0, 0))), (B30, (.cells #[.complex .f32 a0 b0, .complex .f32 a1 b1, .complex .f32 a2 b2, .complex .f32 a3 b3] 136 (0, 0))), (Ba, (.cells #[.int .i64 (D : Nat), .int .i64 (D : Nat), .slice (some ⟨ga, 0, none⟩) N ca] 121 (0, 0)))] ∧ Below w10.heap.size w10 w') (by first | exact ⟨K10.out.alloc _, (Below.refl _ _).alloc (Nat.le_refl _) _⟩ | exact ⟨kp_set3 K10.out _ _ _, below_new3 _ _ _⟩) fun w11 k11 => ?_
  have K11 := Lib.hid k11.1
  have A11 := Lib.hid (A10.out.kept k11.2)
  have M11 := Lib.hid (M10.out.kept k11.2)
  obtain ⟨B34, hB34⟩ : ∃ B34, w10.heap.size = B34 := ⟨_, rfl⟩
  rw [hB34] at K11 ⊢
  clear k11 K10 A10 M10 hB34
  obtain ⟨x0, x1, x2⟩ := cells3 (K11.out.2 _ (.tail _ (.tail _ (.head _))))
  go_upto_region 43 with (first
    | (go_at_call 63; (refine Calls.mono (rm_emberMap A11.out ca) ?_); rintro e w12 ⟨g12, c12, rfl, hm, hb⟩;
       have K12 := Lib.hid (K11.out.call hb); have A12 := Lib.hid (A11.out.kept hb); have P12 := Lib.hid (M11.out.kept hb); have M12 := Lib.hid hm; clear hb hm)
    | (go_at_call 75; (refine Calls.mono (KK.out _ _ _ M12.out) ?_); rintro e w13 ⟨a13, c13, rfl, hc13, hy, hb⟩;
       have K13 := Lib.hid (K12.out.call hb); have A13 := Lib.hid (A12.out.kept hb); have P13 := Lib.hid (P12.out.kept hb); have Y13 := Lib.hid hy; clear hb hy)
    | (go_at_call 76; (refine Calls.mono (KU.out _ _ _ hc13 Y13.out) ?_); rintro e w14 ⟨g14, c14, rfl, hm, hb⟩;
       have K14 := Lib.hid (K13.out.call hb); have A14 := Lib.hid (A13.out.kept hb); have P14 := Lib.hid (P13.out.kept hb); have M14 := Lib.hid hm; clear hb hm))
  clear x0 x1 x2 K11 A11 M11 K12 A12 P12 M12 K13 A13 P13 Y13
  refine wp_world (fun w' => Kp w w' [(w14.heap.size, (.cells #[.int .i64 (D : Nat), .int .i64 (D : Nat), .slice (some ⟨g14, 0, none⟩) N c14] 121 (0, 0))), (B34, (.cells #[.int .i64 (D : Nat), .int .i64 (D : Nat), .slice (some ⟨g10, 0, none⟩) N c10] 121 (0, 0))), (B30, (.cells #[.complex .f32 a0 b0, .complex .f32 a1 b1, .complex .f32 a2 b2, .complex .f32 a3 b3] 136 (0, 0))), (Ba, (.cells #[.int .i64 (D : Nat), .int .i64 (D : Nat), .slice (some ⟨ga, 0, none⟩) N ca] 121 (0, 0)))] ∧ Below w14.heap.size w14 w') (by first | exact ⟨K14.out.alloc _, (Below.refl _ _).alloc (Nat.le_refl _) _⟩ | exact ⟨kp_set3 K14.out _ _ _, below_new3 _ _ _⟩) fun w15 k15 => ?_
  have K15 := Lib.hid k15.1
  have A15 := Lib.hid (A14.out.kept k15.2)
  have P15 := Lib.hid (P14.out.kept k15.2)
  have M15 := Lib.hid (M14.out.kept k15.2)
  obtain ⟨B39, hB39⟩ : ∃ B39, w14.heap.size = B39 := ⟨_, rfl⟩
  rw [hB39] at K15 ⊢
  clear k15 K14 A14 P14 M14 hB39
  have hq : ∀ w1 : World, (Op.equalIn 10000 136 (.agg #[.complex .f32 a0 b0, .complex .f32 a1 b1, .complex .f32 a2 b2, .complex .f32 a3 b3]) (.agg #[.complex .f32 x4 0, .complex .f32 0 0, .complex .f32 0 0, .complex .f32 0 0])).run Tryz.prog w1 = .ok true w1 := fun w1 => by
    obtain ⟨h0, h1, h2, h3, h4, h5, h6, h7⟩ := HF.out
    have oq : ∀ {x y : Nat} {k : Int}, Smp x k → Smp y k → FloatKind.f32.format.order x y = some .eq := fun hx hy => by
      have h := hx.order hy
      rw [show ∀ k : Int, compare k k = .eq from fun k => by simp] at h
      exact h
    exact eq_panelR _ _ _ _ _ _ _ _ _ _ _ _ _ _ _ _ ⟨oq h0 HX4.out, oq h1 smp00, oq h2 smp00, oq h3 smp00, oq h4 smp00, oq h5 smp00, oq h6 smp00, oq h7 smp00⟩ w1
  have hq2 : ∀ w1 : World, (binOp .eql 136 (.agg #[.complex .f32 a0 b0, .complex .f32 a1 b1, .complex .f32 a2 b2, .complex .f32 a3 b3]) (.agg #[.complex .f32 x4 0, .complex .f32 0 0, .complex .f32 0 0, .complex .f32 0 0])).run Tryz.prog w1 = .ok (.bool true) w1 := fun w1 => by
    rw [run_eql_struct, hq w1]
    rfl
  obtain ⟨q0, q1, q2, q3⟩ := cells4 (K15.out.2 _ (.tail _ (.tail _ (.head _))))
  obtain ⟨y0, y1, y2⟩ := cells3 (K15.out.2 _ (.head _))
  obtain ⟨z0, z1, z2⟩ := cells3 (K15.out.2 _ (.tail _ (.head _)))
  obtain ⟨x0, x1, x2⟩ := cells3 (K15.out.2 _ (.tail _ (.tail _ (.tail _ (.head _)))))
  have KZ : Hid (Kp w w15 [(B39, (.cells #[.int .i64 (D : Nat), .int .i64 (D : Nat), .slice (some ⟨g14, 0, none⟩) N c14] 121 (0, 0))), (Ba, (.cells #[.int .i64 (D : Nat), .int .i64 (D : Nat), .slice (some ⟨ga, 0, none⟩) N ca] 121 (0, 0)))]) := Lib.hid (K15.out.subs fun p hp => by
    rcases List.mem_cons.1 hp with rfl | hp
    · exact .head _
    · exact .tail _ (.tail _ (.tail _ hp)))
  clear K15
  go_wp2_with (first
    | (go_at_call 68; (refine Calls.mono (KM.out _ _ _ _ _ P15.out A15.out) ?_); rintro e w16 ⟨rfl, hb⟩;
       have K16 := Lib.hid (KZ.out.call hb); have A16 := Lib.hid (A15.out.kept hb); have M16 := Lib.hid (M15.out.kept hb); clear hb x0 x1 x2 y0 y1 y2 z0 z1 z2 P15 KZ A15 M15;
       obtain ⟨x0, x1, x2⟩ := cells3 (K16.out.2 _ (.tail _ (.head _))); obtain ⟨y0, y1, y2⟩ := cells3 (K16.out.2 _ (.head _)))
    | (go_at_call 68; (refine Calls.mono (KM.out _ _ _ _ _ M16.out A16.out) ?_); rintro e w17 ⟨rfl, hb⟩;
       have K17 := Lib.hid (K16.out.call hb); clear hb)
    | (go_at_call 61; (refine Calls.mono (emberRing_any _) ?_); rintro e w18 ⟨rfl, hb⟩;
       have K18 := Lib.hid (K17.out.call hb); clear hb))
  go_ret
  exact ⟨rfl, Kp.below K18.out⟩
end Go.Proofs.YtpmjiifdnnhecaaGreatDoor
