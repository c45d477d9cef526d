/-
  LightBins: its walk from the binned map on.
-/
import Derived.Test.YtfdkmmllemkogaaGreatDoorOdQa
import Derived.ArgAppend
import Derived.Deep.CutBlock
import Derived.Deep.DeepCutAuto
import Derived.Laws.BytesArg
import Derived.Lib.SlBytesConst
import Derived.Test.YtfdkmmllemkogaaGreatDoorOWa
import Derived.Test.YtfdkmmllemkogaaGreatDoorOWk
import Derived.Test.YtfdkmmllemkogaaGreatDoorOZd
import Derived.Test.YtfdkmmllemkogaaGreatDoorOWs
import Derived.OpenShut
import Derived.Test.YtfdkmmllemkogaaGreatDoorOBd
namespace Go.Proofs.YtfdkmmllemkogaaGreatDoor
open Go.RowKit Go.Shelf
set_option linter.unusedVariables false
set_option linter.unusedSimpArgs false

theorem tmod_nat (W A : Nat) : (W : Int).tmod (A : Int) = ((W % A : Nat) : Int) := by
  rw [Int.tmod_eq_emod_of_nonneg (by omega)]; push_cast; rfl
theorem tdiv_nat (W A : Nat) : (W : Int).tdiv (A : Int) = ((W / A : Nat) : Int) := by
  rw [Int.tdiv_eq_ediv_of_nonneg (by omega)]; push_cast; rfl

set_option maxRecDepth 1000000 in
set_option maxHeartbeats 25600000 in
theorem bins12 (w : World) (W H b o n c : Nat) (ks : List Int) (hR : RM w W H n ks b o) (hsz : ∀ j, j < n → (ks[j]?.getD 0).natAbs ≤ 96) (h160 : n ≤ 160) (hcap : n ≤ c) (n0 n1 : Int) (A Bc : Nat) (hA : 1 ≤ A ∧ A ≤ 4) (hB : 1 ≤ Bc ∧ Bc ≤ 4) (tt : Int) (htt : ks.sum = tt) (wr : World) (ht : TabAt w) (u4 u8 u9 u10 u11 u12 u13 u14 u15 u16 u17 u18 u19 u20 u21 u22 u23 u24 u25 u26 u27 u28 u29 u30 u31 u32 u33 u34 u35 u36 u37 u38 u39 u40 u41 u42 u43 u44 u45 u46 u47 u48 u49 u50 u51 u52 u53 u54 u55 u56 u57 u58 u59 u60 u61 u62 u63 u64 u65 u66 u67 u68 u69 u70 u71 u72 u73 u74 u75 u76 u77 u78 u79 u80 u81 u82 u83 u84 u85 u86 u87 u88 u89 u90 u91 u92 u93 u94 u95 u96 u97 u98 u99 u100 u101 u102 u103 u104 u105 u106 u107 u108 u109 u110 u111 u112 u113 u114 u115 u116 u117 u118 u119 u120 u121 u122 u123 u124 u125 u126 u127 u128 u129 u130 u131 u132 u133 u134 u135 u136 u137 u138 u139 u140 u141 u142 u143 u144 u145 u146 u147 u148 u149 u150 u151 u152 u153 u154 u155 u156 u157 u158 u159 u160 u161 u162 u163 u164 u165 u166 u167 u168 u169 u170 u171 u172 u173 u174 u175 u176 u177 u178 u179 u180 u181 u182 u183 u184 u185 u186 u187 u188 u189 u190 u191 u192 u193 u194 u195 u196 u197 u198 u199 u200 u201 u202 u203 u204 u205 u206 u207 u208 u209 u210 u211 u212 u213 u214 u215 u216 u217 u218 u219 u220 u221 u222 u223 u224 u225 u226 u227 u228 u229 u230 u231 u232 u233 u234 u235 u236 u237 u238 u239 u240 u241 u242 u243 u244 u245 u246 u247 u248 u249 u250 u251 u252 u253 u254 u255 u256 u257 u258 u259 u260 u261 u262 u263 u264 u265 u266 u267 u268 u269 u270 u271 u272 u273 u274 u275 u276 : Value)
    (hKp : Kp w wr [(w.heap.size, (.cells #[.int .i64 W, .int .i64 H, .slice (some ⟨b, o, none⟩) n c] 48 (0, 0)))]) :
    Code.wp Tryz.prog (cutB 12) (bodyPost Tryz.prog Tryz.f15 (TruePost w)) ⟨#[.agg #[.int .i64 (W : Nat), .int .i64 (H : Nat), .slice (some ⟨b, o, none⟩) n c], .agg #[.int .u8 n0, .int .u8 n1], .pointer (some ⟨w.heap.size, 0, none⟩), .pointer (some ⟨w.heap.size + 1, 0, none⟩), u4, .int .i64 (A : Nat), .int .i64 (Bc : Nat), .int .i64 tt, u8, u9, u10, u11, u12, u13, u14, u15, u16, u17, u18, u19, u20, u21, u22, u23, u24, u25, u26, u27, u28, u29, u30, u31, u32, u33, u34, u35, u36, u37, u38, u39, u40, u41, u42, u43, u44, u45, u46, u47, u48, u49, u50, u51, u52, u53, u54, u55, u56, u57, u58, u59, u60, u61, u62, u63, u64, u65, u66, u67, u68, u69, u70, u71, u72, u73, u74, u75, u76, u77, u78, u79, u80, u81, u82, u83, u84, u85, u86, u87, u88, u89, u90, u91, u92, u93, u94, u95, u96, u97, u98, u99, u100, u101, u102, u103, u104, u105, u106, u107, u108, u109, u110, u111, u112, u113, u114, u115, u116, u117, u118, u119, u120, u121, u122, u123, u124, u125, u126, u127, u128, u129, u130, u131, u132, u133, u134, u135, u136, u137, u138, u139, u140, u141, u142, u143, u144, u145, u146, u147, u148, u149, u150, u151, u152, u153, u154, u155, u156, u157, u158, u159, u160, u161, u162, u163, u164, u165, u166, u167, u168, u169, u170, u171, u172, u173, u174, u175, u176, u177, u178, u179, u180, u181, u182, u183, u184, u185, u186, u187, u188, u189, u190, u191, u192, u193, u194, u195, u196, u197, u198, u199, u200, u201, u202, u203, u204, u205, u206, u207, u208, u209, u210, u211, u212, u213, u214, u215, u216, u217, u218, u219, u220, u221, u222, u223, u224, u225, u226, u227, u228, u229, u230, u231, u232, u233, u234, u235, u236, u237, u238, u239, u240, u241, u242, u243, u244, u245, u246, u247, u248, u249, u250, u251, u252, u253, u254, u255, u256, u257, u258, u259, u260, u261, u262, u263, u264, u265, u266, u267, u268, u269, u270, u271, u272, u273, u274, u275, u276], []⟩ wr := by
  conv => arg 2; whnf
  dsimp only
  have hl := hR.len
  have ha := hR.area
  have hw := hR.wid
  have hh := hR.hei
  obtain ⟨r, hr⟩ : ∃ r, binR W H A = r := ⟨_, rfl⟩
  obtain ⟨XW, hXW⟩ : ∃ XW, W / A = XW := ⟨_, rfl⟩
  obtain ⟨XH, hXH⟩ : ∃ XH, H / A = XH := ⟨_, rfl⟩
  have CX : Hid (∀ (w1 : World) (g cc : Nat), RM w1 W H n ks g 0 → Calls Tryz.prog 64 #[.agg #[.int .i64 W, .int .i64 H, .slice (some ⟨g, 0, none⟩) n cc], .int .i64 A] w1 fun e w' =>
      ∃ X Y a' n' c', e = .returned (.tuple #[.agg #[.int .i64 X, .int .i64 Y, .slice a' n' c'], .int .i64 r]) ∧ ResV w' r (XW : Int) (XH : Int) (binK W A XW XH ks) X Y a' n' c' ∧ Below w1.heap.size w1 w') := Lib.hid fun w1 g cc h1 => by
    subst hr hXW hXH
    exact rm_binned h1 cc A (by omega) fun h4 X Y => Nat.le_trans (bin_small hl ha hw.1 hh.1 hA.1 hsz h4 X Y) (by omega)
  have hrc : r = 0 ∨ r = 2 := by rw [← hr]; exact binR_cases ..
  have HK := Lib.hid hKp
  have HR := Lib.hid hR
  have HRC := Lib.hid hrc
  have HSZ := Lib.hid hsz
  have HT := Lib.hid ht
  have HTT := Lib.hid htt
  have HRV := Lib.hid hr
  clear hKp hR hrc hsz ht htt hr
  obtain ⟨m0, m1, m2⟩ := cells3 (HK.out.2 _ (.head _))
  go_upto_region 13 with (first
    | (go_at_call 38; (refine Calls.mono (rm_own (HR.out.kept HK.out.1) c) ?_); rintro e w1 ⟨g1, c1, rfl, hm, hb⟩;
       have K1 := Lib.hid (HK.out.call hb); have M1 := Lib.hid hm; clear hb hm)
    | (go_at_call 64; with_reducible refine Calls.mono (CX.out _ _ _ M1.out) ?_; rintro e w2 ⟨y1, y2, ya, yn, yc, rfl, hv, hb⟩;
       have K2 := Lib.hid (K1.out.call hb); have V2 := Lib.hid hv; clear hb hv))
  clear m0 m1 m2 K1 M1 HK
  refine wp_world (fun w' => Kp w w' [(w2.heap.size, .cells #[.int .i64 y1, .int .i64 y2, .slice ya yn yc] 54 (0, 0)), (w.heap.size, (.cells #[.int .i64 W, .int .i64 H, .slice (some ⟨b, o, none⟩) n c] 48 (0, 0)))] ∧ Below w2.heap.size w2 w') (by first | exact ⟨K2.out.alloc _, (Below.refl _ _).alloc (Nat.le_refl _) _⟩ | exact ⟨kp_set3 K2.out _ _ _, below_new3 _ _ _⟩) fun wx kx => ?_
  have KX := Lib.hid kx.1
  have VX := Lib.hid (V2.out.kept kx.2)
  obtain ⟨B15, hB15⟩ : ∃ B15, w2.heap.size = B15 := ⟨_, rfl⟩
  rw [hB15] at KX ⊢
  clear kx K2 V2 hB15
  obtain ⟨m0, m1, m2⟩ := cells3 (KX.out.2 _ (.tail _ (.head _)))
  have nA : ¬ ((A : Int) = 0) := by omega
  have nA' : ¬ (A = 0) := by omega
  have t1 := tmod_nat W A
  have t2 := tmod_nat H A
  have lW : W % A < 64 := Nat.lt_of_lt_of_le (Nat.mod_lt W (by omega)) (by omega)
  have lH : H % A < 64 := Nat.lt_of_lt_of_le (Nat.mod_lt H (by omega)) (by omega)
  obtain ⟨p, hp⟩ : ∃ p, W % A = p := ⟨_, rfl⟩
  obtain ⟨q, hq⟩ : ∃ q, H % A = q := ⟨_, rfl⟩
  rw [hp] at t1 lW
  rw [hq] at t2 lH
  have w1' : IntKind.i64.wrap (p : Int) = (p : Int) := IntWalk.i64_in _ ⟨by omega, by omega⟩
  have w2' : IntKind.i64.wrap (q : Int) = (q : Int) := IntWalk.i64_in _ ⟨by omega, by omega⟩
  rcases HRC.out with rfl | rfl
  · have hd := binR_zero HRV.out
    obtain rfl : p = 0 := by rw [← hp]; exact hd.1
    obtain rfl : q = 0 := by rw [← hq]; exact hd.2
    have eW : XW * A = W := by rw [← hXW]; exact Nat.div_mul_cancel (Nat.dvd_of_mod_eq_zero hd.1)
    have eH : XH * A = H := by rw [← hXH]; exact Nat.div_mul_cancel (Nat.dvd_of_mod_eq_zero hd.2)
    have dW : 1 ≤ XW ∧ XW ≤ 64 := by rw [← hXW]; exact ⟨Nat.div_pos (Nat.le_of_dvd hw.1 (Nat.dvd_of_mod_eq_zero hd.1)) hA.1, Nat.le_trans (Nat.div_le_self _ _) hw.2⟩
    have dH : 1 ≤ XH ∧ XH ≤ 64 := by rw [← hXH]; exact ⟨Nat.div_pos (Nat.le_of_dvd hh.1 (Nat.dvd_of_mod_eq_zero hd.2)) hA.1, Nat.le_trans (Nat.div_le_self _ _) hh.2⟩
    obtain ⟨g15, rfl, rfl, rfl, rfl, hx⟩ := ResV.rm VX.out (binK_len ..) (Nat.mul_comm XH XW) dW dH
    obtain ⟨N, hN⟩ : ∃ N, XW * XH = N := ⟨_, rfl⟩
    rw [hN] at hx KX ⊢
    have HX := Lib.hid hx
    have q1 := tdiv_nat W A
    have q2 := tdiv_nat H A
    rw [hXW] at q1
    rw [hXH] at q2
    have w3' : IntKind.i64.wrap (XW : Int) = (XW : Int) := IntWalk.i64_in _ ⟨by omega, by omega⟩
    have w4' : IntKind.i64.wrap (XH : Int) = (XH : Int) := IntWalk.i64_in _ ⟨by omega, by omega⟩
    obtain ⟨x0, x1, x2⟩ := cells3 (KX.out.2 _ (.head _))
    have lx := lt_of_blk (KX.out.2 _ (.head _))
    have lm := lt_of_blk (KX.out.2 _ (.tail _ (.head _)))
    have hB' : Blw wx.heap.size wx wx := show Below _ _ _ from Below.refl _ _
    have hB'' : Blw wx.heap.size wx wx.drew := show Below _ _ _ from (Below.refl wx.heap.size wx).drew
    have KT : Hid (∀ w1 : World, Blw wx.heap.size wx w1 → Calls Tryz.prog 97 #[.agg #[.int .i64 (XW : Nat), .int .i64 (XH : Nat), .slice (some ⟨g15, 0, none⟩) N yc]] w1 fun e w' => e = .returned (.agg #[.int .i64 (XW : Nat), .int .i64 (XH : Nat), .slice (some ⟨g15, 0, none⟩) N yc]) ∧ Blw wx.heap.size wx w') := Lib.hid fun w1 h =>
      (told_any _ _ _ _ _ w1).mono fun e w' ⟨h1, h2⟩ => ⟨h1, Below.trans h (h2.mono (Below.size h))⟩
    have KC : Hid (∀ w1 : World, Blw wx.heap.size wx w1 → Calls Tryz.prog 41 #[.agg #[.int .i64 (XW : Nat), .int .i64 (XH : Nat), .slice (some ⟨g15, 0, none⟩) N yc]] w1 fun e w' => e = .returned (.int .i64 0) ∧ Blw wx.heap.size wx w') := Lib.hid fun w1 h =>
      (rm_check (HX.out.kept h) yc).mono fun e w' ⟨h1, h2⟩ => ⟨h1, Below.trans h (h2.mono (Below.size h))⟩
    clear hx VX hl ha hw hh eW eH dW dH
    go_upto_if 119 with fail
    go_cut [] from 15 to 197 (fun wc => Kp w wc [(w.heap.size, (.cells #[.int .i64 W, .int .i64 H, .slice (some ⟨b, o, none⟩) n c] 48 (0, 0)))])
    case rest =>
      rename_i hK
      have K8 := Lib.hid hcut
      clear hcut
      refine hK _ _ ?_
      clear hK
      exact bins23 w W H b o n c ks HR.out HSZ.out hcap n0 n1 _ HT.out _ _ _ _ _ _ _ _ _ _ _ _ _ _ _ _ _ _ _ _ _ _ _ _ _ _ _ _ _ _ _ _ _ _ _ _ _ _ _ _ _ _ _ _ _ _ _ _ _ _ _ _ _ _ _ _ _ _ _ _ _ _ _ _ _ _ _ _ _ _ _ _ _ _ _ _ _ _ _ _ _ _ _ _ _ _ _ _ _ _ _ _ _ _ _ _ _ _ _ _ _ _ _ _ _ _ _ _ _ _ _ _ _ _ _ _ _ _ _ _ _ _ _ _ _ _ _ _ _ _ _ _ _ _ _ _ _ _ _ _ _ _ _ _ _ _ _ _ _ _ _ _ _ _ _ _ _ _ _ _ _ _ _ _ _ _ _ _ _ _ _ _ _ _ _ _ _ _ _ _ _ _ _ _ _ _ _ _ _ _ _ _ _ _ _ _ _ _ _ _ _ _ _ _ _ _ _ _ _ _ _ _ _ _ _ _ _ _ _ _ _ _ _ _ _ _ _ _ _ _ _ _ _ _ _ _ _ _ _ _ _ _ _ _ _ _ _ _ _ _ _ _ _ _ _ _ _ _ _ _ _ _ _ _ _ _ _ _ _ _ _ _ _ K8.out
    go_upto_region 16 with fail
    go_region_held3 (fun w' => w'.cell? ⟨B15, 0, none⟩ = some (.int .i64 (XW : Nat)) ∧ w'.cell? ⟨B15, 1, none⟩ = some (.int .i64 (XH : Nat)) ∧ w'.cell? ⟨B15, 2, none⟩ = some (.slice (some ⟨g15, 0, none⟩) N yc) ∧
        w'.cell? ⟨w.heap.size, 0, none⟩ = some (.int .i64 W) ∧ w'.cell? ⟨w.heap.size, 1, none⟩ = some (.int .i64 H) ∧ Blw wx.heap.size wx w')
      (first
        | (go_split_ands; refine ⟨?_, ?_, ?_, ?_, ?_, ?_⟩ <;> with_reducible assumption)
        | (go_split_ands; refine ⟨?_, ?_, ?_, ?_, ?_, ?_⟩ <;> first | (with_reducible assumption) | (rw [Below.cell (w := wx) (by assumption : Blw wx.heap.size wx _) (by assumption)]; assumption))
        | (go_keep; done))
      (first
        | (go_at_call 97; with_reducible refine (KT.out _ (by assumption)).mono ?_; rintro e w10 ⟨rfl, hb10⟩)
        | (go_at_call 41; with_reducible refine (KC.out _ (by assumption)).mono ?_; rintro e w11 ⟨rfl, hb11⟩))
    all_goals
      have F : Hid (Kp w w11 [(B15, (.cells #[.int .i64 (XW : Nat), .int .i64 (XH : Nat), .slice (some ⟨g15, 0, none⟩) N yc] 54 (0, 0))), (w.heap.size, (.cells #[.int .i64 W, .int .i64 H, .slice (some ⟨b, o, none⟩) n c] 48 (0, 0)))]) := Lib.hid (KX.out.call hb11)
      have FX := Lib.hid (HX.out.kept hb11)
      clear x0 x1 x2 m0 m1 m2 KX HX KT KC
      go_upto_if 147 with fail
      go_cut [] from 122 to 147 (fun wc => Kp w wc [(B15, (.cells #[.int .i64 (XW : Nat), .int .i64 (XH : Nat), .slice (some ⟨g15, 0, none⟩) N yc] 54 (0, 0))), (w.heap.size, (.cells #[.int .i64 W, .int .i64 H, .slice (some ⟨b, o, none⟩) n c] 48 (0, 0)))] ∧ RM wc XW XH N (binK W A XW XH ks) g15 0)
      case first =>
        go_wp2_with fail
        go_meet
        exact ⟨F.out, FX.out⟩
      case rest =>
        rename_i hK hHeld
        have K8 := Lib.hid hcut.1
        have X8 := Lib.hid hcut.2
        clear hcut F FX
        refine hK _ _ ?_
        clear hK
        refine bins18 w W H b o n c ks HR.out HSZ.out h160 n0 n1 A Bc hA hB hd tt HTT.out B15 g15 N yc XW XH hXW hXH _ X8.out _ _ _ _ _ _ _ _ _ _ _ _ _ _ _ _ _ _ _ _ _ _ _ _ _ _ _ _ _ _ _ _ _ _ _ _ _ _ _ _ _ _ _ _ _ _ _ _ _ _ _ _ _ _ _ _ _ _ _ _ _ _ _ _ _ _ _ _ _ _ _ _ _ _ _ _ _ _ _ _ _ _ _ _ _ _ _ _ _ _ _ _ _ _ _ _ _ _ _ _ _ _ _ _ _ _ _ _ _ _ _ _ _ _ _ _ _ _ _ _ _ _ _ _ _ _ _ _ _ _ _ _ _ _ _ _ _ _ _ _ _ _ _ _ _ _ _ _ _ _ _ _ _ _ _ _ _ _ _ _ _ _ _ _ _ _ _ _ _ _ _ _ _ _ _ _ _ _ _ _ _ _ _ _ _ _ _ _ _ _ _ _ _ _ _ _ _ _ _ _ _ _ _ _ _ _ _ _ _ _ _ _ _ _ _ _ _ _ _ _ _ _ _ _ _ _ _ _ _ _ _ _ _ _ _ _ _ _ _ _ _ _ _ _ _ _ _ _ _ _ _ _ _ _ _ _ _ _ _ _ _ _ _ _ _ _ _ _ _ _ K8.out ?_
        intro w' v17 v18 v19 v20 v21 v22 v148 v149 v150 v151 v152 v153 v154 v155 v156 v157 v158 v159 v160 v161 v162 v163 v164 v165 v166 v167 v168 v169 v170 v171 v172 v173 v174 v175 v176 v177 v178 v179 v180 v181 v182 v183 v184 v185 v186 v187 v188 v189 v190 v191 v192 v193 v194 v195 v196 v197 hk'
        have F2 := Lib.hid hk'
        clear hk'
        (try dsimp only)
        go_wp2_with fail
        go_meet
        exact F2.out
  · have F2 := Lib.hid (KX.out.subs (m := [(w.heap.size, (.cells #[.int .i64 W, .int .i64 H, .slice (some ⟨b, o, none⟩) n c] 48 (0, 0)))]) fun p hp => .tail _ hp)
    have hnd : ¬ (p = 0 ∧ q = 0) := fun hh0 => by
      have h := HRV.out
      unfold binR at h
      rw [hp, hq, if_pos hh0] at h
      cases h
    by_cases hp0 : p = 0
    · subst hp0
      have hq0 : ¬ ((q : Int) = 0) := by omega
      have hq0' : ¬ (q = 0) := by omega
      go_upto_if 119 with fail
      go_cut [] from 15 to 197 (fun wc => Kp w wc [(w.heap.size, (.cells #[.int .i64 W, .int .i64 H, .slice (some ⟨b, o, none⟩) n c] 48 (0, 0)))])
      case rest =>
        rename_i hK
        have K8 := Lib.hid hcut
        clear hcut
        refine hK _ _ ?_
        clear hK
        exact bins23 w W H b o n c ks HR.out HSZ.out hcap n0 n1 _ HT.out _ _ _ _ _ _ _ _ _ _ _ _ _ _ _ _ _ _ _ _ _ _ _ _ _ _ _ _ _ _ _ _ _ _ _ _ _ _ _ _ _ _ _ _ _ _ _ _ _ _ _ _ _ _ _ _ _ _ _ _ _ _ _ _ _ _ _ _ _ _ _ _ _ _ _ _ _ _ _ _ _ _ _ _ _ _ _ _ _ _ _ _ _ _ _ _ _ _ _ _ _ _ _ _ _ _ _ _ _ _ _ _ _ _ _ _ _ _ _ _ _ _ _ _ _ _ _ _ _ _ _ _ _ _ _ _ _ _ _ _ _ _ _ _ _ _ _ _ _ _ _ _ _ _ _ _ _ _ _ _ _ _ _ _ _ _ _ _ _ _ _ _ _ _ _ _ _ _ _ _ _ _ _ _ _ _ _ _ _ _ _ _ _ _ _ _ _ _ _ _ _ _ _ _ _ _ _ _ _ _ _ _ _ _ _ _ _ _ _ _ _ _ _ _ _ _ _ _ _ _ _ _ _ _ _ _ _ _ _ _ _ _ _ _ _ _ _ _ _ _ _ _ _ _ _ _ _ _ _ _ _ _ _ _ _ _ _ _ _ _ _ _ _ K8.out
      go_wp2_with fail
      go_meet
      exact F2.out
    · have hp0' : ¬ ((p : Int) = 0) := by omega
      go_upto_if 119 with fail
      go_cut [] from 15 to 197 (fun wc => Kp w wc [(w.heap.size, (.cells #[.int .i64 W, .int .i64 H, .slice (some ⟨b, o, none⟩) n c] 48 (0, 0)))])
      case rest =>
        rename_i hK
        have K8 := Lib.hid hcut
        clear hcut
        refine hK _ _ ?_
        clear hK
        exact bins23 w W H b o n c ks HR.out HSZ.out hcap n0 n1 _ HT.out _ _ _ _ _ _ _ _ _ _ _ _ _ _ _ _ _ _ _ _ _ _ _ _ _ _ _ _ _ _ _ _ _ _ _ _ _ _ _ _ _ _ _ _ _ _ _ _ _ _ _ _ _ _ _ _ _ _ _ _ _ _ _ _ _ _ _ _ _ _ _ _ _ _ _ _ _ _ _ _ _ _ _ _ _ _ _ _ _ _ _ _ _ _ _ _ _ _ _ _ _ _ _ _ _ _ _ _ _ _ _ _ _ _ _ _ _ _ _ _ _ _ _ _ _ _ _ _ _ _ _ _ _ _ _ _ _ _ _ _ _ _ _ _ _ _ _ _ _ _ _ _ _ _ _ _ _ _ _ _ _ _ _ _ _ _ _ _ _ _ _ _ _ _ _ _ _ _ _ _ _ _ _ _ _ _ _ _ _ _ _ _ _ _ _ _ _ _ _ _ _ _ _ _ _ _ _ _ _ _ _ _ _ _ _ _ _ _ _ _ _ _ _ _ _ _ _ _ _ _ _ _ _ _ _ _ _ _ _ _ _ _ _ _ _ _ _ _ _ _ _ _ _ _ _ _ _ _ _ _ _ _ _ _ _ _ _ _ _ _ _ _ _ K8.out
      go_wp2_with fail
      go_meet
      exact F2.out
end Go.Proofs.YtfdkmmllemkogaaGreatDoor

/-
  LightBins: its walk from the light of the map on: binned by 1, scaled by 3 and by a third.
-/

namespace Go.Proofs.YtfdkmmllemkogaaGreatDoor
open Go.RowKit Go.Shelf
set_option linter.unusedVariables false
set_option linter.unusedSimpArgs false

theorem scaleK_small {n : Nat} {ks : List Int} (hl : ks.length = n) (h : ∀ j, j < n → (ks[j]?.getD 0).natAbs ≤ 96) : ∀ j, j < n → (roundK (ks[j]?.getD 0 * 3) 1).natAbs ≤ 16384 ∧ (roundK ((scaleK 3 1 ks)[j]?.getD 0 * 1) 3).natAbs ≤ 16384 := fun j hj => by
  have h1 := h j hj
  rw [scaleK_get (by omega), round3, round13]
  omega
theorem rm_binned1 {w : World} {W H n b o : Nat} {L : List Int} (h : RM w W H n L b o) (c : Nat) :
    GivesMap 64 #[.agg #[.int .i64 W, .int .i64 H, .slice (some ⟨b, o, none⟩) n c], .int .i64 1] w W H n L := by
  have hw := h.wid
  have hh := h.hei
  have hz := h.sizes
  have hl := h.len
  have ha := h.area
  have hn := h.small
  have hN : W * H = n := by rw [Nat.mul_comm]; exact ha
  have e1 := binK_one hl hN hw.1
  obtain ⟨h1, xs, h2⟩ := h
  have g1 : ∀ j, j < n → binTo W L 1 (j % W) (j / W) (placesTo 1 (1 * 1)) = L[j]?.getD 0 := fun j hj => by
    have h3 := binK_get (W := W) (s := 1) (WW := W) (HH := H) (ks := L) (j := j) (by omega)
    rw [e1] at h3
    exact h3.symm
  have k := binned_any W H 1 W H (by omega) (by omega) (by omega) (by omega) b o c n xs L w h2 h1 (fun p => by
    refine Nat.le_trans (binTo_small (W := W) (s := 1) (M := 16384) (by omega) (bd_all hl hz) p.1 p.2) (by omega))
  rw [hN] at k
  refine k.mono ?_
  rintro e' w' ⟨g, he, hg, hc, hb⟩
  exact ⟨g, he, RM.of_cells hl hn hz hw hh ha hg (fun j hj => by rw [hc j hj, g1 j hj]), hb⟩

set_option maxRecDepth 1000000 in
set_option maxHeartbeats 25600000 in
theorem bins9 (w : World) (W H b o n c : Nat) (ks : List Int) (hR : RM w W H n ks b o) (hsz : ∀ j, j < n → (ks[j]?.getD 0).natAbs ≤ 96) (h160 : n ≤ 160) (hcap : n ≤ c) (n0 n1 : Int) (A Bc : Nat) (hA : 1 ≤ A ∧ A ≤ 4) (hB : 1 ≤ Bc ∧ Bc ≤ 4) (tt : Int) (htt : ks.sum = tt) (B11 g11 c11 : Nat) (wr : World) (ht : TabAt w) (u4 u8 u9 u10 u12 u13 u14 u15 u16 u17 u18 u19 u20 u21 u22 u23 u24 u25 u26 u27 u28 u29 u30 u31 u32 u33 u34 u35 u36 u37 u38 u39 u40 u41 u42 u43 u44 u45 u46 u47 u48 u49 u50 u51 u52 u53 u54 u55 u56 u57 u58 u59 u60 u61 u62 u63 u64 u65 u66 u67 u68 u69 u70 u71 u72 u73 u74 u75 u76 u77 u78 u79 u80 u81 u82 u83 u84 u85 u86 u87 u88 u89 u90 u91 u92 u93 u94 u95 u96 u97 u98 u99 u100 u101 u102 u103 u104 u105 u106 u107 u108 u109 u110 u111 u112 u113 u114 u115 u116 u117 u118 u119 u120 u121 u122 u123 u124 u125 u126 u127 u128 u129 u130 u131 u132 u133 u134 u135 u136 u137 u138 u139 u140 u141 u142 u143 u144 u145 u146 u147 u148 u149 u150 u151 u152 u153 u154 u155 u156 u157 u158 u159 u160 u161 u162 u163 u164 u165 u166 u167 u168 u169 u170 u171 u172 u173 u174 u175 u176 u177 u178 u179 u180 u181 u182 u183 u184 u185 u186 u187 u188 u189 u190 u191 u192 u193 u194 u195 u196 u197 u198 u199 u200 u201 u202 u203 u204 u205 u206 u207 u208 u209 u210 u211 u212 u213 u214 u215 u216 u217 u218 u219 u220 u221 u222 u223 u224 u225 u226 u227 u228 u229 u230 u231 u232 u233 u234 u235 u236 u237 u238 u239 u240 u241 u242 u243 u244 u245 u246 u247 u248 u249 u250 u251 u252 u253 u254 u255 u256 u257 u258 u259 u260 u261 u262 u263 u264 u265 u266 u267 u268 u269 u270 u271 u272 u273 u274 u275 u276 : Value)
    (hKp : Kp w wr [(B11, (.cells #[.int .i64 W, .int .i64 H, .slice (some ⟨g11, 0, none⟩) n c11] 54 (0, 0))), (w.heap.size, (.cells #[.int .i64 W, .int .i64 H, .slice (some ⟨b, o, none⟩) n c] 48 (0, 0)))]) (hU : RM wr W H n (scaleK 3 1 ks) g11 0) :
    Code.wp Tryz.prog (cutB 9) (bodyPost Tryz.prog Tryz.f15 (TruePost w)) ⟨#[.agg #[.int .i64 (W : Nat), .int .i64 (H : Nat), .slice (some ⟨b, o, none⟩) n c], .agg #[.int .u8 n0, .int .u8 n1], .pointer (some ⟨w.heap.size, 0, none⟩), .pointer (some ⟨w.heap.size + 1, 0, none⟩), u4, .int .i64 (A : Nat), .int .i64 (Bc : Nat), .int .i64 tt, u8, u9, u10, .pointer (some ⟨B11, 0, none⟩), u12, u13, u14, u15, u16, u17, u18, u19, u20, u21, u22, u23, u24, u25, u26, u27, u28, u29, u30, u31, u32, u33, u34, u35, u36, u37, u38, u39, u40, u41, u42, u43, u44, u45, u46, u47, u48, u49, u50, u51, u52, u53, u54, u55, u56, u57, u58, u59, u60, u61, u62, u63, u64, u65, u66, u67, u68, u69, u70, u71, u72, u73, u74, u75, u76, u77, u78, u79, u80, u81, u82, u83, u84, u85, u86, u87, u88, u89, u90, u91, u92, u93, u94, u95, u96, u97, u98, u99, u100, u101, u102, u103, u104, u105, u106, u107, u108, u109, u110, u111, u112, u113, u114, u115, u116, u117, u118, u119, u120, u121, u122, u123, u124, u125, u126, u127, u128, u129, u130, u131, u132, u133, u134, u135, u136, u137, u138, u139, u140, u141, u142, u143, u144, u145, u146, u147, u148, u149, u150, u151, u152, u153, u154, u155, u156, u157, u158, u159, u160, u161, u162, u163, u164, u165, u166, u167, u168, u169, u170, u171, u172, u173, u174, u175, u176, u177, u178, u179, u180, u181, u182, u183, u184, u185, u186, u187, u188, u189, u190, u191, u192, u193, u194, u195, u196, u197, u198, u199, u200, u201, u202, u203, u204, u205, u206, u207, u208, u209, u210, u211, u212, u213, u214, u215, u216, u217, u218, u219, u220, u221, u222, u223, u224, u225, u226, u227, u228, u229, u230, u231, u232, u233, u234, u235, u236, u237, u238, u239, u240, u241, u242, u243, u244, u245, u246, u247, u248, u249, u250, u251, u252, u253, u254, u255, u256, u257, u258, u259, u260, u261, u262, u263, u264, u265, u266, u267, u268, u269, u270, u271, u272, u273, u274, u275, u276], []⟩ wr := by
  conv => arg 2; whnf
  dsimp only
  have hl := hR.len
  have CS : Hid (∀ (w1 : World) (g cc : Nat), RM w1 W H n (scaleK 3 1 ks) g 0 → GivesMap 62 #[.agg #[.int .i64 W, .int .i64 H, .slice (some ⟨g, 0, none⟩) n cc], .int .i64 1, .int .i64 3] w1 W H n ks) := Lib.hid fun w1 g cc h1 => by
    have k := rm_scaled h1 cc 1 3 (by omega) (by omega) (fun j hj => (scaleK_small hl hsz j hj).2)
    rw [scaleK_back] at k
    exact k
  have HK := Lib.hid hKp
  have HR := Lib.hid hR
  have HU := Lib.hid hU
  have HSZ := Lib.hid hsz
  have HT := Lib.hid ht
  have HTT := Lib.hid htt
  clear hKp hR hU hsz ht htt hl
  obtain ⟨x0, x1, x2⟩ := cells3 (HK.out.2 _ (.head _))
  go_upto_region 10 with (first
    | (go_at_call 97; with_reducible refine (told_any _ _ _ _ _ _).mono ?_; rintro e w1 ⟨rfl, hb⟩;
       have K1 := Lib.hid (HK.out.call hb); have U1 := Lib.hid (HU.out.kept hb); clear hb)
    | (go_at_call 38; (refine Calls.mono (rm_own U1.out c11) ?_); rintro e w2 ⟨g2, c2, rfl, hm, hb⟩;
       have K2 := Lib.hid (K1.out.call hb); have M2 := Lib.hid hm; clear hb hm)
    | (go_at_call 62; (refine Calls.mono (CS.out _ _ _ M2.out) ?_); rintro e w3 ⟨g3, rfl, hm, hb⟩;
       have K3 := Lib.hid (K2.out.call hb); have D3 := Lib.hid hm; clear hb hm))
  clear x0 x1 x2 K1 U1 K2 M2 HK HU
  refine wp_world (fun w' => Kp w w' [(w3.heap.size, .cells #[.int .i64 W, .int .i64 H, .slice (some ⟨g3, 0, none⟩) n n] 54 (0, 0)), (B11, (.cells #[.int .i64 W, .int .i64 H, .slice (some ⟨g11, 0, none⟩) n c11] 54 (0, 0))), (w.heap.size, (.cells #[.int .i64 W, .int .i64 H, .slice (some ⟨b, o, none⟩) n c] 48 (0, 0)))] ∧ Below w3.heap.size w3 w') (by first | exact ⟨K3.out.alloc _, (Below.refl _ _).alloc (Nat.le_refl _) _⟩ | exact ⟨kp_set3 K3.out _ _ _, below_new3 _ _ _⟩) fun wx kx => ?_
  have KX := Lib.hid kx.1
  have DX := Lib.hid (D3.out.kept kx.2)
  obtain ⟨B13, hB13⟩ : ∃ B13, w3.heap.size = B13 := ⟨_, rfl⟩
  rw [hB13] at KX ⊢
  clear kx K3 D3 hB13
  obtain ⟨x0, x1, x2⟩ := cells3 (KX.out.2 _ (.head _))
  obtain ⟨m0, m1, m2⟩ := cells3 (KX.out.2 _ (.tail _ (.tail _ (.head _))))
  have lx := lt_of_blk (KX.out.2 _ (.head _))
  have lm := lt_of_blk (KX.out.2 _ (.tail _ (.tail _ (.head _))))
  have hB' : Blw wx.heap.size wx wx := show Below _ _ _ from Below.refl _ _
  have hB'' : Blw wx.heap.size wx wx.drew := show Below _ _ _ from (Below.refl wx.heap.size wx).drew
  have KT : Hid (∀ (w1 : World) (g cc : Nat), Blw wx.heap.size wx w1 → Calls Tryz.prog 97 #[.agg #[.int .i64 W, .int .i64 H, .slice (some ⟨g, 0, none⟩) n cc]] w1 fun e w' => e = .returned (.agg #[.int .i64 W, .int .i64 H, .slice (some ⟨g, 0, none⟩) n cc]) ∧ Blw wx.heap.size wx w') := Lib.hid fun w1 g cc h =>
    (told_any _ _ _ _ _ w1).mono fun e w' ⟨h1, h2⟩ => ⟨h1, Below.trans h (h2.mono (Below.size h))⟩
  have KE : Hid (∀ w1 : World, Blw wx.heap.size wx w1 → Calls Tryz.prog 98 #[.agg #[.int .i64 W, .int .i64 H, .slice (some ⟨g3, 0, none⟩) n n], .agg #[.int .i64 W, .int .i64 H, .slice (some ⟨b, o, none⟩) n c]] w1 fun e w' => e = .returned (.bool true) ∧ Blw wx.heap.size wx w') := Lib.hid fun w1 h =>
    (rm_same (DX.out.kept h) (HR.out.kept (KX.out.1.trans (Below.mono h KX.out.1.size))) n c).mono fun e w' ⟨h1, h2⟩ => ⟨h1, Below.trans h (h2.mono (Below.size h))⟩
  go_region_held3 (fun w' => w'.cell? ⟨B13, 0, none⟩ = some (.int .i64 W) ∧ w'.cell? ⟨B13, 1, none⟩ = some (.int .i64 H) ∧ w'.cell? ⟨B13, 2, none⟩ = some (.slice (some ⟨g3, 0, none⟩) n n) ∧ w'.cell? ⟨w.heap.size, 0, none⟩ = some (.int .i64 W) ∧ w'.cell? ⟨w.heap.size, 1, none⟩ = some (.int .i64 H) ∧ w'.cell? ⟨w.heap.size, 2, none⟩ = some (.slice (some ⟨b, o, none⟩) n c) ∧ Blw wx.heap.size wx w')
    (first
        | (go_split_ands; refine ⟨?_, ?_, ?_, ?_, ?_, ?_, ?_⟩ <;> with_reducible assumption)
        | (go_split_ands; refine ⟨?_, ?_, ?_, ?_, ?_, ?_, ?_⟩ <;> first | (with_reducible assumption) | (rw [Below.cell (w := wx) (by assumption : Blw wx.heap.size wx _) (by assumption)]; assumption))
        | (go_keep; done))
    (first
      | (go_at_call 97; with_reducible refine (KT.out _ _ _ (by assumption)).mono ?_; rintro e w10 ⟨rfl, hb10⟩)
      | (go_at_call 98; with_reducible refine (KE.out _ (by assumption)).mono ?_; rintro e w11 ⟨rfl, hb11⟩))
  all_goals
    have F : Hid (Kp w w11 [(w.heap.size, (.cells #[.int .i64 W, .int .i64 H, .slice (some ⟨b, o, none⟩) n c] 48 (0, 0)))]) := Lib.hid ((KX.out.call hb11).subs fun p hp => .tail _ (.tail _ hp))
    clear x0 x1 x2 m0 m1 m2 KX DX KT KE
    go_upto_if 100 with fail
    go_cut [] (fun wc => Kp w wc [(w.heap.size, (.cells #[.int .i64 W, .int .i64 H, .slice (some ⟨b, o, none⟩) n c] 48 (0, 0)))])
    case first =>
      go_wp2_with fail
      go_meet
      exact F.out
    case rest =>
      rename_i hK hHeld
      have K8 := Lib.hid hcut
      clear hcut F
      refine hK _ _ ?_
      clear hK
      exact bins12 w W H b o n c ks HR.out HSZ.out h160 hcap n0 n1 A Bc hA hB tt HTT.out _ HT.out _ _ _ _ _ _ _ _ _ _ _ _ _ _ _ _ _ _ _ _ _ _ _ _ _ _ _ _ _ _ _ _ _ _ _ _ _ _ _ _ _ _ _ _ _ _ _ _ _ _ _ _ _ _ _ _ _ _ _ _ _ _ _ _ _ _ _ _ _ _ _ _ _ _ _ _ _ _ _ _ _ _ _ _ _ _ _ _ _ _ _ _ _ _ _ _ _ _ _ _ _ _ _ _ _ _ _ _ _ _ _ _ _ _ _ _ _ _ _ _ _ _ _ _ _ _ _ _ _ _ _ _ _ _ _ _ _ _ _ _ _ _ _ _ _ _ _ _ _ _ _ _ _ _ _ _ _ _ _ _ _ _ _ _ _ _ _ _ _ _ _ _ _ _ _ _ _ _ _ _ _ _ _ _ _ _ _ _ _ _ _ _ _ _ _ _ _ _ _ _ _ _ _ _ _ _ _ _ _ _ _ _ _ _ _ _ _ _ _ _ _ _ _ _ _ _ _ _ _ _ _ _ _ _ _ _ _ _ _ _ _ _ _ _ _ _ _ _ _ _ _ _ _ _ _ _ _ _ _ _ _ _ _ _ _ _ _ _ _ _ K8.out

set_option maxRecDepth 1000000 in
set_option maxHeartbeats 25600000 in
theorem bins4 (w : World) (W H b o n c : Nat) (ks : List Int) (hR : RM w W H n ks b o) (hsz : ∀ j, j < n → (ks[j]?.getD 0).natAbs ≤ 96) (h160 : n ≤ 160) (hcap : n ≤ c) (n0 n1 : Int) (A Bc : Nat) (hA : 1 ≤ A ∧ A ≤ 4) (hB : 1 ≤ Bc ∧ Bc ≤ 4) (wr : World) (ht : TabAt w) (u4 u7 u8 u9 u10 u11 u12 u13 u14 u15 u16 u17 u18 u19 u20 u21 u22 u23 u24 u25 u26 u27 u28 u29 u30 u31 u32 u33 u34 u35 u36 u37 u38 u39 u40 u41 u42 u43 u44 u45 u46 u47 u48 u49 u50 u51 u52 u53 u54 u55 u56 u57 u58 u59 u60 u61 u62 u63 u64 u65 u66 u67 u68 u69 u70 u71 u72 u73 u74 u75 u76 u77 u78 u79 u80 u81 u82 u83 u84 u85 u86 u87 u88 u89 u90 u91 u92 u93 u94 u95 u96 u97 u98 u99 u100 u101 u102 u103 u104 u105 u106 u107 u108 u109 u110 u111 u112 u113 u114 u115 u116 u117 u118 u119 u120 u121 u122 u123 u124 u125 u126 u127 u128 u129 u130 u131 u132 u133 u134 u135 u136 u137 u138 u139 u140 u141 u142 u143 u144 u145 u146 u147 u148 u149 u150 u151 u152 u153 u154 u155 u156 u157 u158 u159 u160 u161 u162 u163 u164 u165 u166 u167 u168 u169 u170 u171 u172 u173 u174 u175 u176 u177 u178 u179 u180 u181 u182 u183 u184 u185 u186 u187 u188 u189 u190 u191 u192 u193 u194 u195 u196 u197 u198 u199 u200 u201 u202 u203 u204 u205 u206 u207 u208 u209 u210 u211 u212 u213 u214 u215 u216 u217 u218 u219 u220 u221 u222 u223 u224 u225 u226 u227 u228 u229 u230 u231 u232 u233 u234 u235 u236 u237 u238 u239 u240 u241 u242 u243 u244 u245 u246 u247 u248 u249 u250 u251 u252 u253 u254 u255 u256 u257 u258 u259 u260 u261 u262 u263 u264 u265 u266 u267 u268 u269 u270 u271 u272 u273 u274 u275 u276 : Value)
    (hKp : Kp w wr [(w.heap.size, (.cells #[.int .i64 W, .int .i64 H, .slice (some ⟨b, o, none⟩) n c] 48 (0, 0)))]) :
    Code.wp Tryz.prog (cutB 4) (bodyPost Tryz.prog Tryz.f15 (TruePost w)) ⟨#[.agg #[.int .i64 (W : Nat), .int .i64 (H : Nat), .slice (some ⟨b, o, none⟩) n c], .agg #[.int .u8 n0, .int .u8 n1], .pointer (some ⟨w.heap.size, 0, none⟩), .pointer (some ⟨w.heap.size + 1, 0, none⟩), u4, .int .i64 (A : Nat), .int .i64 (Bc : Nat), u7, u8, u9, u10, u11, u12, u13, u14, u15, u16, u17, u18, u19, u20, u21, u22, u23, u24, u25, u26, u27, u28, u29, u30, u31, u32, u33, u34, u35, u36, u37, u38, u39, u40, u41, u42, u43, u44, u45, u46, u47, u48, u49, u50, u51, u52, u53, u54, u55, u56, u57, u58, u59, u60, u61, u62, u63, u64, u65, u66, u67, u68, u69, u70, u71, u72, u73, u74, u75, u76, u77, u78, u79, u80, u81, u82, u83, u84, u85, u86, u87, u88, u89, u90, u91, u92, u93, u94, u95, u96, u97, u98, u99, u100, u101, u102, u103, u104, u105, u106, u107, u108, u109, u110, u111, u112, u113, u114, u115, u116, u117, u118, u119, u120, u121, u122, u123, u124, u125, u126, u127, u128, u129, u130, u131, u132, u133, u134, u135, u136, u137, u138, u139, u140, u141, u142, u143, u144, u145, u146, u147, u148, u149, u150, u151, u152, u153, u154, u155, u156, u157, u158, u159, u160, u161, u162, u163, u164, u165, u166, u167, u168, u169, u170, u171, u172, u173, u174, u175, u176, u177, u178, u179, u180, u181, u182, u183, u184, u185, u186, u187, u188, u189, u190, u191, u192, u193, u194, u195, u196, u197, u198, u199, u200, u201, u202, u203, u204, u205, u206, u207, u208, u209, u210, u211, u212, u213, u214, u215, u216, u217, u218, u219, u220, u221, u222, u223, u224, u225, u226, u227, u228, u229, u230, u231, u232, u233, u234, u235, u236, u237, u238, u239, u240, u241, u242, u243, u244, u245, u246, u247, u248, u249, u250, u251, u252, u253, u254, u255, u256, u257, u258, u259, u260, u261, u262, u263, u264, u265, u266, u267, u268, u269, u270, u271, u272, u273, u274, u275, u276], []⟩ wr := by
  conv => arg 2; whnf
  dsimp only
  have hl := hR.len
  have CS : Hid (∀ (w1 : World) (g cc : Nat), RM w1 W H n ks g 0 → GivesMap 62 #[.agg #[.int .i64 W, .int .i64 H, .slice (some ⟨g, 0, none⟩) n cc], .int .i64 3, .int .i64 1] w1 W H n (scaleK 3 1 ks)) := Lib.hid fun w1 g cc h1 =>
    rm_scaled h1 cc 3 1 (by omega) (by omega) (fun j hj => (scaleK_small hl hsz j hj).1)
  have HK := Lib.hid hKp
  have HR := Lib.hid hR
  have HSZ := Lib.hid hsz
  have HT := Lib.hid ht
  obtain ⟨tt, htt⟩ : ∃ tt, ks.sum = tt := ⟨_, rfl⟩
  have HTT := Lib.hid htt
  clear hKp hR hsz ht hl htt
  obtain ⟨m0, m1, m2⟩ := cells3 (HK.out.2 _ (.head _))
  go_upto_region 5 with (first
    | (go_at_call 38; (refine Calls.mono (rm_own (HR.out.kept HK.out.1) c) ?_); rintro e w1 ⟨g1, c1, rfl, hm, hb⟩;
       have K1 := Lib.hid (HK.out.call hb); have M1 := Lib.hid hm; clear hb hm)
    | (go_at_call 39; (refine Calls.mono (rm_total M1.out c1) ?_); rw [HTT.out]; rintro e w2 ⟨rfl, hb⟩;
       have K2 := Lib.hid (K1.out.call hb); clear hb))
  clear m0 m1 m2 K1 M1 HK
  obtain ⟨m0, m1, m2⟩ := cells3 (K2.out.2 _ (.head _))
  go_upto_region 6 with (first
    | (go_at_call 38; (refine Calls.mono (rm_own (HR.out.kept K2.out.1) c) ?_); rintro e w3 ⟨g3, c3, rfl, hm, hb⟩;
       have K3 := Lib.hid (K2.out.call hb); have M3 := Lib.hid hm; clear hb hm)
    | (go_at_call 64; (refine Calls.mono (rm_binned1 M3.out c3) ?_); rintro e w4 ⟨g4, rfl, hm, hb⟩;
       have K4 := Lib.hid (K3.out.call hb); have D4 := Lib.hid hm; clear hb hm))
  clear m0 m1 m2 K3 M3 K2
  refine wp_world (fun w' => Kp w w' [(w4.heap.size, .cells #[.int .i64 W, .int .i64 H, .slice (some ⟨g4, 0, none⟩) n n] 54 (0, 0)), (w.heap.size, (.cells #[.int .i64 W, .int .i64 H, .slice (some ⟨b, o, none⟩) n c] 48 (0, 0)))] ∧ Below w4.heap.size w4 w') (by first | exact ⟨K4.out.alloc _, (Below.refl _ _).alloc (Nat.le_refl _) _⟩ | exact ⟨kp_set3 K4.out _ _ _, below_new3 _ _ _⟩) fun w5 k5 => ?_
  have K5 := Lib.hid k5.1
  have D5 := Lib.hid (D4.out.kept k5.2)
  obtain ⟨B9, hB9⟩ : ∃ B9, w4.heap.size = B9 := ⟨_, rfl⟩
  rw [hB9] at K5 ⊢
  clear k5 K4 D4 hB9
  obtain ⟨m0, m1, m2⟩ := cells3 (K5.out.2 _ (.tail _ (.head _)))
  go_upto_region 7 with (first
    | (go_at_call 38; (refine Calls.mono (rm_own (HR.out.kept K5.out.1) c) ?_); rintro e w6 ⟨g6, c6, rfl, hm, hb⟩;
       have K6 := Lib.hid (K5.out.call hb); have D6 := Lib.hid (D5.out.kept hb); have M6 := Lib.hid hm; clear hb hm)
    | (go_at_call 62; (refine Calls.mono (CS.out _ _ _ M6.out) ?_); rintro e w7 ⟨g7, rfl, hm, hb⟩;
       have K7 := Lib.hid (K6.out.call hb); have D7 := Lib.hid (D6.out.kept hb); have U7 := Lib.hid hm; clear hb hm))
  clear m0 m1 m2 K6 D6 M6 K5 D5
  refine wp_world (fun w' => Kp w w' [(w7.heap.size, .cells #[.int .i64 W, .int .i64 H, .slice (some ⟨g7, 0, none⟩) n n] 54 (0, 0)), (B9, .cells #[.int .i64 W, .int .i64 H, .slice (some ⟨g4, 0, none⟩) n n] 54 (0, 0)), (w.heap.size, (.cells #[.int .i64 W, .int .i64 H, .slice (some ⟨b, o, none⟩) n c] 48 (0, 0)))] ∧ Below w7.heap.size w7 w') (by first | exact ⟨K7.out.alloc _, (Below.refl _ _).alloc (Nat.le_refl _) _⟩ | exact ⟨kp_set3 K7.out _ _ _, below_new3 _ _ _⟩) fun wx kx => ?_
  have KX := Lib.hid kx.1
  have DX := Lib.hid (D7.out.kept kx.2)
  have UX := Lib.hid (U7.out.kept kx.2)
  obtain ⟨B11, hB11⟩ : ∃ B11, w7.heap.size = B11 := ⟨_, rfl⟩
  rw [hB11] at KX ⊢
  clear kx K7 D7 U7 hB11
  obtain ⟨x0, x1, x2⟩ := cells3 (KX.out.2 _ (.head _))
  obtain ⟨y0, y1, y2⟩ := cells3 (KX.out.2 _ (.tail _ (.head _)))
  obtain ⟨m0, m1, m2⟩ := cells3 (KX.out.2 _ (.tail _ (.tail _ (.head _))))
  have lx := lt_of_blk (KX.out.2 _ (.head _))
  have ly := lt_of_blk (KX.out.2 _ (.tail _ (.head _)))
  have lm := lt_of_blk (KX.out.2 _ (.tail _ (.tail _ (.head _))))
  have hB' : Blw wx.heap.size wx wx := show Below _ _ _ from Below.refl _ _
  have hB'' : Blw wx.heap.size wx wx.drew := show Below _ _ _ from (Below.refl wx.heap.size wx).drew
  have KT : Hid (∀ (w1 : World) (g cc : Nat), Blw wx.heap.size wx w1 → Calls Tryz.prog 97 #[.agg #[.int .i64 W, .int .i64 H, .slice (some ⟨g, 0, none⟩) n cc]] w1 fun e w' => e = .returned (.agg #[.int .i64 W, .int .i64 H, .slice (some ⟨g, 0, none⟩) n cc]) ∧ Blw wx.heap.size wx w') := Lib.hid fun w1 g cc h =>
    (told_any _ _ _ _ _ w1).mono fun e w' ⟨h1, h2⟩ => ⟨h1, Below.trans h (h2.mono (Below.size h))⟩
  have KE : Hid (∀ w1 : World, Blw wx.heap.size wx w1 → Calls Tryz.prog 98 #[.agg #[.int .i64 W, .int .i64 H, .slice (some ⟨g4, 0, none⟩) n n], .agg #[.int .i64 W, .int .i64 H, .slice (some ⟨b, o, none⟩) n c]] w1 fun e w' => e = .returned (.bool true) ∧ Blw wx.heap.size wx w') := Lib.hid fun w1 h =>
    (rm_same (DX.out.kept h) (HR.out.kept (KX.out.1.trans (Below.mono h KX.out.1.size))) n c).mono fun e w' ⟨h1, h2⟩ => ⟨h1, Below.trans h (h2.mono (Below.size h))⟩
  have KC : Hid (∀ w1 : World, Blw wx.heap.size wx w1 → Calls Tryz.prog 41 #[.agg #[.int .i64 W, .int .i64 H, .slice (some ⟨g7, 0, none⟩) n n]] w1 fun e w' => e = .returned (.int .i64 0) ∧ Blw wx.heap.size wx w') := Lib.hid fun w1 h =>
    (rm_check (UX.out.kept h) n).mono fun e w' ⟨h1, h2⟩ => ⟨h1, Below.trans h (h2.mono (Below.size h))⟩
  go_region_held3 (fun w' => w'.cell? ⟨B11, 0, none⟩ = some (.int .i64 W) ∧ w'.cell? ⟨B11, 1, none⟩ = some (.int .i64 H) ∧ w'.cell? ⟨B11, 2, none⟩ = some (.slice (some ⟨g7, 0, none⟩) n n) ∧ w'.cell? ⟨B9, 0, none⟩ = some (.int .i64 W) ∧ w'.cell? ⟨B9, 1, none⟩ = some (.int .i64 H) ∧ w'.cell? ⟨B9, 2, none⟩ = some (.slice (some ⟨g4, 0, none⟩) n n) ∧ w'.cell? ⟨w.heap.size, 0, none⟩ = some (.int .i64 W) ∧ w'.cell? ⟨w.heap.size, 1, none⟩ = some (.int .i64 H) ∧ w'.cell? ⟨w.heap.size, 2, none⟩ = some (.slice (some ⟨b, o, none⟩) n c) ∧ Blw wx.heap.size wx w')
    (first
        | (go_split_ands; refine ⟨?_, ?_, ?_, ?_, ?_, ?_, ?_, ?_, ?_, ?_⟩ <;> with_reducible assumption)
        | (go_split_ands; refine ⟨?_, ?_, ?_, ?_, ?_, ?_, ?_, ?_, ?_, ?_⟩ <;> first | (with_reducible assumption) | (rw [Below.cell (w := wx) (by assumption : Blw wx.heap.size wx _) (by assumption)]; assumption))
        | (go_keep; done))
    (first
      | (go_at_call 97; with_reducible refine (KT.out _ _ _ (by assumption)).mono ?_; rintro e w10 ⟨rfl, hb10⟩)
      | (go_at_call 98; with_reducible refine (KE.out _ (by assumption)).mono ?_; rintro e w11 ⟨rfl, hb11⟩)
      | (go_at_call 41; with_reducible refine (KC.out _ (by assumption)).mono ?_; rintro e w12 ⟨rfl, hb12⟩))
  all_goals
    have F : Hid (Kp w w12 [(B11, (.cells #[.int .i64 W, .int .i64 H, .slice (some ⟨g7, 0, none⟩) n n] 54 (0, 0))), (w.heap.size, (.cells #[.int .i64 W, .int .i64 H, .slice (some ⟨b, o, none⟩) n c] 48 (0, 0)))]) := Lib.hid ((KX.out.call hb12).subs fun p hp => by
      rcases List.mem_cons.1 hp with rfl | hp
      · exact .head _
      · exact .tail _ (.tail _ hp))
    have FU := Lib.hid (UX.out.kept hb12)
    clear x0 x1 x2 y0 y1 y2 m0 m1 m2 KX DX UX KT KE KC
    go_upto_if 84 with fail
    go_cut [] (fun wc => Kp w wc [(B11, (.cells #[.int .i64 W, .int .i64 H, .slice (some ⟨g7, 0, none⟩) n n] 54 (0, 0))), (w.heap.size, (.cells #[.int .i64 W, .int .i64 H, .slice (some ⟨b, o, none⟩) n c] 48 (0, 0)))] ∧ RM wc W H n (scaleK 3 1 ks) g7 0)
    case first =>
      go_wp2_with fail
      go_meet
      exact ⟨F.out, FU.out⟩
    case rest =>
      have K8 := Lib.hid hcut.1
      have U8 := Lib.hid hcut.2
      clear hcut F FU
      first
        | (rename_i hK h1; refine hK _ _ ?_; clear hK)
        | (rename_i hK h1 h2; refine hK _ _ ?_; clear hK)
        | (rename_i hK h1 h2 h3; refine hK _ _ ?_; clear hK)
        | (rename_i hK h1 h2 h3 h4; refine hK _ _ ?_; clear hK)
        | (rename_i hK h1 h2 h3 h4 h5; refine hK _ _ ?_; clear hK)
        | (rename_i hK h1 h2 h3 h4 h5 h6; refine hK _ _ ?_; clear hK)
      exact bins9 w W H b o n c ks HR.out HSZ.out h160 hcap n0 n1 A Bc hA hB tt HTT.out B11 g7 n _ HT.out _ _ _ _ _ _ _ _ _ _ _ _ _ _ _ _ _ _ _ _ _ _ _ _ _ _ _ _ _ _ _ _ _ _ _ _ _ _ _ _ _ _ _ _ _ _ _ _ _ _ _ _ _ _ _ _ _ _ _ _ _ _ _ _ _ _ _ _ _ _ _ _ _ _ _ _ _ _ _ _ _ _ _ _ _ _ _ _ _ _ _ _ _ _ _ _ _ _ _ _ _ _ _ _ _ _ _ _ _ _ _ _ _ _ _ _ _ _ _ _ _ _ _ _ _ _ _ _ _ _ _ _ _ _ _ _ _ _ _ _ _ _ _ _ _ _ _ _ _ _ _ _ _ _ _ _ _ _ _ _ _ _ _ _ _ _ _ _ _ _ _ _ _ _ _ _ _ _ _ _ _ _ _ _ _ _ _ _ _ _ _ _ _ _ _ _ _ _ _ _ _ _ _ _ _ _ _ _ _ _ _ _ _ _ _ _ _ _ _ _ _ _ _ _ _ _ _ _ _ _ _ _ _ _ _ _ _ _ _ _ _ _ _ _ _ _ _ _ _ _ _ _ _ _ _ _ _ _ _ _ _ _ _ _ _ _ _ _ _ K8.out U8.out
end Go.Proofs.YtfdkmmllemkogaaGreatDoor

/-
  Contract of the reference's Pack for a right map: the bytes of its stream.
-/
namespace Go.Proofs.YtfdkmmllemkogaaGreatDoor
open Go.RowKit
set_option linter.unusedVariables false
set_option linter.unusedSimpArgs false

theorem row_cells {w : World} {B : Nat} {T : TypeId} {x y z : Value} (h : w.heap[B]? = some (.cells #[x, y, z] T (0, 0))) :
    w.cell? ⟨B, 0, none⟩ = some x ∧ w.cell? ⟨B, 1, none⟩ = some y ∧ w.cell? ⟨B, 2, none⟩ = some z :=
  ⟨by rw [cell_of_row w _ 0 _ _ (0, 0) h]; rfl, by rw [cell_of_row w _ 1 _ _ (0, 0) h]; rfl, by rw [cell_of_row w _ 2 _ _ (0, 0) h]; rfl⟩
end Go.Proofs.YtfdkmmllemkogaaGreatDoor

/-
  Contract of small for every map: whether it is right, has at most 160 samples, and none above a bound.
-/

namespace Go.Proofs.YtfdkmmllemkogaaGreatDoor
open Go.RowKit
set_option linter.unusedVariables false
set_option linter.unusedSimpArgs false

theorem order_lt {x y : Nat} {k l : Int} (hx : Smp x k) (hy : Smp y l) : (FloatKind.f32.format.order x y == some .lt) = decide (k < l) := by
  have e : Ieee.single.order x y = some (compare k l) := hx.order hy
  show (Ieee.single.order x y == some .lt) = decide (k < l)
  rw [e]
  have h : (compare k l = .lt) ↔ k < l := by
    show compareOfLessAndEq k l = .lt ↔ _
    unfold compareOfLessAndEq
    split
    · simp_all
    · split <;> simp_all
  by_cases hk : k < l
  · rw [decide_eq_true hk, h.2 hk]; rfl
  · rw [decide_eq_false hk]
    cases h2 : compare k l
    · exact absurd (h.1 h2) hk
    · rfl
    · rfl

theorem ret_boolK {a b : Bool} (h : a = b) : Ending.returned (.bool a) = .returned (.bool b) := by rw [h]
def smallB (W H : Int) (n : Nat) (xs : List Nat) (M : Nat) : Bool := decide (mapErr W H n xs = 0 ∧ n ≤ 160 ∧ ∀ j, j < n → (kOf (xs[j]?.getD 0)).natAbs ≤ M)

set_option maxRecDepth 100000 in
set_option maxHeartbeats 3200000 in
theorem small_all (mw mn M : Nat) (hp : Smp mw M) (hm : Smp mn (-(M : Int))) (hneg : ∀ w : World, (Op.unary .neg (.float .f32 mw)).run Tryz.prog w = .ok (.float .f32 mn) w)
    (W H : Int) (a : Option Addr) (n c : Nat) (xs : List Nat) (w : World) (hM : AnyMap w a n c xs) :
    Calls Tryz.prog 96 #[.agg #[.int .i64 W, .int .i64 H, .slice a n c], .float .f32 mw] w fun e w' => e = .returned (.bool (smallB W H n xs M)) ∧ Below w.heap.size w w' := by
  obtain ⟨W0, hW0⟩ : ∃ W0, w.alloc (.cells #[.int .i64 W, .int .i64 H, .slice a n c] 48) = W0 := ⟨_, rfl⟩
  have hB0 : Below w.heap.size w W0 := by rw [← hW0]; exact (Below.refl _ w).alloc (Nat.le_refl _) _
  have r0 : W0.heap[w.heap.size]? = some (.cells #[.int .i64 W, .int .i64 H, .slice a n c] 48 (0, 0)) := by rw [← hW0]; exact blk_alloc_new _ _
  obtain ⟨z0, z1, z2⟩ := row_cells r0
  obtain ⟨er, her⟩ : ∃ er, mapErr W H n xs = er := ⟨_, rfl⟩
  have K0 := refCheckMap_map W H a n c xs W0 (hM.below hB0 (Nat.le_refl _))
  rw [her] at K0
  have K := Lib.hid K0
  have HB0 := Lib.hid hB0
  have HR0 := Lib.hid r0
  have HM := Lib.hid hM
  have HER := Lib.hid her
  have HP := Lib.hid hp
  have HN := Lib.hid hm
  clear hB0 r0 hM K0 her hp hm
  by_cases h0 : er = 0
  · have e0 : (er != 0) = false := by simp [h0]
    by_cases h1 : n ≤ 160
    · have i1 : ¬ ((160 : Int) < (n : Int)) := by omega
      have H0 := Lib.hid h0
      clear h0
      go_enter Tryz.func96, Tryz.ntmps96
      go_upto_region 1 with fail
      try rw [hW0]
      clear hW0
      go_upto_if 15 with (go_at_call 41; with_reducible refine K.out.mono ?_; rintro e w1 ⟨rfl, hb1⟩; have r1 := (hb1.block _ (lt_of_blk HR0.out)).trans HR0.out; have hb1' := HB0.out.trans (hb1.mono HB0.out.size); obtain ⟨y0, y1, y2⟩ := row_cells r1)
      have HB1 := Lib.hid hb1'
      have HR1 := Lib.hid r1
      clear hb1 hb1' r1 z0 z1 z2
      go_wp2_with fail
      go_loop [19] (fun i => ∃ k : Nat, k ≤ n ∧ i = .int .i64 k ∧ Hid (∀ j, j < k → (kOf (xs[j]?.getD 0)).natAbs ≤ M)) (fun i => n - (intOf i).toNat)
      case atStart => exact ⟨0, Nat.zero_le _, rfl, Lib.hid fun j hj => absurd hj (by omega)⟩
      case round =>
        obtain ⟨k, hk, rfl, hh⟩ := hrel
        by_cases hlt : k < n
        · obtain ⟨b, o, rfl, hb, hcc⟩ := HM.out.cells k hlt
          have hcell : w1.cell? ⟨b, o + k, none⟩ = some (.float .f32 (xs[k]?.getD 0)) := (HB1.out.cell (by exact hb)).trans (hcc k hlt)
          have hs := (smp_kOf (mapErr_smps HM.out.len (HER.out.trans H0.out) k hlt)).1
          have t1 := order_gt hs HP.out
          have t2 := order_lt hs HN.out
          obtain ⟨x, hx⟩ : ∃ x, xs[k]?.getD 0 = x := ⟨_, rfl⟩
          have HX := Lib.hid hx
          rw [hx] at hcell t1 t2
          have t1' : (FloatKind.f32.format.order x mw == some .gt) = decide ((M : Int) < kOf x) := t1
          clear t1 hs hcc hx
          by_cases hbad : (kOf x).natAbs ≤ M
          · have u1 : (FloatKind.f32.format.order x mw == some .gt) = false := by rw [t1']; simp; omega
            have u2 : (FloatKind.f32.format.order x mn == some .lt) = false := by rw [t2]; simp; omega
            have HBAD := Lib.hid hbad
            clear t1' t2 hbad
            go_wp2_with fail
            go_round
            case rel => exact ⟨k + 1, by omega, by go_num, Lib.hid fun j hj => by
              by_cases hjk : j < k
              · exact hh.out j hjk
              · obtain rfl : j = k := by omega
                rw [HX.out]; exact HBAD.out⟩
            case measure => simp [intOf]; omega
          · have hfalse : smallB W H n xs M = false := decide_eq_false fun h => hbad (by rw [← HX.out]; exact h.2.2 k hlt)
            have HF := Lib.hid hfalse
            by_cases hg : (M : Int) < kOf x
            · have u1 : (FloatKind.f32.format.order x mw == some .gt) = true := by rw [t1']; simp; omega
              clear t1' t2 hbad hfalse hg
              go_wp2_with fail
              go_ret
              exact ⟨ret_boolK HF.out.symm, HB1.out⟩
            · have u1 : (FloatKind.f32.format.order x mw == some .gt) = false := by rw [t1']; simp; omega
              have u2 : (FloatKind.f32.format.order x mn == some .lt) = true := by rw [t2]; simp; omega
              clear t1' t2 hbad hfalse hg
              go_wp2_with fail
              go_ret
              exact ⟨ret_boolK HF.out.symm, HB1.out⟩
        · obtain rfl : k = n := by omega
          have htrue : smallB W H k xs M = true := decide_eq_true ⟨HER.out.trans H0.out, h1, hh.out⟩
          have HT := Lib.hid htrue
          clear htrue
          go_wp2_with fail
          go_ret
          exact ⟨ret_boolK HT.out.symm, HB1.out⟩
    · have i1 : (160 : Int) < (n : Int) := by omega
      have hfalse : smallB W H n xs M = false := decide_eq_false fun h => h1 h.2.1
      have HF := Lib.hid hfalse
      clear h0 hfalse h1
      go_enter Tryz.func96, Tryz.ntmps96
      go_upto_region 1 with fail
      try rw [hW0]
      clear hW0
      go_wp2_with (go_at_call 41; with_reducible refine K.out.mono ?_; rintro e w1 ⟨rfl, hb1⟩; have r1 := (hb1.block _ (lt_of_blk HR0.out)).trans HR0.out; have HB1 := Lib.hid (HB0.out.trans (hb1.mono HB0.out.size)); obtain ⟨y0, y1, y2⟩ := row_cells r1; clear hb1)
      go_ret
      exact ⟨ret_boolK HF.out.symm, HB1.out⟩
  · have e0 : (er != 0) = true := by simp [h0]
    have hfalse : smallB W H n xs M = false := decide_eq_false fun h => h0 (HER.out.symm.trans h.1)
    have HF := Lib.hid hfalse
    clear h0 hfalse
    go_enter Tryz.func96, Tryz.ntmps96
    go_upto_region 1 with fail
    try rw [hW0]
    clear hW0
    go_wp2_with (go_at_call 41; with_reducible refine K.out.mono ?_; rintro e w1 ⟨rfl, hb1⟩; have HB1 := Lib.hid (HB0.out.trans (hb1.mono HB0.out.size)); clear hb1)
    go_ret
    exact ⟨ret_boolK HF.out.symm, HB1.out⟩

end Go.Proofs.YtfdkmmllemkogaaGreatDoor

/-
  Arguments that are arrays of integers or of spans, opened.
-/
namespace Go.Proofs.YtfdkmmllemkogaaGreatDoor
open Go.ChangeShapes Go.WideShapes Go.ChangeAt Go.RowKit Go.Joins Go.Deep
set_option linter.unusedVariables false
set_option maxRecDepth 100000

theorem okWide_arr {P : Program} {w : World} {r : Reach} {base : Nat} {t n e : Nat} {v : Value} (ht : P.underlying t = some (.array n e)) (h : Value.okWide P w r base t v) : ∃ cs, v = .agg cs ∧ cs.size = P.cellsOf t := by
  simp only [Value.okWide, ht] at h
  obtain ⟨cs, h1, h2, _⟩ := h
  exact ⟨cs, h1, h2⟩

end Go.Proofs.YtfdkmmllemkogaaGreatDoor

/-
  Arguments that are arrays of bytes, opened.
-/

namespace Go.Proofs.YtfdkmmllemkogaaGreatDoor
open Go.ChangeShapes Go.WideShapes Go.ChangeAt Go.RowKit Go.Joins Go.Deep
set_option linter.unusedVariables false
set_option linter.unusedSimpArgs false
set_option maxRecDepth 100000

theorem openByteArr {H : Type} {enc : TypeId × Value → H} {W : World} {b0 : Nat} {t n e : Nat} {v : Value} {d : DataW H} {p : List MemPlace} (ht : Tryz.prog.underlying t = some (.array n e)) (he : Tryz.prog.underlying e = some (.int .u8)) (hc : Tryz.prog.cellsOf t = n) (hce : Tryz.prog.cellsOf e = 1)
    (hv : Value.okWide Tryz.prog W .any b0 t v) (h : DataW.Trod enc Tryz.prog W 0 (fun _ => true) true t v d p) : ∃ l : List Int, l.length = n ∧ (∀ z ∈ l, 0 ≤ z ∧ z ≤ 255) ∧ v = .agg (l.map (Value.int .u8)).toArray := by
  obtain ⟨cs, rfl, hsz⟩ := okWide_arr ht hv
  obtain ⟨fuel, hf⟩ := h
  obtain ⟨xs, m, _, _, _, hl, hi⟩ := DataW.trod_array ht hf
  have e1' : IntKind.u8.min = 0 := by rfl
  have e2' : IntKind.u8.max = 255 := by rfl
  have key : ∀ i, i < n → ∃ z : Int, cs.toList[i]? = some (.int .u8 z) ∧ 0 ≤ z ∧ z ≤ 255 := by
    intro i hlt
    have h := hi i hlt
    rw [hce, Nat.mul_one] at h
    simp only [Value.cells] at h
    obtain ⟨y, hy⟩ : ∃ y, xs[i]? = some y := ⟨_, List.getElem?_eq_getElem (by omega)⟩
    rw [hy] at h
    have hli : i < cs.toList.length := by rw [Array.length_toList]; omega
    have e1 : (cs.toList.drop i).take 1 = [cs.toList[i]] := by
      rw [List.drop_eq_getElem_cons hli]; rfl
    rw [e1] at h
    obtain ⟨X, e0, _, hw⟩ := DataW.trod_int he h
    simp only [List.cons.injEq, and_true] at e0
    simp only [Lit.wf, Bool.and_eq_true, decide_eq_true_eq, e1', e2'] at hw
    exact ⟨X, by rw [List.getElem?_eq_getElem hli, e0], hw.1, hw.2⟩
  refine ⟨(List.range n).map (fun i => match cs.toList[i]? with | some (Value.int _ z) => z | _ => (0 : Int)), by simp, ?_, ?_⟩
  · intro z hz
    obtain ⟨i, hi', rfl⟩ := List.mem_map.1 hz
    obtain ⟨y, hy, h1, h2⟩ := key i (List.mem_range.1 hi')
    rw [hy]
    exact ⟨h1, h2⟩
  · congr 1
    apply Array.ext'
    refine List.ext_getElem? fun i => ?_
    simp only [List.map_map, List.getElem?_map]
    by_cases hi' : i < n
    · obtain ⟨z, hz, _, _⟩ := key i hi'
      rw [hz, List.getElem?_range hi']
      have hz2 : cs[i]? = some (.int .u8 z) := by simpa using hz
      simp [hz2]
    · have h1 : cs.toList[i]? = none := by rw [List.getElem?_eq_none]; rw [Array.length_toList]; omega
      have h2 : (List.range n)[i]? = none := by rw [List.getElem?_eq_none]; simp; omega
      rw [h1, h2]; rfl
theorem openBytes2 {H : Type} {enc : TypeId × Value → H} {W : World} {b0 : Nat} {v : Value} {d : DataW H} {p : List MemPlace}
    (hv : Value.okWide Tryz.prog W .any b0 150 v) (h : DataW.Trod enc Tryz.prog W 0 (fun _ => true) true 150 v d p) :
    ∃ x y : Int, v = .agg #[.int .u8 x, .int .u8 y] ∧ (0 ≤ x ∧ x ≤ 255) ∧ (0 ≤ y ∧ y ≤ 255) := by
  obtain ⟨l, hl, hb, rfl⟩ := openByteArr Tryz.underlying150 Tryz.underlying5 (by kernel_rfl) (by kernel_rfl) hv h
  match l, hl with
  | [x, y], _ => exact ⟨x, y, rfl, hb x (by simp), hb y (by simp)⟩
end Go.Proofs.YtfdkmmllemkogaaGreatDoor

/-
  LightBins returns true for all arguments.
-/

namespace Go.Proofs.YtfdkmmllemkogaaGreatDoor
open Go.ChangeShapes Go.WideShapes Go.ChangeAt Go.RowKit Go.Joins Go.Deep Go.Shelf
set_option linter.unusedVariables false
set_option linter.unusedSimpArgs false
set_option maxRecDepth 100000

set_option maxRecDepth 1000000 in
set_option maxHeartbeats 25600000 in
theorem bins_walk (w : World) (W H b o n c : Nat) (ks : List Int) (hR : RM w W H n ks b o) (hsz : ∀ j, j < n → (ks[j]?.getD 0).natAbs ≤ 96) (h160 : n ≤ 160) (hcap : n ≤ c) (n0 n1 : Int) (hn0 : 0 ≤ n0 ∧ n0 ≤ 255) (hn1 : 0 ≤ n1 ∧ n1 ≤ 255)
    (hsm : ∀ w1 : World, Below w.heap.size w w1 → Calls Tryz.prog 96 #[.agg #[.int .i64 W, .int .i64 H, .slice (some ⟨b, o, none⟩) n c], .float .f32 1086324736] w1 fun e w' => e = .returned (.bool true) ∧ Below w1.heap.size w1 w') (ht : TabAt w) :
    Calls Tryz.prog 15 #[.agg #[.int .i64 W, .int .i64 H, .slice (some ⟨b, o, none⟩) n c], .agg #[.int .u8 n0, .int .u8 n1]] w (TruePost w) := by
  have KS := Lib.hid hsm
  have HT := Lib.hid ht
  have HR := Lib.hid hR
  have HSZ := Lib.hid hsz
  obtain ⟨a0, ha0⟩ : ∃ a0, n0.toNat % 4 = a0 := ⟨_, rfl⟩
  obtain ⟨a1, ha1⟩ : ∃ a1, n1.toNat % 4 = a1 := ⟨_, rfl⟩
  have ea0 : n0.tmod 4 = (a0 : Int) := by
    rw [Int.tmod_eq_emod_of_nonneg hn0.1, ← ha0]; omega
  have ea1 : n1.tmod 4 = (a1 : Int) := by
    rw [Int.tmod_eq_emod_of_nonneg hn1.1, ← ha1]; omega
  obtain ⟨A, hA⟩ : ∃ A, 1 + a0 = A := ⟨_, rfl⟩
  obtain ⟨Bc, hB⟩ : ∃ Bc, 1 + a1 = Bc := ⟨_, rfl⟩
  have eA : IntKind.i64.wrap (1 + (a0 : Int)) = (A : Int) := by rw [show 1 + (a0 : Int) = (A : Int) by omega]; exact IntWalk.i64_in _ ⟨by omega, by omega⟩
  have eB : IntKind.i64.wrap (1 + (a1 : Int)) = (Bc : Int) := by rw [show 1 + (a1 : Int) = (Bc : Int) by omega]; exact IntWalk.i64_in _ ⟨by omega, by omega⟩
  have wn0 : IntKind.i64.wrap n0 = n0 := IntWalk.i64_in _ ⟨by omega, by omega⟩
  have wn1 : IntKind.i64.wrap n1 = n1 := IntWalk.i64_in _ ⟨by omega, by omega⟩
  have wa0 : IntKind.i64.wrap (a0 : Int) = (a0 : Int) := IntWalk.i64_in _ ⟨by omega, by omega⟩
  have wa1 : IntKind.i64.wrap (a1 : Int) = (a1 : Int) := IntWalk.i64_in _ ⟨by omega, by omega⟩
  have hA4 : 1 ≤ A ∧ A ≤ 4 := by omega
  have hB4 : 1 ≤ Bc ∧ Bc ≤ 4 := by omega
  obtain ⟨W0, hW0⟩ : ∃ W0, (w.alloc (.cells #[.int .i64 W, .int .i64 H, .slice (some ⟨b, o, none⟩) n c] 48)).alloc (.cells #[.int .u8 n0, .int .u8 n1] 150) = W0 := ⟨_, rfl⟩
  have K0 : Kp w W0 [(w.heap.size + 1, (.cells #[.int .u8 n0, .int .u8 n1] 150 (0, 0))), (w.heap.size, (.cells #[.int .i64 W, .int .i64 H, .slice (some ⟨b, o, none⟩) n c] 48 (0, 0)))] := by
    rw [← hW0]
    have k := ((Kp.none w).alloc (.cells #[.int .i64 W, .int .i64 H, .slice (some ⟨b, o, none⟩) n c] 48)).alloc (.cells #[.int .u8 n0, .int .u8 n1] 150)
    simpa using k
  have HK0 := Lib.hid K0
  obtain ⟨z0, z1, z2⟩ := cells3 (HK0.out.2 _ (.tail _ (.head _)))
  clear hsm K0 ha0 ha1 hA hB ht hR hsz
  go_enter Tryz.func15, Tryz.ntmps15
  go_upto_region 1 with fail
  try rw [hW0]
  clear hW0
  go_upto_region 3 with (first
    | (go_at_call 96; with_reducible refine (KS.out _ (Kp.below HK0.out)).mono ?_; rintro e w1 ⟨rfl, hb1⟩;
       have K1 := Lib.hid (HK0.out.call hb1); clear hb1))
  clear z0 z1 z2
  obtain ⟨c0, c1⟩ := cells2 (K1.out.2 _ (.head _))
  go_cut [5, 6] (fun s5 s6 wc => s5 = .int .i64 (A : Nat) ∧ s6 = .int .i64 (Bc : Nat) ∧ Kp w wc [(w.heap.size, (.cells #[.int .i64 W, .int .i64 H, .slice (some ⟨b, o, none⟩) n c] 48 (0, 0)))])
  case first =>
    have F : Hid (Kp w w1.drew [(w.heap.size, (.cells #[.int .i64 W, .int .i64 H, .slice (some ⟨b, o, none⟩) n c] 48 (0, 0)))]) := Lib.hid (Kp.drew (K1.out.subs fun p hp => .tail _ hp))
    go_region_held3 (fun w' => w'.cell? ⟨w.heap.size + 1, 0, none⟩ = some (.int .u8 n0) ∧ w'.cell? ⟨w.heap.size + 1, 1, none⟩ = some (.int .u8 n1))
      (first | (go_keep; done) | (go_split_ands; refine ⟨?_, ?_⟩ <;> (simp [go_sem, *]; done)))
      (fail)
    all_goals go_wp2_with fail
    all_goals go_meet
    all_goals exact ⟨rfl, rfl, F.out⟩
  case rest =>
    rename_i hK
    obtain ⟨rfl, rfl, hk⟩ := hcut
    have K8 := Lib.hid hk
    clear hk K1 HK0 KS c0 c1
    refine hK _ _ ?_
    clear hK
    exact bins4 w W H b o n c ks HR.out HSZ.out h160 hcap n0 n1 A Bc hA4 hB4 _ HT.out _ _ _ _ _ _ _ _ _ _ _ _ _ _ _ _ _ _ _ _ _ _ _ _ _ _ _ _ _ _ _ _ _ _ _ _ _ _ _ _ _ _ _ _ _ _ _ _ _ _ _ _ _ _ _ _ _ _ _ _ _ _ _ _ _ _ _ _ _ _ _ _ _ _ _ _ _ _ _ _ _ _ _ _ _ _ _ _ _ _ _ _ _ _ _ _ _ _ _ _ _ _ _ _ _ _ _ _ _ _ _ _ _ _ _ _ _ _ _ _ _ _ _ _ _ _ _ _ _ _ _ _ _ _ _ _ _ _ _ _ _ _ _ _ _ _ _ _ _ _ _ _ _ _ _ _ _ _ _ _ _ _ _ _ _ _ _ _ _ _ _ _ _ _ _ _ _ _ _ _ _ _ _ _ _ _ _ _ _ _ _ _ _ _ _ _ _ _ _ _ _ _ _ _ _ _ _ _ _ _ _ _ _ _ _ _ _ _ _ _ _ _ _ _ _ _ _ _ _ _ _ _ _ _ _ _ _ _ _ _ _ _ _ _ _ _ _ _ _ _ _ _ _ _ _ _ _ _ _ _ _ _ _ _ _ _ _ _ _ _ _ K8.out

theorem smp6 : Smp 1086324736 ((96 : Nat) : Int) := by
  rw [show (1086324736 : Nat) = smpOf ((96 : Nat) : Int) from by decide +kernel]; exact smpOf_smp _ (by decide)
theorem smpN6 : Smp 3233808384 (-((96 : Nat) : Int)) := by
  rw [show (3233808384 : Nat) = smpOf (-((96 : Nat) : Int)) from by decide +kernel]; exact smpOf_smp _ (by decide)
theorem neg6 : ∀ w : World, (Op.unary .neg (.float .f32 1086324736)).run Tryz.prog w = .ok (.float .f32 3233808384) w := fun w => by kernel_rfl

/-- A map that comes in, opened: whatever its length; its capacity is not below it. -/
theorem openMapC {H : Type} {enc : TypeId × Value → H} {W : World} {b0 : Nat} {v : Value} {d : DataW H} {p : List MemPlace}
    (hv : Value.okWide Tryz.prog W .any b0 48 v) (h : DataW.Trod enc Tryz.prog W 0 (fun _ => true) true 48 v d p) :
    ∃ (X Y : Int) (a : Option Addr) (n c : Nat) (xs : List Nat), v = .agg #[.int .i64 X, .int .i64 Y, .slice a n c] ∧ n ≤ c ∧ AnyMap W a n c xs := by
  obtain ⟨X, Y, a, n, c, xs, rfl, hM⟩ := openMap hv h
  obtain ⟨c0, c1, c2, y0, y1, y2, k, e0, rfl, rfl, h0, h1, h2⟩ := open_agg3 Tryz.underlying48 (by kernel_rfl) cellsMap hv h
  simp at e0
  obtain ⟨rfl, rfl, rfl⟩ := e0
  refine ⟨X, Y, a, n, c, xs, rfl, ?_, hM⟩
  rcases open_slice1 Tryz.underlying46 cellsF h2 with ⟨hcs, rfl⟩ | ⟨a', n', c', m, f, V, D, Pl, hcs, _, hl, hm, hmm, rfl, hx⟩
  · simp at hcs
    obtain ⟨rfl, rfl, rfl⟩ := hcs
    exact Nat.le_refl _
  · simp at hcs
    obtain ⟨rfl, rfl, rfl⟩ := hcs
    exact hl

set_option maxHeartbeats 3200000 in
theorem bins_all (w : World) (W H : Int) (a : Option Addr) (n c : Nat) (xs : List Nat) (n0 n1 : Int) (hn0 : 0 ≤ n0 ∧ n0 ≤ 255) (hn1 : 0 ≤ n1 ∧ n1 ≤ 255) (ht : TabAt w) (hcap : n ≤ c) (hM : AnyMap w a n c xs) :
    Calls Tryz.prog 15 #[.agg #[.int .i64 W, .int .i64 H, .slice a n c], .agg #[.int .u8 n0, .int .u8 n1]] w (TruePost w) := by
  have KS : ∀ w1 : World, Below w.heap.size w w1 → Calls Tryz.prog 96 #[.agg #[.int .i64 W, .int .i64 H, .slice a n c], .float .f32 1086324736] w1 fun e w' => e = .returned (.bool (smallB W H n xs 96)) ∧ Below w1.heap.size w1 w' := fun w1 h =>
    small_all 1086324736 3233808384 96 smp6 smpN6 neg6 W H a n c xs w1 (hM.below h (Nat.le_refl _))
  by_cases hb : smallB W H n xs 96 = true
  · rw [hb] at KS
    obtain ⟨h0, h1, h2⟩ := of_decide_eq_true hb
    have hK : ∀ j, j < n → ((xs.map kOf)[j]?.getD 0).natAbs ≤ 96 := fun j hj => by
      rw [List.getElem?_map, List.getElem?_eq_getElem (by have := hM.len; omega)]
      have h := h2 j hj
      rw [List.getElem?_eq_getElem (by have := hM.len; omega)] at h
      exact h
    obtain ⟨Wn, Hn, b, o, rfl, rfl, rfl, hR⟩ := rm_of_any hM h0
    exact bins_walk w Wn Hn b o n c _ hR hK h1 hcap n0 n1 hn0 hn1 KS ht
  · rw [Bool.eq_false_iff.2 hb] at KS
    have KW : Hid (∀ w1 : World, Below w.heap.size w w1 → Calls Tryz.prog 19 #[] w1 fun e w' => e = .returned (.bool true) ∧ Below w.heap.size w w') :=
      Lib.hid fun w1 h => (awake_any w1 (ht.on h)).mono fun e w' ⟨he, hb⟩ => ⟨he, h.trans (hb.mono h.size)⟩
    have HS := Lib.hid KS
    have hB0 : Below w.heap.size w ((w.alloc (.cells #[.int .i64 W, .int .i64 H, .slice a n c] 48)).alloc (.cells #[.int .u8 n0, .int .u8 n1] 150)) := ((Below.refl _ w).alloc (Nat.le_refl _) _).alloc (by simp) _
    have HB0 := Lib.hid hB0
    clear hB0 KS hb hM ht
    go_enter Tryz.func15, Tryz.ntmps15
    go_wp2_with (first
      | (go_at_call 96; refine (HS.out _ HB0.out).mono ?_; rintro e w1 ⟨rfl, hb1⟩; have HB1 := Lib.hid (HB0.out.trans (hb1.mono HB0.out.size)); clear hb1)
      | (go_at_call 19; refine (KW.out _ HB1.out).mono ?_; rintro e w2 ⟨rfl, hb2⟩))
    go_ret
    exact ⟨rfl, hb2⟩
end Go.Proofs.YtfdkmmllemkogaaGreatDoor
