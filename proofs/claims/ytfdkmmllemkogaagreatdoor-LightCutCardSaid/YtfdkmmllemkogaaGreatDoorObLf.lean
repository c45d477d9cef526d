/-
  The walk of LightCut: its end, behind its loops.
-/
import Derived.Test.YtfdkmmllemkogaaGreatDoorObLe
import Derived.Test.YtfdkmmllemkogaaGreatDoorOBd
namespace Go.Proofs.YtfdkmmllemkogaaGreatDoor
open Go.RowKit Go.Shelf
set_option linter.unusedVariables false
set_option linter.unusedSimpArgs false

set_option maxRecDepth 1000000 in
set_option maxHeartbeats 25600000 in
theorem cut41 (w : World) (W H b o n c : Nat) (ks : List Int) (hR : RM w W H n ks b o) (n0 n1 tt pk : Int) (htt : tt = ks.sum) (hpk : pk = ks[pkTo ks n]?.getD 0) (B5 B6 g6 : Nat) (wr : World) (ht : TabAt w) (u4 u9 u10 u11 u12 u13 u14 u15 u16 u17 u18 u19 u20 u21 u22 u23 u24 u25 u26 u27 u28 u29 u30 u31 u32 u33 u34 u35 u36 u37 u38 u39 u40 u41 u42 u43 u44 u45 u46 u47 u48 u49 u50 u51 u52 u53 u54 u55 u56 u57 u58 u59 u60 u61 u62 u63 u64 u65 u66 u67 u68 u69 u70 u71 u72 u73 u74 u75 u76 u77 u78 u79 u80 u81 u82 u83 u84 u85 u86 u87 u88 u89 u90 u91 u92 u93 u94 u95 u96 u97 u98 u99 u100 u101 u102 u103 u104 u105 u106 u107 u108 u109 u110 u111 u112 u113 u114 u115 u116 u117 u118 u119 u120 u121 u122 u123 u124 u125 u126 u127 u128 u129 u130 u131 u132 u133 u134 u135 u136 u137 u138 u139 u140 u141 u142 u143 u144 u145 u146 u147 u148 u149 u150 u151 u152 u153 u154 u155 u156 u157 u158 u159 u160 u161 u162 u163 u164 u165 u166 u167 u168 u169 u170 u171 u172 u173 u174 u175 u176 u177 u178 u179 u180 u181 u182 u183 u184 u185 u186 u187 u188 u189 u190 u191 u192 u193 u194 u195 u196 u197 u198 u199 u200 u201 u202 u203 u204 u205 u206 u207 u208 u209 u210 u211 u212 u213 u214 u215 u216 u217 u218 u219 u220 u221 u222 u223 u224 u225 u226 u227 u228 u229 u230 u231 u232 u233 u234 u235 u236 u237 u238 u239 u240 u241 u242 u243 u244 u245 u246 u247 u248 u249 u250 u251 u252 u253 u254 u255 u256 u257 u258 u259 u260 u261 u262 u263 u264 u265 u266 u267 u268 u269 u270 u271 u272 u273 u274 u275 u276 u277 u278 u279 u280 u281 u282 u283 u284 u285 u286 u287 u288 u289 u290 u291 u292 u293 u294 u295 u296 u297 u298 u299 u300 u301 u302 u303 u304 u305 u306 u307 u308 : Value)
    (hKp : Kp w wr [(B6, (.cells #[.int .i64 W, .int .i64 H, .slice (some ⟨g6, 0, none⟩) n n] 54 (0, 0))), (w.heap.size, (.cells #[.int .i64 W, .int .i64 H, .slice (some ⟨b, o, none⟩) n c] 48 (0, 0)))]) (hRS : RM wr W H n ks g6 0) :
    Code.wp Tryz.prog (cutOf 41) (bodyPost Tryz.prog Tryz.f13 (TruePost w)) ⟨#[.agg #[.int .i64 (W : Nat), .int .i64 (H : Nat), .slice (some ⟨b, o, none⟩) n c], .agg #[.int .u8 n0, .int .u8 n1], .pointer (some ⟨w.heap.size, 0, none⟩), .pointer (some ⟨w.heap.size + 1, 0, none⟩), u4, .pointer (some ⟨B5, 0, none⟩), .pointer (some ⟨B6, 0, none⟩), .int .i64 tt, .float .f32 (smpOf pk), u9, u10, u11, u12, u13, u14, u15, u16, u17, u18, u19, u20, u21, u22, u23, u24, u25, u26, u27, u28, u29, u30, u31, u32, u33, u34, u35, u36, u37, u38, u39, u40, u41, u42, u43, u44, u45, u46, u47, u48, u49, u50, u51, u52, u53, u54, u55, u56, u57, u58, u59, u60, u61, u62, u63, u64, u65, u66, u67, u68, u69, u70, u71, u72, u73, u74, u75, u76, u77, u78, u79, u80, u81, u82, u83, u84, u85, u86, u87, u88, u89, u90, u91, u92, u93, u94, u95, u96, u97, u98, u99, u100, u101, u102, u103, u104, u105, u106, u107, u108, u109, u110, u111, u112, u113, u114, u115, u116, u117, u118, u119, u120, u121, u122, u123, u124, u125, u126, u127, u128, u129, u130, u131, u132, u133, u134, u135, u136, u137, u138, u139, u140, u141, u142, u143, u144, u145, u146, u147, u148, u149, u150, u151, u152, u153, u154, u155, u156, u157, u158, u159, u160, u161, u162, u163, u164, u165, u166, u167, u168, u169, u170, u171, u172, u173, u174, u175, u176, u177, u178, u179, u180, u181, u182, u183, u184, u185, u186, u187, u188, u189, u190, u191, u192, u193, u194, u195, u196, u197, u198, u199, u200, u201, u202, u203, u204, u205, u206, u207, u208, u209, u210, u211, u212, u213, u214, u215, u216, u217, u218, u219, u220, u221, u222, u223, u224, u225, u226, u227, u228, u229, u230, u231, u232, u233, u234, u235, u236, u237, u238, u239, u240, u241, u242, u243, u244, u245, u246, u247, u248, u249, u250, u251, u252, u253, u254, u255, u256, u257, u258, u259, u260, u261, u262, u263, u264, u265, u266, u267, u268, u269, u270, u271, u272, u273, u274, u275, u276, u277, u278, u279, u280, u281, u282, u283, u284, u285, u286, u287, u288, u289, u290, u291, u292, u293, u294, u295, u296, u297, u298, u299, u300, u301, u302, u303, u304, u305, u306, u307, u308], []⟩ wr := by
  conv => arg 2; whnf
  dsimp only
  have HA := Lib.hid (fun (w1 : World) (h : Below w.heap.size w w1) => awake_any w1 (ht.on h))
  have HK := Lib.hid hKp
  have HS := Lib.hid hRS
  have HR := Lib.hid hR
  have hWd := hR.wid
  have hHt := hR.hei
  have hnn := hR.small
  have hAR := hR.area
  have hks := hR.len
  obtain ⟨hb0, xs, hr⟩ := hR
  have hn1 : 1 ≤ n := by rw [← hAR]; exact Nat.mul_pos (by omega) (by omega)
  have hlt := pkTo_lt ks n hn1
  obtain ⟨px, hpx⟩ : ∃ px, pkTo ks n % W = px := ⟨_, rfl⟩
  obtain ⟨py, hpy⟩ : ∃ py, pkTo ks n / W = py := ⟨_, rfl⟩
  obtain ⟨ix, hix⟩ : ∃ ix, pkTo ks n = ix := ⟨_, rfl⟩
  have lpx : px < W := by rw [← hpx]; exact Nat.mod_lt _ (by omega)
  have lpy : py < H := by rw [← hpy]; exact (Nat.div_lt_iff_lt_mul (by omega)).2 (by omega)
  have eix : py * W + px = ix := by rw [← hpx, ← hpy, ← hix, Nat.mul_comm]; exact Nat.div_add_mod _ _
  have hixn : ix < n := by omega
  rw [hix] at hpk
  have hpks : pk.natAbs ≤ 16384 := by rw [hpk]; exact hr.sizes ix hixn
  obtain ⟨xv, hxv⟩ : ∃ xv, xs[ix]?.getD 0 = xv := ⟨_, rfl⟩
  have ho1 : FloatKind.f32.format.order xv (smpOf pk) = some .eq := by
    have h1 := hr.smps ix hixn
    rw [← hpk, hxv] at h1
    exact smp_same h1 (smpOf_smp pk (Nat.lt_of_le_of_lt hpks (by decide)))
  have ho2 : FloatKind.f32.format.order (smpOf pk) (smpOf pk) = some .eq :=
    smp_same (smpOf_smp pk (Nat.lt_of_le_of_lt hpks (by decide))) (smpOf_smp pk (Nat.lt_of_le_of_lt hpks (by decide)))
  obtain ⟨q, hq⟩ : ∃ q, py * W = q := ⟨_, rfl⟩
  have f1 : IntKind.i64.wrap ((py : Int) * (W : Int)) = (q : Int) := by
    have e : (py : Int) * (W : Int) = ((py * W : Nat) : Int) := by push_cast; rfl
    rw [e, hq]
    exact IntWalk.i64_in _ ⟨by omega, by omega⟩
  have f2 : IntKind.i64.wrap ((q : Int) + (px : Int)) = (ix : Int) := by
    rw [show (q : Int) + (px : Int) = (ix : Int) by omega]
    exact IntWalk.i64_in _ ⟨by omega, by omega⟩
  have g1 : ¬ ((px : Int) < 0) := by omega
  have g2 : ¬ ((py : Int) < 0) := by omega
  have g3 : (px : Int) < (W : Int) := by omega
  have g4 : (py : Int) < (H : Int) := by omega
  have g5 : (ix : Int) < (n : Int) := by omega
  have CELL : Hid (∀ wq : World, Below w.heap.size w wq → wq.cell? ⟨b, o + ix, none⟩ = some (.float .f32 xv)) := Lib.hid fun wq h => by
    rw [← hxv]
    exact (h.cell (p := ⟨b, o + ix, none⟩) hb0).trans (hr.cells ix hixn)
  have HTT := Lib.hid htt
  have HPV : Hid (ks[ix]?.getD 0 = pk) := Lib.hid hpk.symm
  have HPX := Lib.hid hpx
  have HPY := Lib.hid hpy
  have HIX := Lib.hid hix
  have HB0 := Lib.hid hb0
  clear hKp hRS hb0 hr hn1 hlt hpx hpy hix eix hq hpk hpks hxv ht htt hks hAR hnn lpx lpy
  obtain ⟨m0, m1, m2⟩ := cells3 (HK.out.2 _ (.tail _ (.head _)))
  go_upto_region 42 with (first
    | (go_at_call 38; (refine Calls.mono (rm_own (HR.out.kept HK.out.1) c) ?_); rintro e w1 ⟨ga, ca, rfl, hm, hb⟩;
       have K1 := Lib.hid (HK.out.call hb); have S1 := Lib.hid (HS.out.kept hb); have M1 := Lib.hid hm; clear hb hm)
    | (go_at_call 39; (refine Calls.mono (rm_total M1.out ca) ?_); rw [← HTT.out]; rintro e w2 ⟨rfl, hb⟩;
       have K2 := Lib.hid (K1.out.call hb); have S2 := Lib.hid (S1.out.kept hb); clear hb))
  clear m0 m1 m2 HK HS K1 S1 M1
  obtain ⟨m0, m1, m2⟩ := cells3 (K2.out.2 _ (.tail _ (.head _)))
  go_upto_region 43 with (first
    | (go_at_call 38; (refine Calls.mono (rm_own (HR.out.kept K2.out.1) c) ?_); rintro e w3 ⟨gb, cb, rfl, hm, hb⟩;
       have K3 := Lib.hid (K2.out.call hb); have S3 := Lib.hid (S2.out.kept hb); have M3 := Lib.hid hm; clear hb hm)
    | (go_at_call 40; (refine Calls.mono (rm_peak M3.out cb) ?_); rw [HPX.out, HPY.out, HIX.out, HPV.out]; rintro e w4 ⟨rfl, hb⟩;
       have K4 := Lib.hid (K3.out.call hb); have S4 := Lib.hid (S3.out.kept hb); clear hb))
  clear m0 m1 m2 K2 S2 K3 S3 M3
  obtain ⟨wx, hwx⟩ : ∃ wx, w4.alloc (.cells #[.int .i64 (px : Nat), .int .i64 (py : Nat)] 50) = wx := ⟨_, rfl⟩
  have k5 := K4.out.alloc (.cells #[.int .i64 (px : Nat), .int .i64 (py : Nat)] 50)
  have q5 := (Below.refl w4.heap.size w4).alloc (Nat.le_refl _) (.cells #[.int .i64 (px : Nat), .int .i64 (py : Nat)] 50)
  obtain ⟨Ba, hBa⟩ : ∃ Ba, w4.heap.size = Ba := ⟨_, rfl⟩
  rw [hwx] at k5 q5 ⊢
  have S5 := Lib.hid (S4.out.kept q5)
  rw [hBa] at k5 ⊢
  have K5 := Lib.hid k5
  clear hwx hBa k5 q5 K4 S4
  obtain ⟨a0, a1⟩ := cells2 (K5.out.2 _ (.head _))
  obtain ⟨s0, s1, s2⟩ := cells3 (K5.out.2 _ (.tail _ (.head _)))
  obtain ⟨m0, m1, m2⟩ := cells3 (K5.out.2 _ (.tail _ (.tail _ (.head _))))
  have la := lt_of_blk (K5.out.2 _ (.head _))
  have ls := lt_of_blk (K5.out.2 _ (.tail _ (.head _)))
  have lm := lt_of_blk (K5.out.2 _ (.tail _ (.tail _ (.head _))))
  have sc := CELL.out _ K5.out.1
  have lb : b < wx.heap.size := Nat.lt_of_lt_of_le HB0.out K5.out.1.size
  have hB : Blw wx.heap.size wx wx := show Below _ _ _ from Below.refl _ _
  have hB' : Blw wx.heap.size wx wx.drew := show Below _ _ _ from (Below.refl wx.heap.size wx).drew
  have KT : Hid (∀ w1 : World, Blw wx.heap.size wx w1 → Calls Tryz.prog 97 #[.agg #[.int .i64 W, .int .i64 H, .slice (some ⟨g6, 0, none⟩) n n]] w1 fun e w' => e = .returned (.agg #[.int .i64 W, .int .i64 H, .slice (some ⟨g6, 0, none⟩) n n]) ∧ Blw wx.heap.size wx w') := Lib.hid fun w1 h =>
    (told_any _ _ _ n n w1).mono fun e w' ⟨h1, h2⟩ => ⟨h1, Below.trans h (h2.mono (Below.size h))⟩
  have KE : Hid (∀ w1 : World, Blw wx.heap.size wx w1 → Calls Tryz.prog 98 #[.agg #[.int .i64 W, .int .i64 H, .slice (some ⟨g6, 0, none⟩) n n], .agg #[.int .i64 W, .int .i64 H, .slice (some ⟨b, o, none⟩) n c]] w1 fun e w' => e = .returned (.bool true) ∧ Blw wx.heap.size wx w') := Lib.hid fun w1 h =>
    (rm_same (S5.out.kept h) (HR.out.kept (K5.out.1.trans (Below.mono h K5.out.1.size))) n c).mono fun e w' ⟨h1, h2⟩ => ⟨h1, Below.trans h (h2.mono (Below.size h))⟩
  have KA : Hid (∀ w1 : World, Blw wx.heap.size wx w1 → Calls Tryz.prog 19 #[] w1 fun e w' => e = .returned (.bool true) ∧ Blw wx.heap.size wx w') := Lib.hid fun w1 h =>
    (HA.out w1 (K5.out.1.trans (Below.mono h K5.out.1.size))).mono fun e w' ⟨h1, h2⟩ => ⟨h1, Below.trans h (h2.mono (Below.size h))⟩
  have HK5 := Lib.hid K5.out.1
  clear HR K5 S5 HA CELL HTT HPV HPX HPY HIX HB0
  go_region_held3 (fun w' => w'.cell? ⟨Ba, 0, none⟩ = some (.int .i64 (px : Nat)) ∧ w'.cell? ⟨Ba, 1, none⟩ = some (.int .i64 (py : Nat)) ∧
      w'.cell? ⟨B6, 0, none⟩ = some (.int .i64 W) ∧ w'.cell? ⟨B6, 1, none⟩ = some (.int .i64 H) ∧ w'.cell? ⟨B6, 2, none⟩ = some (.slice (some ⟨g6, 0, none⟩) n n) ∧
      w'.cell? ⟨w.heap.size, 0, none⟩ = some (.int .i64 W) ∧ w'.cell? ⟨w.heap.size, 1, none⟩ = some (.int .i64 H) ∧ w'.cell? ⟨w.heap.size, 2, none⟩ = some (.slice (some ⟨b, o, none⟩) n c) ∧
      w'.cell? ⟨b, o + ix, none⟩ = some (.float .f32 xv) ∧ Blw wx.heap.size wx w')
    (first
      | (go_split_ands; refine ⟨?_, ?_, ?_, ?_, ?_, ?_, ?_, ?_, ?_, ?_⟩ <;> with_reducible assumption)
      | (go_split_ands; refine ⟨?_, ?_, ?_, ?_, ?_, ?_, ?_, ?_, ?_, ?_⟩ <;> first | (with_reducible assumption) | (rw [Below.cell (w := wx) (by assumption : Blw wx.heap.size wx _) (by assumption)]; assumption))
      | (go_keep; done))
    (first
      | (go_at_call 97; with_reducible refine (KT.out _ (by assumption)).mono ?_; rintro e w10 ⟨rfl, hb10⟩)
      | (go_at_call 98; with_reducible refine (KE.out _ (by assumption)).mono ?_; rintro e w11 ⟨rfl, hb11⟩)
      | (go_at_call 19; with_reducible refine (KA.out _ (by assumption)).mono ?_; rintro e w12 ⟨rfl, hb12⟩))
  all_goals
    go_wp2_with fail
    go_ret
    exact ⟨rfl, HK5.out.trans (Below.mono hb12 HK5.out.size)⟩
end Go.Proofs.YtfdkmmllemkogaaGreatDoor
