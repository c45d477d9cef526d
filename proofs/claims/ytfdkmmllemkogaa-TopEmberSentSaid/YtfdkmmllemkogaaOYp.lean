/-
  The walk of TopEmberSent: the totals and the comparison: its last part.
-/
import Derived.Test.YtfdkmmllemkogaaOYn
import Derived.Test.YtfdkmmllemkogaaOYh
import Derived.Test.YtfdkmmllemkogaaOYk
namespace Go.Proofs.Ytfdkmmllemkogaa
open Go.RowKit
set_option linter.unusedVariables false

set_option maxRecDepth 1000000 in
set_option maxHeartbeats 51200000 in
theorem tail60 (W H : Int) (b o n c : Nat) (xs : List Nat) (ks : List Int) (m g cc : Nat) (lev : List Int) (B : Nat) (lost : Int) (hlost : 0 ≤ lost ∧ lost ≤ 65535) (w : World) : Tail60 W H b o n c xs ks m g cc lev B lost w := by
  unfold Tail60
  intro p L wz wx v27 v29 a31 c31 B33 gS u3 u4 u7 u8 u9 u10 u11 u12 u13 u14 u15 u16 u17 u20 u21 u22 u23 u24 u25 u26 u28 u35 u36 u37 u38 u39 u40 u41 u42 u43 u44 u45 u46 u47 u48 u49 u50 u51 u52 u53 u54 u55 u56 u57 u58 u59 u60 u61 u62 u63 u64 u65 u66 u67 u68 u69 u70 u71 u72 u73 u74 u75 u76 u77 u78 u79 u80 u81 u82 u83 u84 u85 u86 u87 u88 u89 u90 u91 u92 u93 u94 u95 u96 u97 u98 u99 u100 u101 u102 u103 u104 u105 u106 u107 u108 u109 u110 u111 u112 u113 u114 u115 u116 u117 u118 u119 u120 u121 u122 u123 u124 u125 u126 u127 u128 u129 u130 u131 u132 u133 u134 u135 u136 u137 u138 u139 u140 u141 u142 u143 u144 u145 u146 u147 u148 u149 u150 u151 u152 u153 u154 u155 u156 u157 u158 u159 u160 u161 u162 u163 u164 u165 u166 u167 u168 u169 u170 u171 u172 u173 u174 u175 u176 u177 u178 u179 u180 u181 u182 u183 u184 u185 u186 u187 u188 u189 u190 u191 u192 u193 u194 u195 u196 u197 u198 u199 u200 u201 u202 u203 u204 u205 u206 u207 u208 u209 u210 u211 u212 u213 u214 u215 u216 u217 u218 u219 u220 u221 u222 u223 u224 u225 u226 u227 u228 u229 u230 u231 u232 u233 u234 u235 u236 u237 u238 u239 u240 u241 u242 u243 u244 u245 u246 u247 u248 u249 u250 u251 u252 u253 u254 u255 u256 u257 u258 u259 u260 u261 u262 u263 u264 u265 u266 u267 u268 u269 u270 u271 u272 u273 u274 u275 u276 u277 u278 u279 u280 u281 u282 u283 u284 u285 u286 u287 u288 u289 u290 u291 u292 u293 u294 u295 u296 u297 u298 u299 u300 u301 u302 u303 u304 u305 u306 u307 u308 u309 u310 u311 u312 u313 u314 u315 u316 u317 u318 u319 u320 u321 u322 u323 u324 u325 u326 u327 u328 u329 u330 u331 u332 u333 u334 u335 u336 u337 u338 u339 u340 u341 u342 u343 u344 u345 u346 u347 u348 u349 u350 u351 u352 u353 u354 u355 u356 u357 hS hM hW hV hSum
  conv => arg 2; whnf
  dsimp only
  have hn1 := hS.n1
  have hn36 := hS.n36
  have hRA := again_right hS hM.again
  have hRR := rest_right hS hM.rest
  have hRM := hS.right
  obtain ⟨av, hav⟩ : ∃ av, avOf n lev (keptTo (keptF lost) m) = av := ⟨_, rfl⟩
  obtain ⟨rs, hrs⟩ : ∃ rs, rsOf n xs (keptTo (keptF lost) m) = rs := ⟨_, rfl⟩
  have hsum := ak_rk_sum n lev ks (keptTo (keptF lost) m) hRM.lenk hS.levk
  obtain ⟨ak, hak⟩ : ∃ ak, akOf n lev (keptTo (keptF lost) m) = ak := ⟨_, rfl⟩
  obtain ⟨rk, hrk⟩ : ∃ rk, rkOf n lev (keptTo (keptF lost) m) = rk := ⟨_, rfl⟩
  rw [hav, hak] at hRA
  rw [hrs, hrk] at hRR
  rw [hak, hrk] at hsum
  obtain ⟨sA, hsA⟩ : ∃ s, ak.sum = s := ⟨_, rfl⟩
  obtain ⟨sR, hsR⟩ : ∃ s, rk.sum = s := ⟨_, rfl⟩
  obtain ⟨sM, hsM⟩ : ∃ s, ks.sum = s := ⟨_, rfl⟩
  have hsb := sum_take_bd hRM.lenk hRM.sizes n (Nat.le_refl _)
  rw [List.take_of_length_le (by rw [hRM.lenk]; exact Nat.le_refl _), hsM] at hsb
  rw [hsA, hsR, hsM] at hsum
  have hwrap : IntKind.i64.wrap (sA + sR) = sM := by rw [hsum]; exact IntWalk.i64_in _ ⟨by omega, by omega⟩
  have hgA : p.gA < wx.heap.size := (hM.again.lt _ rfl).2
  have hgR : p.gR < wx.heap.size := (hM.rest.lt _ rfl).2
  have h18 := lt_of_blk hM.b18
  have h19 := lt_of_blk hM.b19
  have h33 := lt_of_blk hSum.box
  have hwb := lt_of_blk hS.box
  have hbl : b < wx.heap.size := by have := hS.bl; omega
  obtain ⟨a27, c27, rfl⟩ := owns_slice hW
  obtain ⟨a29, c29, rfl⟩ := owns_slice hV
  have hwl := wantTo_len (keptTo (keptF lost) m) m
  have hm12 := hS.m12
  obtain ⟨zs, hzs⟩ : ∃ zs, (wantTo (keptTo (keptF lost) m) m) = zs := ⟨_, rfl⟩
  rw [hzs] at hW hV hwl ⊢
  have a0 : wx.cell? ⟨p.B18, 0, none⟩ = some (.int .i64 W) := by rw [cell_of_row wx _ 0 _ _ (0, 0) hM.b18]; rfl
  have a1 : wx.cell? ⟨p.B18, 1, none⟩ = some (.int .i64 H) := by rw [cell_of_row wx _ 1 _ _ (0, 0) hM.b18]; rfl
  have a2 : wx.cell? ⟨p.B18, 2, none⟩ = some (.slice (some ⟨p.gA, 0, none⟩) n n) := by rw [cell_of_row wx _ 2 _ _ (0, 0) hM.b18]; rfl
  have HKA : Hid (Calls Try.prog 13 #[.agg #[.int .i64 W, .int .i64 H, .slice (some ⟨p.gA, 0, none⟩) n n]] wx (OwnPost wx W H n av 27)) := Lib.hid (emberMap_any W H p.gA 0 n n av hRA.len hn1 (by omega) hgA hRA.cells)
  have HKR : Hid (∀ w1 : World, Below wx.heap.size wx w1 → Calls Try.prog 13 #[.agg #[.int .i64 W, .int .i64 H, .slice (some ⟨p.gR, 0, none⟩) n p.cR]] w1 (OwnPost w1 W H n rs 27)) := Lib.hid fun w1 h1 =>
    emberMap_any W H p.gR 0 n p.cR rs hRR.len hn1 (by omega) (by have := h1.size; omega) (hRR.below h1 hgR).cells
  have HKM : Hid (∀ w1 : World, Below wx.heap.size wx w1 → Calls Try.prog 13 #[.agg #[.int .i64 W, .int .i64 H, .slice (some ⟨b, o, none⟩) n c]] w1 (OwnPost w1 W H n xs 27)) := Lib.hid fun w1 h1 =>
    emberMap_any W H b o n c xs hRM.len hn1 (by omega) (by have := h1.size; omega) (hRM.below h1 hbl).cells
  have TA : Hid (∀ (w1 : World) (g c : Nat), g < w1.heap.size → (∀ j, j < n → w1.cell? ⟨g, j, none⟩ = some (.float .f32 (av[j]?.getD 0))) → Calls Try.prog 14 #[.agg #[.int .i64 W, .int .i64 H, .slice (some ⟨g, 0, none⟩) n c]] w1 fun e w' => e = .returned (.tuple #[.int .i64 sA, .int .i64 0]) ∧ Below w1.heap.size w1 w') := Lib.hid fun w1 g c h1 h2 => by
    rw [← hsA]; exact total_any W H g 0 n c av ak w1 (right_copy hRA h2) h1
  have TR : Hid (∀ (w1 : World) (g c : Nat), g < w1.heap.size → (∀ j, j < n → w1.cell? ⟨g, j, none⟩ = some (.float .f32 (rs[j]?.getD 0))) → Calls Try.prog 14 #[.agg #[.int .i64 W, .int .i64 H, .slice (some ⟨g, 0, none⟩) n c]] w1 fun e w' => e = .returned (.tuple #[.int .i64 sR, .int .i64 0]) ∧ Below w1.heap.size w1 w') := Lib.hid fun w1 g c h1 h2 => by
    rw [← hsR]; exact total_any W H g 0 n c rs rk w1 (right_copy hRR h2) h1
  have TM : Hid (∀ (w1 : World) (g c : Nat), g < w1.heap.size → (∀ j, j < n → w1.cell? ⟨g, j, none⟩ = some (.float .f32 (xs[j]?.getD 0))) → Calls Try.prog 14 #[.agg #[.int .i64 W, .int .i64 H, .slice (some ⟨g, 0, none⟩) n c]] w1 fun e w' => e = .returned (.tuple #[.int .i64 sM, .int .i64 0]) ∧ Below w1.heap.size w1 w') := Lib.hid fun w1 g c h1 h2 => by
    rw [← hsM]; exact total_any W H g 0 n c xs ks w1 (right_copy hRM h2) h1
  have KI : Hid (∀ w1 : World, Below wx.heap.size wx w1 → Calls Try.prog 15 #[.slice a29 zs.length c29, .slice a27 zs.length c27] w1 fun e w' => e = .returned (.bool true) ∧ Below w1.heap.size w1 w') := Lib.hid fun w1 h1 =>
    sameInts_any a29 a27 zs.length c29 c27 zs (by omega) (ints_ex (owns_kept hV h1 (Nat.le_refl _))) (ints_ex (owns_kept hW h1 (Nat.le_refl _)))
  have hys : ∀ j, j < n → (ks.map smpOf)[j]?.getD 0 = smpOf (ks[j]?.getD 0) := fun j hj => by
    rw [List.getElem?_map, List.getElem?_eq_getElem (by rw [hRM.lenk]; exact hj)]; rfl
  have KS : Hid (∀ w1 : World, Below wx.heap.size wx w1 → Calls Try.prog 16 #[.agg #[.int .i64 W, .int .i64 H, .slice (some ⟨gS, 0, none⟩) n n], .agg #[.int .i64 W, .int .i64 H, .slice (some ⟨b, o, none⟩) n c]] w1 fun e w' => e = .returned (.bool true) ∧ Below w1.heap.size w1 w') := Lib.hid fun w1 h1 =>
    sameMap_any W H gS 0 n b o c n (ks.map smpOf) xs ks (by omega) (by have := h1.size; have := hSum.lt; omega) (by have := h1.size; omega)
      (fun j hj => by rw [Nat.zero_add, hys j hj]; exact (h1.cell (p := ⟨gS, j, none⟩) hSum.lt).trans (hSum.cells j hj)) (hRM.below h1 hbl).cells
      (fun j hj => by rw [hys j hj]; exact smpOf_smp _ (Nat.lt_of_le_of_lt (hRM.sizes j hj) (by decide))) hRM.smps
  have HS := Lib.hid hS
  have HM := Lib.hid hM
  have HU := Lib.hid hSum
  have HWR := Lib.hid hwrap
  clear hS hM hW hV hRA hRR hRM hsum hav hrs hak hrk hsA hsR hsM hsb hzs hwl hys hSum hwrap
  go_upto_region 61 with (first
    | (go_at_call 13; refine HKA.out.mono ?_; rintro e w1 ⟨g1, c1, rfl, hg1, hg1', hc1, hb1, _⟩)
    | (go_at_call 14; refine (TA.out w1 g1 c1 hg1' hc1).mono ?_; rintro e w2 ⟨rfl, hb2⟩))
  have hbx2 : Below wx.heap.size wx w2 := hb1.trans (hb2.mono hb1.size)
  have hM2 := HM.out.below hbx2
  have HB2 := Lib.hid hbx2
  clear a0 a1 a2 hb1 hb2 hc1 hbx2
  have a0 : w2.cell? ⟨p.B19, 0, none⟩ = some (.int .i64 W) := by rw [cell_of_row w2 _ 0 _ _ (0, 0) hM2.b19]; rfl
  have a1 : w2.cell? ⟨p.B19, 1, none⟩ = some (.int .i64 H) := by rw [cell_of_row w2 _ 1 _ _ (0, 0) hM2.b19]; rfl
  have a2 : w2.cell? ⟨p.B19, 2, none⟩ = some (.slice (some ⟨p.gR, 0, none⟩) n p.cR) := by rw [cell_of_row w2 _ 2 _ _ (0, 0) hM2.b19]; rfl
  clear hM2
  go_upto_region 62 with (first
    | (go_at_call 13; refine (HKR.out w2 HB2.out).mono ?_; rintro e w3 ⟨g3, c3, rfl, hg3, hg3', hc3, hb3, _⟩)
    | (go_at_call 14; refine (TR.out w3 g3 c3 hg3' hc3).mono ?_; rintro e w4 ⟨rfl, hb4⟩))
  have hbx4 : Below wx.heap.size wx w4 := HB2.out.trans ((hb3.trans (hb4.mono hb3.size)).mono HB2.out.size)
  have hS4 := HS.out.kept hbx4
  have HB4 := Lib.hid hbx4
  clear a0 a1 a2 hb3 hb4 hc3 hbx4
  have a0 := hS4.b0
  have a1 := hS4.b1
  have a2 := hS4.b2
  clear hS4
  go_upto_region 63 with (first
    | (go_at_call 13; refine (HKM.out w4 HB4.out).mono ?_; rintro e w5 ⟨g5, c5, rfl, hg5, hg5', hc5, hb5, _⟩)
    | (go_at_call 14; refine (TM.out w5 g5 c5 hg5' hc5).mono ?_; rintro e w6 ⟨rfl, hb6⟩))
  have hbx6 : Below wx.heap.size wx w6 := HB4.out.trans ((hb5.trans (hb6.mono hb5.size)).mono HB4.out.size)
  have HB6 := Lib.hid hbx6
  clear a0 a1 a2 hb5 hb6 hc5 hbx6
  have hwr := HWR.out
  go_wp2_with (first
    | ((go_at_call 15; refine (KI.out w6 HB6.out).mono ?_; rintro e w7 ⟨rfl, hb7⟩
        have hbx7 : Below wx.heap.size wx w7 := HB6.out.trans (hb7.mono HB6.out.size)
        have hS7 := HS.out.kept hbx7
        have hr7 := (hbx7.block _ h33).trans HU.out.box
        have HB7 := Lib.hid hbx7
        have a0 := hS7.b0
        have a1 := hS7.b1
        have a2 := hS7.b2
        have q0 : w7.cell? ⟨B33, 0, none⟩ = some (.int .i64 W) := by rw [cell_of_row w7 _ 0 _ _ (0, 0) hr7]; rfl
        have q1 : w7.cell? ⟨B33, 1, none⟩ = some (.int .i64 H) := by rw [cell_of_row w7 _ 1 _ _ (0, 0) hr7]; rfl
        have q2 : w7.cell? ⟨B33, 2, none⟩ = some (.slice (some ⟨gS, 0, none⟩) n n) := by rw [cell_of_row w7 _ 2 _ _ (0, 0) hr7]; rfl
        clear hbx7 hS7 hr7 hb7))
    | ((go_at_call 16; refine (KS.out w7 HB7.out).mono ?_; rintro e w8 ⟨rfl, hb8⟩
        have HB8 := Lib.hid (HB7.out.trans (hb8.mono HB7.out.size))
        clear hb8))
    | ((go_at_call 5; refine (emberRing_any w8).mono ?_; rintro e w9 ⟨rfl, hb9⟩
        have HB9 := Lib.hid (HB8.out.trans (hb9.mono HB8.out.size))
        clear hb9)))
  go_ret
  exact ⟨rfl, HS.out.below.trans (HB9.out.mono (by have := HS.out.below.size; omega))⟩
end Go.Proofs.Ytfdkmmllemkogaa

/-
  TopEmberSent returns true for every map and every lost: the walk's parts joined.
-/
namespace Go.Proofs.Ytfdkmmllemkogaa
open Go.RowKit
set_option linter.unusedVariables false

theorem sent_all (W H : Int) (a : Option Addr) (n c : Nat) (xs : List Nat) (lost : Int) (hl : 0 ≤ lost ∧ lost ≤ 65535) (hm : n ≤ 4611686018427387904) (w : World) (hwf : ∀ j, j < n → xs[j]?.getD 0 < 2 ^ 32) (hxl : xs.length = n)
    (hs : ∀ j, j < n → ∃ b o, a = some ⟨b, o, none⟩ ∧ b < w.heap.size ∧ ∀ j, j < n → w.cell? ⟨b, o + j, none⟩ = some (.float .f32 (xs[j]?.getD 0))) :
    Calls Try.prog 3 #[.agg #[.int .i64 W, .int .i64 H, .slice a n c], .int .u16 lost] w (SentPost w) :=
  sent_of28 W H a n c xs lost hl hm w hwf hxl hs (fun b o ks m g cc lev B =>
    tail28 W H b o n c xs ks m g cc lev B lost hl w (tail48 W H b o n c xs ks m g cc lev B lost hl w (tail57 W H b o n c xs ks m g cc lev B lost hl w (tail59 W H b o n c xs ks m g cc lev B lost hl w (tail60 W H b o n c xs ks m g cc lev B lost hl w)))))
end Go.Proofs.Ytfdkmmllemkogaa
