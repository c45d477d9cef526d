/-
  LightBack's calls: Parse of a right map's text, whole and without its last byte; Print of what a text was read as; Unpack of a right map's stream, whole and without its last byte; how many lines Split finds.
-/
import Derived.Test.YtfdkmmllemkogaaGreatDoorOaSt
import Derived.Test.YtfdkmmllemkogaaGreatDoorOaTk
import Derived.Test.YtfdkmmllemkogaaGreatDoorOaSw
import Derived.Test.YtfdkmmllemkogaaGreatDoorOZy
import Derived.Test.YtfdkmmllemkogaaGreatDoorOaJi
import Derived.Deep.CutBlock
import Derived.Deep.DeepCutAuto
import Derived.Test.YtfdkmmllemkogaaGreatDoorOaLm
import Derived.Test.YtfdkmmllemkogaaGreatDoorOVk
namespace Go.Proofs.YtfdkmmllemkogaaGreatDoor
open Go.RowKit
set_option linter.unusedVariables false
set_option linter.unusedSimpArgs false

/-- A map's sides and integers. -/
structure RightK (W H : Nat) (ks : List Int) : Prop where
  wid : 1 ≤ W ∧ W ≤ 64
  hei : 1 ≤ H ∧ H ≤ 64
  area : W * H = ks.length
  few : ks.length ≤ 160
  small : ∀ k ∈ ks, k.natAbs ≤ 16384
theorem rows_size {W : Nat} {ks : List Int} (h : ∀ k ∈ ks, k.natAbs < 2 ^ 40) : ∀ ys : List Nat, (rowsL W ks ys).length ≤ (4 + 22 * W) * ys.length
  | [] => by simp [rowsL]
  | y :: ys => by
    have ih := rows_size (W := W) h ys
    have h1 := line_len [114, 111, 119] (rowOf W ks y) (fun k hk => h k (rowOf_mem hk))
    have h2 : (rowOf W ks y).length ≤ W := by unfold rowOf; rw [List.length_take]; omega
    have e : rowsL W ks (y :: ys) = lineL [114, 111, 119] (rowOf W ks y) ++ rowsL W ks ys := by unfold rowsL; rw [List.flatMap_cons]
    have h3 : ([114, 111, 119] : List UInt8).length = 3 := rfl
    rw [e, List.length_append, List.length_cons, Nat.mul_add, Nat.mul_one]
    omega
theorem text_size {W H : Nat} {ks : List Int} (h : RightK W H ks) : (textL W H ks).length ≤ 4096 := by
  have hk : ∀ k ∈ ks, k.natAbs < 2 ^ 40 := fun k hk => Nat.lt_of_le_of_lt (h.small k hk) (by decide)
  have h1 := rows_size (W := W) hk (List.range H)
  have hW := h.wid; have hH := h.hei
  have h2 := line_len [109, 97, 112] [(W : Int), (H : Int)] (fun k hk => by simp at hk; rcases hk with rfl | rfl <;> omega)
  have h3 : ([109, 97, 112] : List UInt8).length = 3 := rfl
  have h4 : [(W : Int), (H : Int)].length = 2 := rfl
  rw [List.length_range, Nat.add_mul, Nat.mul_assoc, h.area] at h1
  have := h.few
  unfold textL
  rw [List.length_append]
  omega
theorem text_pos (W H : Nat) (ks : List Int) : 1 ≤ (textL W H ks).length := by
  unfold textL lineL
  simp only [List.length_append, List.length_cons, List.length_nil]
  omega
/-- Parse of a right map's text. -/
theorem parse_text {W H : Nat} {ks : List Int} (h : RightK W H ks) (w : World) (hm : MaxAt w) :
    Calls Tryz.prog 93 #[.string (strB (textL W H ks))] w fun e w' =>
      ∃ X Y a n c, e = .returned (.tuple #[.agg #[.int .i64 X, .int .i64 Y, .slice a n c], .int .i64 0, .int .i64 0]) ∧ ResV w' 0 W H ks X Y a n c ∧ Below w.heap.size w w' := by
  refine (parse_any (strB (textL W H ks)) w (by rw [strB_size]; exact text_size h) hm).mono fun e w' hp => ?_
  obtain ⟨X, Y, a, n, c, idx, err, W', H', ls, rfl, hq, hres, hb⟩ := hp
  obtain ⟨rfl, rfl, heq⟩ := parseR_fun (text_reads h.wid h.hei h.area h.small) hq
  obtain ⟨rfl, rfl, rfl⟩ := heq rfl
  exact ⟨X, Y, a, n, c, rfl, hres, hb⟩
theorem size_drop (l : List UInt8) : (strB l).extract 0 ((strB l).size - 1) = strB l.dropLast := by
  apply listB_inj
  rw [listB_extract, listB_strB, listB_strB, strB_size, List.drop_zero, List.dropLast_eq_take]
/-- Parse of a right map's text without its last byte. -/
theorem parse_torn {W H : Nat} {ks : List Int} (h : RightK W H ks) (w : World) (hm : MaxAt w) :
    Calls Tryz.prog 93 #[.string (strB (textL W H ks).dropLast)] w fun e w' =>
      ∃ X Y a n c, e = .returned (.tuple #[.agg #[.int .i64 X, .int .i64 Y, .slice a n c], .int .i64 H, .int .i64 25]) ∧ Below w.heap.size w w' := by
  refine (parse_any (strB (textL W H ks).dropLast) w (by rw [strB_size, List.length_dropLast]; have := text_size h; omega) hm).mono fun e w' hp => ?_
  obtain ⟨X, Y, a, n, c, idx, err, W', H', ls, rfl, hq, hres, hb⟩ := hp
  obtain ⟨rfl, rfl, -⟩ := parseR_fun (text_torn h.wid h.hei h.area h.small) hq
  exact ⟨X, Y, a, n, c, rfl, hb⟩
/-- Print of what a text was read as gives the text. -/
theorem print_back {s : ByteArray} {idx W H : Int} {ls : List Int} (hq : ParseR (linesL s) idx 0 W H ls) {X Y : Int} {a : Option Addr} {n c : Nat} (w : World) (hres : ResV w 0 W H ls X Y a n c) (ht : TabAt w) :
    Calls Tryz.prog 92 #[.agg #[.int .i64 X, .int .i64 Y, .slice a n c]] w fun e w' => e = .returned (.tuple #[.string s, .int .i64 0]) ∧ Below w.heap.size w w' := by
  obtain ⟨h1, h2, h3, h4⟩ := reads_text hq
  have hA := hres.any
  obtain ⟨rfl, rfl, hl, hn, hs, -⟩ := hres.ok rfl
  have hsm : ∀ k ∈ ls, k.natAbs ≤ 16384 := fun k hk => by
    obtain ⟨j, hj⟩ := List.getElem?_of_mem hk
    have := hs j (by have := (List.getElem?_eq_some_iff.1 hj).1; omega)
    rwa [hj] at this
  have hm : mapErr X Y n (ls.map smpOf) = 0 := by
    unfold cellErr at h4
    rw [hl] at h4
    by_cases hg : largeErr n ls = 0
    · rw [if_pos hg] at h4; exact h4
    · rw [if_neg hg] at h4; exact absurd h4 hg
  obtain ⟨b, o, rfl, hb, hr⟩ := hA.rightK hm
  obtain ⟨Wn, rfl⟩ : ∃ k : Nat, X = k := ⟨X.toNat, by omega⟩
  obtain ⟨Hn, rfl⟩ : ∃ k : Nat, Y = k := ⟨Y.toNat, by omega⟩
  have k := print_any Wn Hn b o c n _ _ w hr hb ht
  rw [kOf_smps hsm] at k
  rw [Int.toNat_natCast, Int.toNat_natCast] at h3
  rw [h3]
  exact k
/-- Print of a right map gives its text. -/
theorem print_map {W H : Nat} {ks : List Int} {b o n c : Nat} {xs : List Nat} (w : World) (hr : RightMap w W H b o n xs ks) (hb : b < w.heap.size) (ht : TabAt w) :
    Calls Tryz.prog 92 #[.agg #[.int .i64 W, .int .i64 H, .slice (some ⟨b, o, none⟩) n c]] w fun e w' => e = .returned (.tuple #[.string (strB (textL W H ks)), .int .i64 0]) ∧ Below w.heap.size w w' :=
  print_any W H b o c n xs ks w hr hb ht
/-- Unpack of a right map's stream. -/
theorem unpack_text {W H : Nat} {ks : List Int} (h : RightK W H ks) (a : Option Addr) (n cp : Nat) (hcp : n ≤ cp) (hcq : cp ≤ 9223372036854775807) (w : World) (hA : AnyBytes w a n (packL W H ks)) :
    Calls Tryz.prog 89 #[.slice a n cp] w (UnRes w 0 W H ks) := by
  have hn : n = 10 + 4 * ks.length := by rw [← hA.1.1, packLen]
  have k := unpack_all (packL W H ks) a n cp (by have := h.few; omega) hcp hcq w hA
  rw [(pack_reads h.wid h.hei h.area h.small).1, (pack_reads h.wid h.hei h.area h.small).2, (pack_W W H ks).1, (pack_W W H ks).2.1] at k
  exact k
/-- Unpack of a right map's stream without its last byte. -/
theorem unpack_torn {W H : Nat} {ks : List Int} (h : RightK W H ks) (a : Option Addr) (n cp : Nat) (hcp : n ≤ cp) (hcq : cp ≤ 9223372036854775807) (w : World) (hA : AnyBytes w a n (packL W H ks).dropLast) :
    Calls Tryz.prog 89 #[.slice a n cp] w (UnRes w 28 (unW (packL W H ks).dropLast) (unH (packL W H ks).dropLast) (unL (packL W H ks).dropLast)) := by
  have hn : n = 9 + 4 * ks.length := by rw [← hA.1.1, List.length_dropLast, packLen]; omega
  have k := unpack_all (packL W H ks).dropLast a n cp (by have := h.few; omega) hcp hcq w hA
  rw [pack_torn h.area] at k
  exact k
/-- How many pieces Split finds in a right map's text. -/
theorem split_text {W H : Nat} {ks : List Int} : (splitL (strB (textL W H ks)) 10).length = H + 2 := by
  have h := refL_len (strB (textL W H ks))
  rw [(text_heads W H ks).1, parts_len] at h
  exact h
end Go.Proofs.YtfdkmmllemkogaaGreatDoor

/-
  LightBack: its walk from the text without its last byte on.
-/
namespace Go.Proofs.YtfdkmmllemkogaaGreatDoor
open Go.RowKit Go.Shelf
set_option linter.unusedVariables false
set_option linter.unusedSimpArgs false

noncomputable def cutB (n : Nat) : Code := ((Tryz.f17.body.bind (tailC n)).getD .skip)
theorem map_u8_drop (S : List Int) (m : Nat) (h : S.length = m + 1) {w : World} {b q : Nat} (hr : w.rangeAt b q (S.map (Value.int .u8))) : ∀ j u, (S.dropLast.map (Value.int .u8))[j]? = some u → w.cell? ((⟨b, q, none⟩ : Addr).add j) = some u := by
  intro j u hu
  have hj := (List.getElem?_eq_some_iff.1 hu).1
  rw [List.length_map, List.length_dropLast, h] at hj
  rw [Addr.add_mid]
  refine hr j u ?_
  rw [List.getElem?_map] at hu ⊢
  rwa [List.getElem?_dropLast, if_pos (by omega)] at hu

set_option maxRecDepth 100000 in
set_option maxHeartbeats 12800000 in
theorem back14 (w : World) (W H b o n c : Nat) (ks : List Int) (hk : RightK W H ks) (s P : ByteArray) (hP : P = strB (textL W H ks)) (b1 q1 m c1 : Nat) (hmc : m ≤ c1) (hcq : c1 ≤ 9223372036854775807) (ht : TabAt w) (hx : MaxAt w) (wr : World)
    (u3 u4 u6 u7 u8 u9 u11 u12 u13 u14 u15 u16 u17 u18 u19 u20 u21 u22 u23 u24 u25 u26 u27 u28 u29 u30 u31 u32 u33 u34 u35 u36 u37 u38 u39 u40 u41 u42 u43 u44 u45 u46 u47 u48 u49 u50 u51 u52 u53 u54 u55 u56 u57 u58 u59 u60 u61 u62 u63 u64 u65 u66 u67 u68 u69 u70 u71 u72 u73 u74 u75 u76 u77 u78 u79 u80 u81 u82 u83 u84 u85 u86 u87 u88 u89 u90 u91 u92 u93 u94 u95 u96 u97 u98 u99 u100 u101 u102 u103 u104 u105 u106 u107 u108 u109 u110 u111 u112 u113 u114 u115 u116 u117 u118 u119 u120 u121 u122 u123 u124 u125 u126 u127 u128 u129 u130 u131 u132 u133 u134 u135 u136 u137 u138 u139 u140 u141 u142 u143 u144 u145 u146 u147 u148 u149 u150 u151 u152 u153 u154 u155 u156 u157 u158 : Value)
    (hKp : Kp w wr [(w.heap.size, (.cells #[.int .i64 (W : Nat), .int .i64 (H : Nat), .slice (some ⟨b, o, none⟩) n c] 48 (0, 0)))]) (hm : m = 10 + 4 * ks.length) (hb1 : b1 < wr.heap.size) (hr : wr.rangeAt b1 q1 ((packL W H ks).map (Value.int .u8))) :
    Code.wp Tryz.prog (cutB 14) (bodyPost Tryz.prog Tryz.f17 (TruePost w)) ⟨#[.agg #[.int .i64 (W : Nat), .int .i64 (H : Nat), .slice (some ⟨b, o, none⟩) n c], .string s, .pointer (some ⟨w.heap.size, 0, none⟩), u3, u4, .string P, u6, u7, u8, u9, .slice (some ⟨b1, q1, none⟩) m c1, u11, u12, u13, u14, u15, u16, u17, u18, u19, u20, u21, u22, u23, u24, u25, u26, u27, u28, u29, u30, u31, u32, u33, u34, u35, u36, u37, u38, u39, u40, u41, u42, u43, u44, u45, u46, u47, u48, u49, u50, u51, u52, u53, u54, u55, u56, u57, u58, u59, u60, u61, u62, u63, u64, u65, u66, u67, u68, u69, u70, u71, u72, u73, u74, u75, u76, u77, u78, u79, u80, u81, u82, u83, u84, u85, u86, u87, u88, u89, u90, u91, u92, u93, u94, u95, u96, u97, u98, u99, u100, u101, u102, u103, u104, u105, u106, u107, u108, u109, u110, u111, u112, u113, u114, u115, u116, u117, u118, u119, u120, u121, u122, u123, u124, u125, u126, u127, u128, u129, u130, u131, u132, u133, u134, u135, u136, u137, u138, u139, u140, u141, u142, u143, u144, u145, u146, u147, u148, u149, u150, u151, u152, u153, u154, u155, u156, u157, u158], []⟩ wr := by
  conv => arg 2; whnf
  dsimp only
  obtain ⟨i0, hi, hz0, hz1, hz2⟩ := info_parts Tryz.infoByte
  have KW : Hid (∀ w1 : World, Below w.heap.size w w1 → Calls Tryz.prog 19 #[] w1 fun e w' => e = .returned (.bool true) ∧ Below w.heap.size w w') :=
    Lib.hid fun w1 h => (awake_any w1 (ht.on h)).mono fun e w' ⟨he, hb⟩ => ⟨he, h.trans (hb.mono h.size)⟩
  have hps : P.size ≤ 4096 := by rw [hP, strB_size]; exact text_size hk
  have hp1 : 1 ≤ P.size := by rw [hP, strB_size]; exact text_pos W H ks
  have KP : Hid (∀ w1 : World, Below w.heap.size w w1 → Calls Tryz.prog 93 #[.string (P.extract 0 (P.size - 1))] w1 fun e w' =>
      ∃ X Y a n c, e = .returned (.tuple #[.agg #[.int .i64 X, .int .i64 Y, .slice a n c], .int .i64 H, .int .i64 25]) ∧ Below w1.heap.size w1 w') := Lib.hid fun w1 h => by
    have k := parse_torn hk w1 (hx.on h)
    rw [← size_drop, ← hP] at k
    exact k
  obtain ⟨d, hd⟩ : ∃ d, m = d + 1 := ⟨m - 1, by omega⟩
  have KU : Hid (∀ (w1 : World) (a : Option Addr) (cp : Nat), d ≤ cp → cp ≤ 9223372036854775807 → AnyBytes w1 a d (packL W H ks).dropLast → Calls Tryz.prog 89 #[.slice a d cp] w1 fun e w' =>
      ∃ X Y a n c, e = .returned (.tuple #[.agg #[.int .i64 X, .int .i64 Y, .slice a n c], .int .i64 28]) ∧ Below w1.heap.size w1 w') := Lib.hid fun w1 a cp h1 h2 hA =>
    (unpack_torn hk a d cp h1 h2 w1 hA).mono fun e w' ⟨X, Y, a, n, c, he, _, hb⟩ => ⟨X, Y, a, n, c, he, hb⟩
  have hV := pack_bytes (ks := ks) hk.wid.2 hk.hei.2
  have hVd : BytesV (packL W H ks).dropLast d := ⟨by rw [List.length_dropLast, hV.1]; omega, fun v hv => hV.2 v ((List.dropLast_sublist _).subset hv)⟩
  have hlen : (packL W H ks).length = d + 1 := by rw [hV.1]; omega
  have HV := Lib.hid hVd
  have hd4 : d ≤ 1000 := by have := hk.few; omega
  have HR := Lib.hid (fun (w' : World) (h : Below wr.heap.size wr w') => map_u8_drop (packL W H ks) d hlen (w := w') (range_below hr h hb1))
  obtain ⟨PD, hPD⟩ : ∃ L, (packL W H ks).dropLast = L := ⟨_, rfl⟩
  rw [hPD] at HV HR KU
  have hln : (PD.map (Value.int .u8)).length = d * 1 := by rw [List.length_map, HV.out.1, Nat.mul_one]
  have hone : ∀ u ∈ PD.map (Value.int .u8), u.oneCell' = true := by
    intro u hu; obtain ⟨x, _, rfl⟩ := List.mem_map.1 hu; rfl
  have HLN := Lib.hid hln
  have HONE := Lib.hid hone
  have HK := Lib.hid hKp
  have e1 : ((P.size : Int) - 1).toNat = P.size - 1 := by omega
  have e2 : IntKind.i64.wrap ((P.size : Int) - 1) = (P.size : Int) - 1 := IntWalk.i64_in _ ⟨by omega, by omega⟩
  have e3 : IntKind.i64.wrap ((m : Int) - 1) = (d : Int) := by rw [show (m : Int) - 1 = (d : Int) by omega]; exact IntWalk.i64_in _ ⟨by omega, by omega⟩
  have f1 : (0 : Int) ≤ (P.size : Int) - 1 := by omega
  have f2 : (P.size : Int) - 1 ≤ (P.size : Int) := by omega
  have f3 : (d : Int) ≤ (c1 : Int) := by omega
  have f4 : (0 : Int) ≤ (d : Int) := by omega
  clear hP hx ht hm hr hV hVd hlen hPD hln hone hKp hk
  go_wp2_with fail
  refine (KP.out _ (Kp.below HK.out)).mono ?_
  rintro e w2 ⟨X, Y, a2, n2, c2, rfl, hb2⟩
  have K3 := Lib.hid ((HK.out.call hb2).alloc (.cells #[.int .i64 X, .int .i64 Y, .slice a2 n2 c2] 54))
  have hb3 : Below wr.heap.size wr (w2.alloc (.cells #[.int .i64 X, .int .i64 Y, .slice a2 n2 c2] 54)) := hb2.alloc hb2.size _
  go_upto_region 15 with fail
  obtain ⟨W3, hW3⟩ : ∃ W3, w2.alloc (.cells #[.int .i64 X, .int .i64 Y, .slice a2 n2 c2] 54) = W3 := ⟨_, rfl⟩
  rw [hW3] at K3 hb3
  try rw [hW3]
  have hC0 : (W3.alloc (.cells #[] 5)).ownsRow W3.heap.size 5 1 (.slice (some ⟨W3.heap.size, 0, none⟩) 0 0) 0 [] := by
    have h := World.ownsRow_made (base := W3.heap.size) (e := 5) (size := 1) W3 #[] 0 (by simp) (by unfold maxLen; omega) rfl
    simpa using h
  have hB6 : Below W3.heap.size W3 (W3.alloc (.cells #[] 5)) := (Below.refl W3.heap.size W3).alloc (Nat.le_refl _) _
  have HC0 := Lib.hid hC0
  have HB6 := Lib.hid hB6
  have HNW := Lib.hid (HR.out (W3.alloc (.cells #[] 5)) (hb3.trans (hB6.mono hb3.size)))
  clear hb2 hW3 hC0 hB6 KP hb3
  go_upto_region 16 with (first
    | (at_builtin; (refine wpList_append_own _ rfl (.tmp 134) (.tmp 139) 109 rfl W3.heap.size 5 i0 (.int .u8 0) 1 1 Tryz.underlying109 hi hz0 hz1 hz2 rfl (by decide) (.slice (some ⟨W3.heap.size, 0, none⟩) 0 0) 0 [] rfl HC0.out ⟨b1, q1, none⟩ d c1 (PD.map (Value.int .u8)) rfl HLN.out HNW.out HONE.out (by unfold maxLen; omega) (by omega) (by simp) ?_); intro v6 w6 hO6 hG6 _;
       have hb6 := HB6.out.grown hG6 (by simp) (fun q hq => by cases hq; exact Nat.le_refl _);
       rw [Nat.zero_add, List.nil_append] at hO6;
       obtain ⟨a6, c6, rfl, h6a, h6b, hA6⟩ := AnyBytes.of_row HV.out hO6)
    | (go_at_call 89; (refine (KU.out _ _ _ h6a h6b hA6).mono ?_); rintro e w7 ⟨X', Y', a7, n7, c7, rfl, hb7⟩;
       have K7 := Lib.hid (((K3.out.call hb6).call hb7).alloc (.cells #[.int .i64 X', .int .i64 Y', .slice a7 n7 c7] 54));
       clear hb7 hb6))
  obtain ⟨W8, hW8⟩ : ∃ W8, w7.alloc (.cells #[.int .i64 X', .int .i64 Y', .slice a7 n7 c7] 54) = W8 := ⟨_, rfl⟩
  rw [hW8] at K7
  try rw [hW8]
  obtain ⟨v0, v1, v2⟩ := cells3 (K7.out.2 _ (.tail _ (.tail _ (.head _))))
  have eH : ((H : Int) == (H : Int)) = true := by simp
  have K8 := Lib.hid (Kp.below K7.out)
  clear hW8 K7 K3 HK
  go_wp2_with (go_at_call 19; refine (KW.out _ K8.out).mono ?_; rintro e w9 ⟨rfl, hb9⟩)
  go_ret
  exact ⟨rfl, hb9⟩
end Go.Proofs.YtfdkmmllemkogaaGreatDoor

/-
  LightBack: its walk from the given text on.
-/

namespace Go.Proofs.YtfdkmmllemkogaaGreatDoor
open Go.RowKit Go.Shelf
set_option linter.unusedVariables false
set_option linter.unusedSimpArgs false

set_option maxRecDepth 100000 in
set_option maxHeartbeats 12800000 in
theorem back9 (w : World) (W H b o n c : Nat) (ks : List Int) (hk : RightK W H ks) (s P : ByteArray) (hs : s.size ≤ 300) (hP : P = strB (textL W H ks)) (b1 q1 m c1 : Nat) (hmc : m ≤ c1) (hcq : c1 ≤ 9223372036854775807) (ht : TabAt w) (hx : MaxAt w) (wr : World)
    (u3 u4 u6 u7 u8 u9 u11 u12 u13 u14 u15 u16 u17 u18 u19 u20 u21 u22 u23 u24 u25 u26 u27 u28 u29 u30 u31 u32 u33 u34 u35 u36 u37 u38 u39 u40 u41 u42 u43 u44 u45 u46 u47 u48 u49 u50 u51 u52 u53 u54 u55 u56 u57 u58 u59 u60 u61 u62 u63 u64 u65 u66 u67 u68 u69 u70 u71 u72 u73 u74 u75 u76 u77 u78 u79 u80 u81 u82 u83 u84 u85 u86 u87 u88 u89 u90 u91 u92 u93 u94 u95 u96 u97 u98 u99 u100 u101 u102 u103 u104 u105 u106 u107 u108 u109 u110 u111 u112 u113 u114 u115 u116 u117 u118 u119 u120 u121 u122 u123 u124 u125 u126 u127 u128 u129 u130 u131 u132 u133 u134 u135 u136 u137 u138 u139 u140 u141 u142 u143 u144 u145 u146 u147 u148 u149 u150 u151 u152 u153 u154 u155 u156 u157 u158 : Value)
    (hKp : Kp w wr [(w.heap.size, (.cells #[.int .i64 (W : Nat), .int .i64 (H : Nat), .slice (some ⟨b, o, none⟩) n c] 48 (0, 0)))]) (hm : m = 10 + 4 * ks.length) (hb1 : b1 < wr.heap.size) (hr : wr.rangeAt b1 q1 ((packL W H ks).map (Value.int .u8))) :
    Code.wp Tryz.prog (cutB 9) (bodyPost Tryz.prog Tryz.f17 (TruePost w)) ⟨#[.agg #[.int .i64 (W : Nat), .int .i64 (H : Nat), .slice (some ⟨b, o, none⟩) n c], .string s, .pointer (some ⟨w.heap.size, 0, none⟩), u3, u4, .string P, u6, u7, u8, u9, .slice (some ⟨b1, q1, none⟩) m c1, u11, u12, u13, u14, u15, u16, u17, u18, u19, u20, u21, u22, u23, u24, u25, u26, u27, u28, u29, u30, u31, u32, u33, u34, u35, u36, u37, u38, u39, u40, u41, u42, u43, u44, u45, u46, u47, u48, u49, u50, u51, u52, u53, u54, u55, u56, u57, u58, u59, u60, u61, u62, u63, u64, u65, u66, u67, u68, u69, u70, u71, u72, u73, u74, u75, u76, u77, u78, u79, u80, u81, u82, u83, u84, u85, u86, u87, u88, u89, u90, u91, u92, u93, u94, u95, u96, u97, u98, u99, u100, u101, u102, u103, u104, u105, u106, u107, u108, u109, u110, u111, u112, u113, u114, u115, u116, u117, u118, u119, u120, u121, u122, u123, u124, u125, u126, u127, u128, u129, u130, u131, u132, u133, u134, u135, u136, u137, u138, u139, u140, u141, u142, u143, u144, u145, u146, u147, u148, u149, u150, u151, u152, u153, u154, u155, u156, u157, u158], []⟩ wr := by
  conv => arg 2; whnf
  dsimp only
  have KP : Hid (∀ w1 : World, Below w.heap.size w w1 → Calls Tryz.prog 93 #[.string s] w1 (ParseV w1 (linesL s))) := Lib.hid fun w1 h => parse_any s w1 (by omega) (hx.on h)
  have KR : Hid (∀ (w1 : World), Below w.heap.size w w1 → ∀ {idx W' H' : Int} {ls : List Int}, ParseR (linesL s) idx 0 W' H' ls → ∀ {X Y : Int} {a : Option Addr} {n c : Nat}, ResV w1 0 W' H' ls X Y a n c →
      Calls Tryz.prog 92 #[.agg #[.int .i64 X, .int .i64 Y, .slice a n c]] w1 fun e w' => e = .returned (.tuple #[.string s, .int .i64 0]) ∧ Below w1.heap.size w1 w') := Lib.hid fun w1 h _ _ _ _ hq _ _ _ _ _ hres =>
    print_back hq w1 hres (ht.on h)
  have HK := Lib.hid hKp
  have HA := Lib.hid (And.intro hb1 hr)
  have HT := Lib.hid (And.intro ht hx)
  have HRK := Lib.hid hk
  have HP := Lib.hid hP
  have HM := Lib.hid hm
  clear hKp hb1 hr ht hx hk hP hm
  go_upto_if 110 with (go_at_call 93; refine (KP.out _ (Kp.below HK.out)).mono ?_; rintro e w2 ⟨X, Y, a2, n2, c2, idx, err, W', H', ls, rfl, hq, hres, hb2⟩)
  have K3 := Lib.hid ((HK.out.call hb2).alloc (.cells #[.int .i64 X, .int .i64 Y, .slice a2 n2 c2] 54))
  have hb3 : Below wr.heap.size wr (w2.alloc (.cells #[.int .i64 X, .int .i64 Y, .slice a2 n2 c2] 54)) := hb2.alloc hb2.size _
  have hres3 := hres.kept ((Below.refl w2.heap.size w2).alloc (Nat.le_refl _) (.cells #[.int .i64 X, .int .i64 Y, .slice a2 n2 c2] 54))
  obtain ⟨W3, hW3⟩ : ∃ W3, w2.alloc (.cells #[.int .i64 X, .int .i64 Y, .slice a2 n2 c2] 54) = W3 := ⟨_, rfl⟩
  rw [hW3] at K3 hb3 hres3
  try rw [hW3]
  have HB3 := Lib.hid hb3
  have HQ := Lib.hid hq
  have HRES := Lib.hid hres3
  obtain ⟨v0, v1, v2⟩ := cells3 (K3.out.2 _ (.head _))
  clear hb2 hW3 hb3 hres3 hq hres KP HK
  go_cut [17, 18] (fun s17 s18 wc => ∃ W9, W9 = wc ∧ Below W3.heap.size W3 W9)
  case first =>
    by_cases h0 : err = 0
    · subst h0
      have es : (s.toList == s.toList) = true := by simp
      go_wp2_with (go_at_call 92; refine (KR.out _ (Kp.below K3.out) HQ.out HRES.out).mono ?_; rintro e w4 ⟨rfl, hb4⟩)
      go_meet
      exact ⟨_, rfl, hb4⟩
    · have e0 : (err == 0) = false := by simp [h0]
      clear h0
      go_wp2_with fail
      go_meet
      exact ⟨_, rfl, Below.refl _ _⟩
  case rest =>
    rename_i hK
    obtain ⟨W9, rfl, hb9⟩ := hcut
    refine hK _ _ ?_
    clear hK
    have hKp := (K3.out.call hb9).subs (m := [(w.heap.size, (.cells #[.int .i64 (W : Nat), .int .i64 (H : Nat), .slice (some ⟨b, o, none⟩) n c] 48 (0, 0)))]) (fun p hp => .tail _ hp)
    have hbr : Below wr.heap.size wr W9 := HB3.out.trans (hb9.mono HB3.out.size)
    exact back14 w W H b o n c ks HRK.out s P HP.out b1 q1 m c1 hmc hcq HT.out.1 HT.out.2 W9 _ _ _ _ _ _ _ _ _ _ _ _ _ _ _ _ _ _ _ _ _ _ _ _ _ _ _ _ _ _ _ _ _ _ _ _ _ _ _ _ _ _ _ _ _ _ _ _ _ _ _ _ _ _ _ _ _ _ _ _ _ _ _ _ _ _ _ _ _ _ _ _ _ _ _ _ _ _ _ _ _ _ _ _ _ _ _ _ _ _ _ _ _ _ _ _ _ _ _ _ _ _ _ _ _ _ _ _ _ _ _ _ _ _ _ _ _ _ _ _ _ _ _ _ _ _ _ _ _ _ _ _ _ _ _ _ _ _ _ _ _ _ _ _ _ _ _ _ _ _ _ _ _ _ hKp HM.out (Nat.lt_of_lt_of_le HA.out.1 hbr.size) (range_below HA.out.2 hbr HA.out.1)
end Go.Proofs.YtfdkmmllemkogaaGreatDoor
