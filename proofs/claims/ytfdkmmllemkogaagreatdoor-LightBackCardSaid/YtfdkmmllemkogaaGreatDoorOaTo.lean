/-
  LightBack: its walk from what came back on.
-/
import Derived.Test.YtfdkmmllemkogaaGreatDoorOaTl
import Derived.Test.YtfdkmmllemkogaaGreatDoorOaBp
import Derived.Test.YtfdkmmllemkogaaGreatDoorOaSa
import Derived.Test.YtfdkmmllemkogaaGreatDoorOaLm
namespace Go.Proofs.YtfdkmmllemkogaaGreatDoor
open Go.RowKit Go.Shelf
set_option linter.unusedVariables false
set_option linter.unusedSimpArgs false

/-- What came back is the map. -/
theorem same_back {w : World} {W H b o n c g c7 : Nat} {xs : List Nat} {ks : List Int} (hR : RightMap w W H b o n xs ks) (hb : b < w.heap.size) (hv : ResV w 0 W H ks W H (some ⟨g, 0, none⟩) n c7) :
    Calls Tryz.prog 98 #[.agg #[.int .i64 W, .int .i64 H, .slice (some ⟨g, 0, none⟩) n c7], .agg #[.int .i64 W, .int .i64 H, .slice (some ⟨b, o, none⟩) n c]] w fun e w' => e = .returned (.bool true) ∧ Below w.heap.size w w' := by
  obtain ⟨-, -, hl, hn, hs, g', hg', hg, hc⟩ := hv.ok rfl
  cases hg'
  have e : ∀ j, j < n → (ks.map smpOf)[j]?.getD 0 = smpOf (ks[j]?.getD 0) := fun j hj => by rw [List.getElem?_map, List.getElem?_eq_getElem (by omega)]; rfl
  refine sameMap_any W H g 0 c7 b o c n (ks.map smpOf) xs ks hn hg hb (fun j hj => ?_) (fun j hj => hR.cells j hj) (fun j hj => ?_) (fun j hj => hR.smps j hj)
  · rw [e j hj, Nat.zero_add]; exact hc j hj
  · rw [e j hj]; exact smpOf_smp _ (Nat.lt_of_le_of_lt (hs j hj) (by decide))

set_option maxRecDepth 100000 in
set_option maxHeartbeats 12800000 in
theorem back7 (w : World) (W H b o n c : Nat) (ks : List Int) (xs : List Nat) (hk : RightK W H ks) (s P : ByteArray) (hs : s.size ≤ 300) (hP : P = strB (textL W H ks)) (b1 q1 m c1 : Nat) (hmc : m ≤ c1) (hcq : c1 ≤ 9223372036854775807) (ht : TabAt w) (hx : MaxAt w) (wr : World)
    (u3 u4 u14 u15 u16 u17 u18 u19 u20 u21 u22 u23 u24 u25 u26 u27 u28 u29 u30 u31 u32 u33 u34 u35 u36 u37 u38 u39 u40 u41 u42 u43 u44 u45 u46 u47 u48 u49 u50 u51 u52 u53 u54 u55 u56 u57 u58 u59 u60 u61 u62 u63 u64 u65 u66 u67 u68 u69 u70 u71 u72 u73 u74 u75 u76 u77 u78 u79 u80 u81 u82 u83 u84 u85 u86 u87 u88 u89 u90 u91 u92 u93 u94 u95 u96 u97 u98 u99 u100 u101 u102 u103 u104 u105 u106 u107 u108 u109 u110 u111 u112 u113 u114 u115 u116 u117 u118 u119 u120 u121 u122 u123 u124 u125 u126 u127 u128 u129 u130 u131 u132 u133 u134 u135 u136 u137 u138 u139 u140 u141 u142 u143 u144 u145 u146 u147 u148 u149 u150 u151 u152 u153 u154 u155 u156 u157 u158 : Value) (B7 g7 c7 B12 g12 c12 : Nat) (hn : ks.length = n)
    (hR : RightMap wr W H b o n xs ks) (hbo : b < wr.heap.size) (hv7 : ResV wr 0 W H ks W H (some ⟨g7, 0, none⟩) n c7) (hv12 : ResV wr 0 W H ks W H (some ⟨g12, 0, none⟩) n c12)
    (hKp : Kp w wr [(B12, (.cells #[.int .i64 (W : Nat), .int .i64 (H : Nat), .slice (some ⟨g12, 0, none⟩) n c12] 54 (0, 0))), (B7, (.cells #[.int .i64 (W : Nat), .int .i64 (H : Nat), .slice (some ⟨g7, 0, none⟩) n c7] 54 (0, 0))), (w.heap.size, (.cells #[.int .i64 (W : Nat), .int .i64 (H : Nat), .slice (some ⟨b, o, none⟩) n c] 48 (0, 0)))]) (hm : m = 10 + 4 * ks.length) (hb1 : b1 < wr.heap.size) (hr : wr.rangeAt b1 q1 ((packL W H ks).map (Value.int .u8))) :
    Code.wp Tryz.prog (cutB 7) (bodyPost Tryz.prog Tryz.f17 (TruePost w)) ⟨#[.agg #[.int .i64 (W : Nat), .int .i64 (H : Nat), .slice (some ⟨b, o, none⟩) n c], .string s, .pointer (some ⟨w.heap.size, 0, none⟩), u3, u4, .string P, .int .i64 0, .pointer (some ⟨B7, 0, none⟩), .int .i64 0, .int .i64 0, .slice (some ⟨b1, q1, none⟩) m c1, .int .i64 0, .pointer (some ⟨B12, 0, none⟩), .int .i64 0, u14, u15, u16, u17, u18, u19, u20, u21, u22, u23, u24, u25, u26, u27, u28, u29, u30, u31, u32, u33, u34, u35, u36, u37, u38, u39, u40, u41, u42, u43, u44, u45, u46, u47, u48, u49, u50, u51, u52, u53, u54, u55, u56, u57, u58, u59, u60, u61, u62, u63, u64, u65, u66, u67, u68, u69, u70, u71, u72, u73, u74, u75, u76, u77, u78, u79, u80, u81, u82, u83, u84, u85, u86, u87, u88, u89, u90, u91, u92, u93, u94, u95, u96, u97, u98, u99, u100, u101, u102, u103, u104, u105, u106, u107, u108, u109, u110, u111, u112, u113, u114, u115, u116, u117, u118, u119, u120, u121, u122, u123, u124, u125, u126, u127, u128, u129, u130, u131, u132, u133, u134, u135, u136, u137, u138, u139, u140, u141, u142, u143, u144, u145, u146, u147, u148, u149, u150, u151, u152, u153, u154, u155, u156, u157, u158], []⟩ wr := by
  conv => arg 2; whnf
  dsimp only
  have KS7 : Hid (∀ w1 : World, Blw wr.heap.size wr w1 → Calls Tryz.prog 98 #[.agg #[.int .i64 W, .int .i64 H, .slice (some ⟨g7, 0, none⟩) n c7], .agg #[.int .i64 W, .int .i64 H, .slice (some ⟨b, o, none⟩) n c]] w1 fun e w' => e = .returned (.bool true) ∧ Blw wr.heap.size wr w') :=
    Lib.hid fun w1 h => (same_back (hR.below h hbo) (Nat.lt_of_lt_of_le hbo (Below.size h)) (hv7.kept h)).mono fun e w' ⟨h1, h2⟩ => ⟨h1, Below.trans h (h2.mono (Below.size h))⟩
  have KS12 : Hid (∀ w1 : World, Blw wr.heap.size wr w1 → Calls Tryz.prog 98 #[.agg #[.int .i64 W, .int .i64 H, .slice (some ⟨g12, 0, none⟩) n c12], .agg #[.int .i64 W, .int .i64 H, .slice (some ⟨b, o, none⟩) n c]] w1 fun e w' => e = .returned (.bool true) ∧ Blw wr.heap.size wr w') :=
    Lib.hid fun w1 h => (same_back (hR.below h hbo) (Nat.lt_of_lt_of_le hbo (Below.size h)) (hv12.kept h)).mono fun e w' ⟨h1, h2⟩ => ⟨h1, Below.trans h (h2.mono (Below.size h))⟩
  have hps : P.size ≤ 4096 := by rw [hP, strB_size]; exact text_size hk
  have hsl : (splitL P 10).length = H + 2 := by rw [hP]; exact split_text
  obtain ⟨L, hL⟩ : ∃ L, (splitL P 10).length = L := ⟨_, rfl⟩
  have KSP : Hid (∀ w1 : World, Blw wr.heap.size wr w1 → Calls Tryz.prog 102 #[.string P, .int .u8 10] w1 fun e w' => ∃ a c, e = .returned (.slice a L c) ∧ Blw wr.heap.size wr w') := Lib.hid fun w1 h =>
    (refSplit_any P 10 w1 (by omega) (by decide) (by decide)).mono fun e w' ⟨u, he, ho, hb⟩ => by
      obtain ⟨a, c, rfl⟩ := owns_shape ho
      rw [hL] at he
      exact ⟨a, c, he, Below.trans h (hb.mono (Below.size h))⟩
  have hW := hk.wid; have hH := hk.hei; have hf := hk.few
  have e4 : IntKind.i64.wrap (4 * (n : Int)) = 4 * (n : Int) := IntWalk.i64_in _ ⟨by omega, by omega⟩
  have e5 : IntKind.i64.wrap (10 + 4 * (n : Int)) = 10 + 4 * (n : Int) := IntWalk.i64_in _ ⟨by omega, by omega⟩
  have e6 : ((m : Int) != 10 + 4 * (n : Int)) = false := by simp; omega
  have e7 : IntKind.i64.wrap ((H : Int) + 2) = (H : Int) + 2 := IntWalk.i64_in _ ⟨by omega, by omega⟩
  have e8 : ((L : Int) != (H : Int) + 2) = false := by simp; omega
  obtain ⟨p0, p1, p2⟩ := cells3 (hKp.2 _ (.head _))
  obtain ⟨q0, q1', q2⟩ := cells3 (hKp.2 _ (.tail _ (.head _)))
  obtain ⟨r0, r1, r2⟩ := cells3 (hKp.2 _ (.tail _ (.tail _ (.head _))))
  have l12 : B12 < wr.heap.size := lt_of_blk (hKp.2 _ (.head _))
  have l7 : B7 < wr.heap.size := lt_of_blk (hKp.2 _ (.tail _ (.head _)))
  have l2 : w.heap.size < wr.heap.size := lt_of_blk (hKp.2 _ (.tail _ (.tail _ (.head _))))
  have hB : Blw wr.heap.size wr wr := show Below _ _ _ from Below.refl _ _
  have hB' : Blw wr.heap.size wr wr.drew := show Below _ _ _ from (Below.refl wr.heap.size wr).drew
  have KT : Hid (∀ (w1 : World) (x y g' k : Nat), Blw wr.heap.size wr w1 → Calls Tryz.prog 97 #[.agg #[.int .i64 x, .int .i64 y, .slice (some ⟨g', 0, none⟩) n k]] w1 fun e w' => e = .returned (.agg #[.int .i64 x, .int .i64 y, .slice (some ⟨g', 0, none⟩) n k]) ∧ Blw wr.heap.size wr w') := Lib.hid fun w1 x y g' k h =>
    (told_any x y _ n k w1).mono fun e w' ⟨h1, h2⟩ => ⟨h1, Below.trans h (h2.mono (Below.size h))⟩
  have HK := Lib.hid hKp
  have HA := Lib.hid (And.intro hb1 hr)
  have HT := Lib.hid (And.intro ht hx)
  have HRK := Lib.hid hk
  have HP := Lib.hid hP
  have HM := Lib.hid hm
  clear hKp hb1 hr ht hx hk hP hm hR hv7 hv12 hsl hL hW hH hf hps hbo
  go_upto_region 7 with fail
  go_cut [102] (fun s102 wc => s102 = .bool false ∧ Blw wr.heap.size wr wc)
  case first =>
    go_region_held3 (fun w' => w'.cell? ⟨B12, 0, none⟩ = some (.int .i64 W) ∧ w'.cell? ⟨B12, 1, none⟩ = some (.int .i64 H) ∧ w'.cell? ⟨B12, 2, none⟩ = some (.slice (some ⟨g12, 0, none⟩) n c12) ∧ w'.cell? ⟨B7, 0, none⟩ = some (.int .i64 W) ∧ w'.cell? ⟨B7, 1, none⟩ = some (.int .i64 H) ∧ w'.cell? ⟨B7, 2, none⟩ = some (.slice (some ⟨g7, 0, none⟩) n c7) ∧ w'.cell? ⟨w.heap.size, 0, none⟩ = some (.int .i64 W) ∧ w'.cell? ⟨w.heap.size, 1, none⟩ = some (.int .i64 H) ∧ w'.cell? ⟨w.heap.size, 2, none⟩ = some (.slice (some ⟨b, o, none⟩) n c) ∧ Blw wr.heap.size wr w')
      (first
        | (go_split_ands; refine ⟨?_, ?_, ?_, ?_, ?_, ?_, ?_, ?_, ?_, ?_⟩ <;> with_reducible assumption)
        | (go_split_ands; refine ⟨?_, ?_, ?_, ?_, ?_, ?_, ?_, ?_, ?_, ?_⟩ <;> first | (with_reducible assumption) | (rw [Below.cell (w := wr) (by assumption : Blw wr.heap.size wr _) (by assumption)]; assumption))
        | (go_keep; done))
      (first
        | (go_at_call 97; with_reducible refine (KT.out _ _ _ _ _ (by assumption)).mono ?_; rintro e w10 ⟨rfl, hb10⟩)
        | (go_at_call 98; with_reducible refine (KS7.out _ (by assumption)).mono ?_; rintro e w11 ⟨rfl, hb11⟩)
        | (go_at_call 98; with_reducible refine (KS12.out _ (by assumption)).mono ?_; rintro e w12 ⟨rfl, hb12⟩)
        | (go_at_call 102; with_reducible refine (KSP.out _ (by assumption)).mono ?_; rintro e w13 ⟨a13, c13, rfl, hb13⟩))
    all_goals
      go_wp2_with fail
      go_meet
      exact ⟨rfl, by assumption⟩
  case rest =>
    rename_i hK
    obtain ⟨rfl, hb9⟩ := hcut
    refine hK _ _ ?_
    clear hK p0 p1 p2 q0 q1' q2 r0 r1 r2 hB hB' KT KS7 KS12 KSP
    obtain ⟨W9, hW9⟩ : ∃ W9, wc = W9 := ⟨_, rfl⟩
    rw [hW9] at hb9 ⊢
    clear hW9
    go_upto_if 102 with fail
    go_cut [4] (fun s4 w2 => w2 = W9)
    case first =>
      go_wp2_with fail
      go_meet
      rfl
    case rest =>
      rw [hcut]
      rename ∀ (a : Act) (w_1 : World), Code.wp _ _ _ a w_1 → _ => hK
      refine hK _ _ ?_
      have hKp := (HK.out.call hb9).subs (m := [(w.heap.size, (.cells #[.int .i64 (W : Nat), .int .i64 (H : Nat), .slice (some ⟨b, o, none⟩) n c] 48 (0, 0)))]) (fun p hp => .tail _ (.tail _ hp))
      exact back9 w W H b o n c ks HRK.out s P hs HP.out b1 q1 m c1 hmc hcq HT.out.1 HT.out.2 W9 _ _ _ _ _ _ _ _ _ _ _ _ _ _ _ _ _ _ _ _ _ _ _ _ _ _ _ _ _ _ _ _ _ _ _ _ _ _ _ _ _ _ _ _ _ _ _ _ _ _ _ _ _ _ _ _ _ _ _ _ _ _ _ _ _ _ _ _ _ _ _ _ _ _ _ _ _ _ _ _ _ _ _ _ _ _ _ _ _ _ _ _ _ _ _ _ _ _ _ _ _ _ _ _ _ _ _ _ _ _ _ _ _ _ _ _ _ _ _ _ _ _ _ _ _ _ _ _ _ _ _ _ _ _ _ _ _ _ _ _ _ _ _ _ _ _ _ _ _ _ _ _ _ _ hKp HM.out (Nat.lt_of_lt_of_le HA.out.1 (Below.size hb9)) (range_below HA.out.2 hb9 HA.out.1)
end Go.Proofs.YtfdkmmllemkogaaGreatDoor

/-
  The walk of LightBack.
-/

namespace Go.Proofs.YtfdkmmllemkogaaGreatDoor
open Go.RowKit Go.Shelf
set_option linter.unusedVariables false
set_option linter.unusedSimpArgs false

set_option maxRecDepth 100000 in
set_option maxHeartbeats 12800000 in
theorem back_walk (w : World) (W H b o n c : Nat) (xs : List Nat) (ks : List Int) (hM : AnyMap w (some ⟨b, o, none⟩) n c xs) (hR : RightMap w W H b o n xs ks) (hbo : b < w.heap.size) (hk : RightK W H ks) (hn : ks.length = n) (s : ByteArray) (hs : s.size ≤ 300) (ht : TabAt w) (hx : MaxAt w)
    (hsm : ∀ w1 : World, Below w.heap.size w w1 → Calls Tryz.prog 96 #[.agg #[.int .i64 (W : Nat), .int .i64 (H : Nat), .slice (some ⟨b, o, none⟩) n c], .float .f32 1149239296] w1 fun e w' => e = .returned (.bool true) ∧ Below w1.heap.size w1 w')
    (hown : ∀ w1 : World, Below w.heap.size w w1 → Calls Tryz.prog 38 #[.agg #[.int .i64 (W : Nat), .int .i64 (H : Nat), .slice (some ⟨b, o, none⟩) n c]] w1 fun e w' =>
      ∃ g c', e = .returned (.agg #[.int .i64 W, .int .i64 H, .slice (some ⟨g, 0, none⟩) n c']) ∧ RightMap w' W H g 0 n xs ks ∧ g < w'.heap.size ∧ Below w1.heap.size w1 w') :
    Calls Tryz.prog 17 #[.agg #[.int .i64 (W : Nat), .int .i64 (H : Nat), .slice (some ⟨b, o, none⟩) n c], .string s] w (TruePost w) := by
  obtain ⟨i0, hi, hz0, hz1, hz2⟩ := info_parts Tryz.infoByte
  have g1 : ¬ ((300 : Int) < (s.size : Int)) := by omega
  obtain ⟨P, hP⟩ : ∃ P, strB (textL W H ks) = P := ⟨_, rfl⟩
  have KS := Lib.hid hsm
  have KO := Lib.hid hown
  have KP : Hid (∀ (w1 : World) (g c' : Nat), Below w.heap.size w w1 → RightMap w1 W H g 0 n xs ks → g < w1.heap.size → Calls Tryz.prog 92 #[.agg #[.int .i64 W, .int .i64 H, .slice (some ⟨g, 0, none⟩) n c']] w1 fun e w' => e = .returned (.tuple #[.string P, .int .i64 0]) ∧ Below w1.heap.size w1 w') := Lib.hid fun w1 g c' h h1 h2 => by
    have k := print_map (c := c') w1 h1 h2 (ht.on h)
    rw [hP] at k
    exact k
  have KT : Hid (∀ w1 : World, Below w.heap.size w w1 → Calls Tryz.prog 93 #[.string P] w1 fun e w' =>
      ∃ g c', e = .returned (.tuple #[.agg #[.int .i64 W, .int .i64 H, .slice (some ⟨g, 0, none⟩) n c'], .int .i64 0, .int .i64 0]) ∧ ResV w' 0 W H ks W H (some ⟨g, 0, none⟩) n c' ∧ Below w1.heap.size w1 w') := Lib.hid fun w1 h => by
    have k := parse_text hk w1 (hx.on h)
    rw [hP] at k
    exact k.mono fun e w' ⟨X, Y, a, n', c', he, hv, hb⟩ => by
      obtain ⟨e1, e2, e3, -, -, g, e4, -⟩ := hv.ok rfl
      obtain rfl : n' = n := by omega
      subst e1; subst e2; subst e4
      exact ⟨g, c', he, hv, hb⟩
  have KK : Hid (∀ (w1 : World) (g c' : Nat), RightMap w1 W H g 0 n xs ks → g < w1.heap.size → Calls Tryz.prog 88 #[.agg #[.int .i64 W, .int .i64 H, .slice (some ⟨g, 0, none⟩) n c']] w1 fun e w' =>
      ∃ b1 q1 c1, e = .returned (.tuple #[.slice (some ⟨b1, q1, none⟩) (10 + 4 * n) c1, .int .i64 0]) ∧ 10 + 4 * n ≤ c1 ∧ c1 ≤ 9223372036854775807 ∧ b1 < w'.heap.size ∧ w'.rangeAt b1 q1 ((packL W H ks).map (Value.int .u8)) ∧ Below w1.heap.size w1 w') := Lib.hid fun w1 g c' h1 h2 =>
    (pack_any W H g 0 c' n xs ks w1 h1 h2).mono fun e w' ⟨v, he, ho, hb⟩ => by
      have hV := pack_bytes (ks := ks) hk.wid.2 hk.hei.2
      rw [hn] at hV
      obtain ⟨a1, c1, rfl, h3, h4, hA⟩ := AnyBytes.of_row hV ho
      obtain ⟨b1, q1, rfl, h5, h6⟩ := hA.2 0 (by omega)
      exact ⟨b1, q1, c1, he, h3, h4, h5, h6, hb⟩
  have KU : Hid (∀ (w1 : World) (a : Option Addr) (cp : Nat), 10 + 4 * n ≤ cp → cp ≤ 9223372036854775807 → AnyBytes w1 a (10 + 4 * n) (packL W H ks) → Calls Tryz.prog 89 #[.slice a (10 + 4 * n) cp] w1 fun e w' =>
      ∃ g c', e = .returned (.tuple #[.agg #[.int .i64 W, .int .i64 H, .slice (some ⟨g, 0, none⟩) n c'], .int .i64 0]) ∧ ResV w' 0 W H ks W H (some ⟨g, 0, none⟩) n c' ∧ Below w1.heap.size w1 w') := Lib.hid fun w1 a cp h1 h2 hA =>
    (unpack_text hk a (10 + 4 * n) cp h1 h2 w1 hA).mono fun e w' ⟨X, Y, a, n', c', he, hv, hb⟩ => by
      obtain ⟨e1, e2, e3, -, -, g, e4, -⟩ := hv.ok rfl
      obtain rfl : n' = n := by omega
      subst e1; subst e2; subst e4
      exact ⟨g, c', he, hv, hb⟩
  have hV := pack_bytes (ks := ks) hk.wid.2 hk.hei.2
  rw [hn] at hV
  have HV := Lib.hid hV
  have hn2 : n ≤ 160 := by rw [← hn]; exact hk.few
  have hln : ((packL W H ks).map (Value.int .u8)).length = (10 + 4 * n) * 1 := by rw [List.length_map, hV.1, Nat.mul_one]
  have hone : ∀ u ∈ (packL W H ks).map (Value.int .u8), u.oneCell' = true := by
    intro u hu; obtain ⟨x, _, rfl⟩ := List.mem_map.1 hu; rfl
  have HLN := Lib.hid hln
  have HONE := Lib.hid hone
  have HALL := Lib.hid (And.intro hk (And.intro hP.symm (And.intro ht (And.intro hx (And.intro hn (And.intro hR hbo))))))
  obtain ⟨PL, hPL⟩ : ∃ L, packL W H ks = L := ⟨_, rfl⟩
  rw [hPL] at KK KU HV HLN HONE
  have HPL := Lib.hid hPL
  have K0 : Kp w (w.alloc (.cells #[.int .i64 (W : Nat), .int .i64 (H : Nat), .slice (some ⟨b, o, none⟩) n c] 48)) [(w.heap.size, (.cells #[.int .i64 (W : Nat), .int .i64 (H : Nat), .slice (some ⟨b, o, none⟩) n c] 48 (0, 0)))] := (Kp.none w).alloc _
  obtain ⟨W0, hW0⟩ : ∃ W0, w.alloc (.cells #[.int .i64 (W : Nat), .int .i64 (H : Nat), .slice (some ⟨b, o, none⟩) n c] 48) = W0 := ⟨_, rfl⟩
  rw [hW0] at K0
  have HK0 := Lib.hid K0
  obtain ⟨z0, z1, z2⟩ := cells3 (K0.2 _ (.head _))
  clear hsm hown hP hM hR hbo hk hs ht hx hV hln hone hPL K0 hn
  go_enter Tryz.func17, Tryz.ntmps17
  go_upto_region 1 with fail
  try rw [hW0]
  clear hW0
  go_upto_region 4 with (first
    | (go_at_call 96; with_reducible refine (KS.out _ (Kp.below HK0.out)).mono ?_; rintro e w1 ⟨rfl, hb1⟩;
       have K1 := Lib.hid (HK0.out.call hb1); clear hb1; obtain ⟨y0, y1, y2⟩ := cells3 (K1.out.2 _ (.head _)))
    | (go_at_call 38; with_reducible refine (KO.out _ (Kp.below K1.out)).mono ?_; rintro e w2 ⟨g, c', rfl, hm2, hg2, hb2⟩;
       have K2 := Lib.hid (K1.out.call hb2); have HM2 := Lib.hid (And.intro hm2 hg2); clear hb2 hm2 hg2)
    | (go_at_call 92; with_reducible refine (KP.out _ _ _ (Kp.below K2.out) HM2.out.1 HM2.out.2).mono ?_; rintro e w3 ⟨rfl, hb3⟩;
       have K3 := Lib.hid (K2.out.call hb3); clear hb3))
  clear HK0 K1 K2 HM2 KS KP z0 z1 z2 y0 y1 y2
  go_upto_region 5 with (go_at_call 93; refine (KT.out _ (Kp.below K3.out)).mono ?_; rintro e w4 ⟨g7, c7, rfl, hv4, hb4⟩)
  have K5 := Lib.hid ((K3.out.call hb4).alloc (.cells #[.int .i64 (W : Nat), .int .i64 (H : Nat), .slice (some ⟨g7, 0, none⟩) n c7] 54))
  have hv5 := hv4.kept ((Below.refl w4.heap.size w4).alloc (Nat.le_refl _) (.cells #[.int .i64 (W : Nat), .int .i64 (H : Nat), .slice (some ⟨g7, 0, none⟩) n c7] 54))
  obtain ⟨W5, hW5⟩ : ∃ W5, w4.alloc (.cells #[.int .i64 (W : Nat), .int .i64 (H : Nat), .slice (some ⟨g7, 0, none⟩) n c7] 54) = W5 := ⟨_, rfl⟩
  obtain ⟨B7, hB7⟩ : ∃ B7, w4.heap.size = B7 := ⟨_, rfl⟩
  rw [hW5] at K5 hv5
  rw [hB7] at K5
  try rw [hW5]
  try rw [hB7]
  have HV5 := Lib.hid hv5
  obtain ⟨z0, z1, z2⟩ := cells3 (K5.out.2 _ (.tail _ (.head _)))
  clear hb4 hv4 hv5 hW5 hB7 K3 KT
  go_upto_region 6 with (first
    | (go_at_call 38; with_reducible refine (KO.out _ (Kp.below K5.out)).mono ?_; rintro e w6 ⟨g, c', rfl, hm6, hg6, hb6⟩;
       have K6 := Lib.hid (K5.out.call hb6); have HM6 := Lib.hid (And.intro hm6 hg6); have HV6 := Lib.hid (HV5.out.kept hb6); clear hb6 hm6 hg6)
    | (go_at_call 88; with_reducible refine (KK.out _ _ _ HM6.out.1 HM6.out.2).mono ?_; rintro e w7 ⟨b1, q1, c1, rfl, hc1, hq1, hb1, hr1, hb7⟩;
       have K7 := Lib.hid (K6.out.call hb7); have HV7 := Lib.hid (HV6.out.kept hb7); clear hb7))
  clear z0 z1 z2 K5 K6 HV5 HV6 HM6 KO KK
  have hC0 : (w7.alloc (.cells #[] 5)).ownsRow w7.heap.size 5 1 (.slice (some ⟨w7.heap.size, 0, none⟩) 0 0) 0 [] := by
    have h := World.ownsRow_made (base := w7.heap.size) (e := 5) (size := 1) w7 #[] 0 (by simp) (by unfold maxLen; omega) rfl
    simpa using h
  have hB8 : Below w7.heap.size w7 (w7.alloc (.cells #[] 5)) := (Below.refl w7.heap.size w7).alloc (Nat.le_refl _) _
  have hnw : ∀ j u, (PL.map (Value.int .u8))[j]? = some u → (w7.alloc (.cells #[] 5)).cell? ((⟨b1, q1, none⟩ : Addr).add j) = some u := by
    intro j u hu
    rw [Addr.add_mid]
    exact (range_below hr1 hB8 hb1) j u hu
  have HC0 := Lib.hid hC0
  have HB8 := Lib.hid hB8
  have HNW := Lib.hid hnw
  have HR1 := Lib.hid (And.intro hb1 hr1)
  clear hC0 hB8 hnw hb1 hr1
  go_cut [12, 13] (fun s12 s13 wc => ∃ B12 g12 c12, s12 = .pointer (some ⟨B12, 0, none⟩) ∧ s13 = .int .i64 0 ∧ ∃ W9, W9 = wc ∧ ResV W9 0 W H ks W H (some ⟨g12, 0, none⟩) n c12 ∧ Below w7.heap.size w7 W9 ∧ W9.heap[B12]? = some (.cells #[.int .i64 (W : Nat), .int .i64 (H : Nat), .slice (some ⟨g12, 0, none⟩) n c12] 54 (0, 0)))
  case first =>
    go_wp2_with (first
      | (at_builtin; (refine wpList_append_own _ rfl (.tmp 52) (.tmp 53) 109 rfl w7.heap.size 5 i0 (.int .u8 0) 1 1 Tryz.underlying109 hi hz0 hz1 hz2 rfl (by decide) (.slice (some ⟨w7.heap.size, 0, none⟩) 0 0) 0 [] rfl HC0.out ⟨b1, q1, none⟩ (10 + 4 * n) c1 (PL.map (Value.int .u8)) rfl HLN.out HNW.out HONE.out (by unfold maxLen; omega) (by omega) (by simp) ?_); intro v8 w8 hO8 hG8 _;
         have hb8 := HB8.out.grown hG8 (by simp) (fun q hq => by cases hq; exact Nat.le_refl _);
         rw [Nat.zero_add, List.nil_append] at hO8;
         obtain ⟨a8, c8, rfl, h8a, h8b, hA8⟩ := AnyBytes.of_row HV.out hO8)
      | (go_at_call 89; (refine (KU.out _ _ _ h8a h8b hA8).mono ?_); rintro e w9 ⟨g12, c12, rfl, hv9, hb9⟩;
         have HB9 := Lib.hid (hb8.trans (hb9.mono hb8.size)); have HV9 := Lib.hid hv9; clear hb9 hv9 hb8))
    go_meet
    have hba : Below w9.heap.size w9 (w9.alloc (.cells #[.int .i64 (W : Nat), .int .i64 (H : Nat), .slice (some ⟨g12, 0, none⟩) n c12] 54)) := (Below.refl _ w9).alloc (Nat.le_refl _) _
    exact ⟨_, g12, c12, rfl, rfl, _, rfl, HV9.out.kept hba, HB9.out.trans (hba.mono HB9.out.size), blk_alloc_new _ _⟩
  case rest =>
    rename_i hK
    obtain ⟨B12, g12, c12, rfl, rfl, W9, rfl, hv12, hb9, hk12⟩ := hcut
    refine hK _ _ ?_
    have hKp0 := K7.out.call hb9
    have hKp : Kp w W9 [(B12, (.cells #[.int .i64 (W : Nat), .int .i64 (H : Nat), .slice (some ⟨g12, 0, none⟩) n c12] 54 (0, 0))), (B7, (.cells #[.int .i64 (W : Nat), .int .i64 (H : Nat), .slice (some ⟨g7, 0, none⟩) n c7] 54 (0, 0))), (w.heap.size, (.cells #[.int .i64 (W : Nat), .int .i64 (H : Nat), .slice (some ⟨b, o, none⟩) n c] 48 (0, 0)))] := ⟨hKp0.1, fun p hp => by
      rcases List.mem_cons.1 hp with rfl | hp
      · exact hk12
      · exact hKp0.2 p hp⟩
    have hbw := Kp.below hKp
    exact back7 w W H b o n c ks xs HALL.out.1 s P (by omega) HALL.out.2.1 b1 q1 (10 + 4 * n) c1 hc1 hq1 HALL.out.2.2.1 HALL.out.2.2.2.1 W9 _ _ _ _ _ _ _ _ _ _ _ _ _ _ _ _ _ _ _ _ _ _ _ _ _ _ _ _ _ _ _ _ _ _ _ _ _ _ _ _ _ _ _ _ _ _ _ _ _ _ _ _ _ _ _ _ _ _ _ _ _ _ _ _ _ _ _ _ _ _ _ _ _ _ _ _ _ _ _ _ _ _ _ _ _ _ _ _ _ _ _ _ _ _ _ _ _ _ _ _ _ _ _ _ _ _ _ _ _ _ _ _ _ _ _ _ _ _ _ _ _ _ _ _ _ _ _ _ _ _ _ _ _ _ _ _ _ _ _ _ _ _ _ _ _ _ _ B7 g7 c7 B12 g12 c12 HALL.out.2.2.2.2.1 (HALL.out.2.2.2.2.2.1.below hbw HALL.out.2.2.2.2.2.2) (Nat.lt_of_lt_of_le HALL.out.2.2.2.2.2.2 hbw.size) (HV7.out.kept hb9) hv12 hKp (by rw [HALL.out.2.2.2.2.1]) (Nat.lt_of_lt_of_le HR1.out.1 hb9.size) (by rw [HPL.out]; exact range_below HR1.out.2 hb9 HR1.out.1)
end Go.Proofs.YtfdkmmllemkogaaGreatDoor

/-
  LightBack returns true for all arguments.
-/

namespace Go.Proofs.YtfdkmmllemkogaaGreatDoor
open Go.RowKit Go.Shelf
set_option linter.unusedVariables false
set_option linter.unusedSimpArgs false
set_option maxRecDepth 100000

theorem smpB : Smp 1149239296 ((16384 : Nat) : Int) := by
  rw [show (1149239296 : Nat) = smpOf ((16384 : Nat) : Int) from by decide +kernel]; exact smpOf_smp _ (by decide)
theorem smpNB : Smp 3296722944 (-((16384 : Nat) : Int)) := by
  rw [show (3296722944 : Nat) = smpOf (-((16384 : Nat) : Int)) from by decide +kernel]; exact smpOf_smp _ (by decide)
theorem negB : ∀ w : World, (Op.unary .neg (.float .f32 1149239296)).run Tryz.prog w = .ok (.float .f32 3296722944) w := fun w => by kernel_rfl

set_option maxHeartbeats 3200000 in
theorem back_all (w : World) (W H : Int) (a : Option Addr) (n c : Nat) (xs : List Nat) (s : ByteArray) (ht : TabAt w) (hx : MaxAt w) (hM : AnyMap w a n c xs) (hsz : s.size ≤ 9223372036854775807) :
    Calls Tryz.prog 17 #[.agg #[.int .i64 W, .int .i64 H, .slice a n c], .string s] w (TruePost w) := by
  have KS : ∀ w1 : World, Below w.heap.size w w1 → Calls Tryz.prog 96 #[.agg #[.int .i64 W, .int .i64 H, .slice a n c], .float .f32 1149239296] w1 fun e w' => e = .returned (.bool (smallB W H n xs 16384)) ∧ Below w1.heap.size w1 w' := fun w1 h =>
    small_all 1149239296 3296722944 16384 smpB smpNB negB W H a n c xs w1 (hM.below h (Nat.le_refl _))
  have KW : Hid (∀ w1 : World, Below w.heap.size w w1 → Calls Tryz.prog 19 #[] w1 fun e w' => e = .returned (.bool true) ∧ Below w.heap.size w w') :=
    Lib.hid fun w1 h => (awake_any w1 (ht.on h)).mono fun e w' ⟨he, hb⟩ => ⟨he, h.trans (hb.mono h.size)⟩
  have hB0 : Below w.heap.size w (w.alloc (.cells #[.int .i64 W, .int .i64 H, .slice a n c] 48)) := (Below.refl _ w).alloc (Nat.le_refl _) _
  have HB0 := Lib.hid hB0
  by_cases hb : smallB W H n xs 16384 = true
  · rw [hb] at KS
    obtain ⟨h0, h1, h2⟩ := of_decide_eq_true hb
    by_cases hs : s.size ≤ 300
    · obtain ⟨b, o, rfl, hbo, hR⟩ := hM.rightK h0
      obtain ⟨Wn, rfl⟩ : ∃ k : Nat, W = k := ⟨W.toNat, by have := hR.wid; omega⟩
      obtain ⟨Hn, rfl⟩ : ∃ k : Nat, H = k := ⟨H.toNat, by have := hR.hei; omega⟩
      have hl : (xs.map kOf).length = n := by rw [List.length_map, hM.len]
      have hk : RightK Wn Hn (xs.map kOf) := ⟨by have := hR.wid; omega, by have := hR.hei; omega, by have := hR.area; rw [hl]; exact_mod_cast this, by omega, fun k hk => by
        obtain ⟨j, hj⟩ := List.getElem?_of_mem hk
        have hlt := (List.getElem?_eq_some_iff.1 hj).1
        have := hR.sizes j (by omega)
        rwa [hj] at this⟩
      refine back_walk w Wn Hn b o n c xs (xs.map kOf) hM hR hbo hk hl s hs ht hx KS (fun w1 h => ?_)
      refine (lawOwn_all Wn Hn (some ⟨b, o, none⟩) n c xs (by omega) (hM.below h (Nat.le_refl _))).mono fun e w' h3 => ?_
      obtain ⟨g, c', he, hA, hbw⟩ := h3.map hM.len hM.words
      obtain ⟨b', o', hg, hb', hr'⟩ := hA.rightK h0
      cases hg
      exact ⟨g, c', he, hr', hb', hbw⟩
    · have g1 : (300 : Int) < (s.size : Int) := by omega
      have HS := Lib.hid KS
      clear hB0 KS hb hM ht hx h0 h1 h2 hs
      go_enter Tryz.func17, Tryz.ntmps17
      go_wp2_with (first
        | (go_at_call 96; refine (HS.out _ HB0.out).mono ?_; rintro e w1 ⟨rfl, hb1⟩; have HB1 := Lib.hid (HB0.out.trans (hb1.mono HB0.out.size)); clear hb1)
        | (go_at_call 19; refine (KW.out _ HB1.out).mono ?_; rintro e w2 ⟨rfl, hb2⟩))
      go_ret
      exact ⟨rfl, hb2⟩
  · rw [Bool.eq_false_iff.2 hb] at KS
    have HS := Lib.hid KS
    clear hB0 KS hb hM ht hx
    go_enter Tryz.func17, Tryz.ntmps17
    go_wp2_with (first
      | (go_at_call 96; refine (HS.out _ HB0.out).mono ?_; rintro e w1 ⟨rfl, hb1⟩; have HB1 := Lib.hid (HB0.out.trans (hb1.mono HB0.out.size)); clear hb1)
      | (go_at_call 19; refine (KW.out _ HB1.out).mono ?_; rintro e w2 ⟨rfl, hb2⟩))
    go_ret
    exact ⟨rfl, hb2⟩
end Go.Proofs.YtfdkmmllemkogaaGreatDoor
