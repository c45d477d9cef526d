/-
  The walk of LightStreams.
-/
import Derived.Test.YthmaoeajbmfmaaaGreatDoorDVk
import Derived.Deep.CutBlock
import Derived.Deep.DeepCutAuto
namespace Go.Proofs.YthmaoeajbmfmaaaGreatDoor
open Go.RowKit Go.Shelf
set_option linter.unusedVariables false
set_option linter.unusedSimpArgs false

set_option maxRecDepth 100000 in
set_option maxHeartbeats 12800000 in
theorem streams_walk (w : World) (W H : Int) (a : Option Addr) (n c : Nat) (xs : List Nat) (hM : AnyMap w a n c xs) (hs : n ≤ 160 ∨ n = 4097) (S : List Int) (sa : Option Addr) (sn sc : Nat) (hn : sn ≤ 400 ∨ sn = 400001) (hcp : sn ≤ sc) (hcq : sc ≤ 9223372036854775807) (hA : AnyBytes w sa sn S) (ht : TabAt w) :
    Calls Tryz.prog 5 #[.agg #[.int .i64 W, .int .i64 H, .slice a n c], .slice sa sn sc] w (TruePost w) := by
  obtain ⟨i0, hi, hz0, hz1, hz2⟩ := info_parts Tryz.infoByte
  obtain ⟨q, UW, UH, UL, kU, kV⟩ := unpacks S sn hn
  have KU := Lib.hid kU
  have KV := Lib.hid (kV sa sc hcp hcq)
  have HA := Lib.hid hA
  have HM := Lib.hid hM
  have KW : Hid (∀ w1 : World, Below w.heap.size w w1 → Calls Tryz.prog 18 #[] w1 fun e w' => e = .returned (.bool true) ∧ Below w.heap.size w w') :=
    Lib.hid fun w1 h => (awake_any w1 (ht.on h)).mono fun e w' ⟨he, hb⟩ => ⟨he, h.trans (hb.mono h.size)⟩
  have hsb : (decide (n ≤ 160) || decide (n = 4097)) = true := by simp; exact hs
  have hn1 : n ≤ 100000 := by omega
  have KS : Hid (∀ w1 : World, Calls Tryz.prog 28 #[.agg #[.int .i64 W, .int .i64 H, .slice a n c]] w1 fun e w' => e = .returned (.bool true) ∧ Below w1.heap.size w1 w') := Lib.hid fun w1 => by
    have h := shortMap_all W H a n c w1
    rw [hsb] at h
    exact h
  obtain ⟨r, hr⟩ : ∃ r, mapErr W H n xs = r := ⟨_, rfl⟩
  obtain ⟨PS, hPS⟩ : ∃ P, packOf W H n xs = P := ⟨_, rfl⟩
  have KO : Hid (∀ w1 : World, Below w.heap.size w w1 → Calls Tryz.prog 30 #[.agg #[.int .i64 W, .int .i64 H, .slice a n c]] w1 fun e w' =>
      ∃ g c', e = .returned (.agg #[.int .i64 W, .int .i64 H, .slice (some ⟨g, 0, none⟩) n c']) ∧ AnyMap w' (some ⟨g, 0, none⟩) n c' xs ∧ Below w1.heap.size w1 w') := Lib.hid fun w1 h =>
    (lawOwn_all W H a n c xs hn1 (hM.below h (Nat.le_refl _))).mono fun e w' h1 => h1.map hM.len hM.words
  have KP : Hid (∀ (w1 : World) (g c' : Nat), AnyMap w1 (some ⟨g, 0, none⟩) n c' xs → Calls Tryz.prog 29 #[.agg #[.int .i64 W, .int .i64 H, .slice (some ⟨g, 0, none⟩) n c']] w1 fun e w' =>
      ∃ a1 n1 c1, e = .returned (.tuple #[.slice a1 n1 c1, .int .i64 r]) ∧ BytesIn w' a1 n1 PS ∧ Below w1.heap.size w1 w') := Lib.hid fun w1 g c' h => by
    have k := pack_all W H (some ⟨g, 0, none⟩) n c' xs w1 h
    rw [hr, hPS] at k
    exact k
  have KC : Hid (∀ w1 : World, Below w.heap.size w w1 → Calls Tryz.prog 32 #[.agg #[.int .i64 W, .int .i64 H, .slice a n c]] w1 fun e w' => e = .returned (.int .i64 r) ∧ Below w1.heap.size w1 w') := Lib.hid fun w1 h => by
    have k := refCheckMap_map W H a n c xs w1 (hM.below h (Nat.le_refl _))
    rw [hr] at k
    exact k
  have KX : Hid (r = 0 → ∀ w1 : World, Below w.heap.size w w1 → Calls Tryz.prog 33 #[.agg #[.int .i64 W, .int .i64 H, .slice a n c]] w1 fun e w' =>
      ∃ a1 n1 c1, e = .returned (.slice a1 n1 c1) ∧ BytesIn w' a1 n1 PS ∧ Below w1.heap.size w1 w') := Lib.hid fun h0 w1 h => by
    have k := refPack_all W H a n c xs (hr.trans h0) w1 (hM.below h (Nat.le_refl _))
    rw [hPS] at k
    exact k
  have KY : Hid (r ≠ 0 → PS = []) := Lib.hid fun h => by rw [← hPS]; unfold packOf; rw [if_neg (by rw [hr]; exact h)]
  have hg : (¬ ((400 : Int) < (sn : Int))) ∨ ((400 : Int) < (sn : Int) ∧ ((sn : Int) != 400001) = false) := by
    rcases hn with h | h
    · exact .inl (by omega)
    · exact .inr ⟨by omega, by simp; omega⟩
  have HSN : sn ≤ 400001 := by omega
  have K0 : Kp w (w.alloc (.cells #[.int .i64 W, .int .i64 H, .slice a n c] 66)) [(w.heap.size, .cells #[.int .i64 W, .int .i64 H, .slice a n c] 66)] :=
    (Kp.none w).alloc _
  obtain ⟨W0, hW0⟩ : ∃ W0, w.alloc (.cells #[.int .i64 W, .int .i64 H, .slice a n c] 66) = W0 := ⟨_, rfl⟩
  rw [hW0] at K0
  have HK0 := Lib.hid K0
  clear kU kV hA hM ht hsb hr hPS hn K0 hs hcp hcq
  have HAE : Hid (∀ w1 : World, Below w.heap.size w w1 → AnyBytes w1 sa sn S) := Lib.hid fun w1 h => HA.out.kept h
  obtain ⟨z0, z1, z2⟩ := row_cells (HK0.out.2 _ (.head _))
  go_enter Tryz.func5, Tryz.ntmps5
  go_upto_region 1 with fail
  try rw [hW0]
  clear hW0
  rcases hg with g1 | ⟨g1, g2⟩
  all_goals
    go_upto_region 4 with (first
      | (go_at_call 28; with_reducible refine (KS.out _).mono ?_; rintro e w1 ⟨rfl, hb1⟩;
         have K1 := Lib.hid (HK0.out.call hb1); clear hb1;
         obtain ⟨y0, y1, y2⟩ := row_cells (K1.out.2 _ (.head _)))
      | (go_at_call 30; with_reducible refine (KO.out _ (Kp.below K1.out)).mono ?_; rintro e w2 ⟨g, c', rfl, hm2, hb2⟩;
         have K2 := Lib.hid (K1.out.call hb2); have HM2 := Lib.hid hm2; clear hb2 hm2)
      | (go_at_call 29; with_reducible refine (KP.out _ _ _ HM2.out).mono ?_; rintro e w3 ⟨a1, n1, c1, rfl, hp3, hb3⟩;
         have K3 := Lib.hid (K2.out.call hb3); have HP3 := Lib.hid hp3; clear hb3 hp3))
    obtain ⟨l3, hl3⟩ : ∃ l, [(w.heap.size, Obj.cells #[.int .i64 W, .int .i64 H, .slice a n c] 66 (0, 0))] = l := ⟨_, rfl⟩
    have hk3 := K3.out
    rw [hl3] at hk3
    have HL3 := Lib.hid hl3
    have HK3 := Lib.hid hk3
    have HA3 := Lib.hid (HAE.out _ (Kp.below hk3))
    clear hl3 hk3 K1 K2 K3 HK0 KS KO KP HM2 z0 z1 z2 y0 y1 y2
    go_cut [7, 8] (fun s7 s8 wc => ∃ B7 X Y a2 n2 c2, s7 = .pointer (some ⟨B7, 0, none⟩) ∧ s8 = .int .i64 q ∧ ∃ W6, W6 = wc ∧ ResV W6 q UW UH UL X Y a2 n2 c2 ∧ BytesIn W6 a1 n1 PS ∧ Kp w W6 ((B7, .cells #[.int .i64 X, .int .i64 Y, .slice a2 n2 c2] 70 (0, 0)) :: l3))
    case first =>
      have hC0 : (w3.alloc (.cells #[] 5)).ownsRow w3.heap.size 5 1 (.slice (some ⟨w3.heap.size, 0, none⟩) 0 0) 0 [] := by
        have h := World.ownsRow_made (base := w3.heap.size) (e := 5) (size := 1) w3 #[] 0 (by simp) (by unfold maxLen; omega) rfl
        simpa using h
      have HC0 := Lib.hid hC0
      have hB6 : Below w3.heap.size w3 (w3.alloc (.cells #[] 5)) := (Below.refl w3.heap.size w3).alloc (Nat.le_refl _) _
      have HB6 := Lib.hid hB6
      clear hC0 hB6
      cases sa with
      | none =>
        obtain rfl : sn = 0 := by
          rcases Nat.eq_zero_or_pos sn with h | h
          · exact h
          · obtain ⟨b, q', e, _⟩ := HA3.out.2 0 h
            exact absurd e (by simp)
        have hAB : AnyBytes (w3.alloc (.cells #[] 5)) (some ⟨w3.heap.size, 0, none⟩) 0 S := ⟨HA3.out.1, fun j hj => absurd hj (Nat.not_lt_zero j)⟩
        have HAB := Lib.hid hAB
        clear hAB
        go_wp2_with (first
          | (at_builtin; (refine wpList_append_own_none rfl (.tmp 34) (.tmp 35) 45 rfl w3.heap.size 5 i0 1 Tryz.underlying45 hi (.slice (some ⟨w3.heap.size, 0, none⟩) 0 0) 0 [] rfl HC0.out rfl ?_))
          | (go_at_call 31; (refine (KU.out _ _ (Nat.le_refl _) (by omega) _ HAB.out).mono ?_); rintro e w7 ⟨X, Y, a2, n2, c2, rfl, hR, hb7⟩;
             have K7 := Lib.hid (((HK3.out.call HB6.out).call hb7).alloc (.cells #[.int .i64 0, .int .i64 0, .slice none 0 0] 70));
             have K8 := Lib.hid (((HK3.out.call HB6.out).call hb7).stored #[.int .i64 0, .int .i64 0, .slice none 0 0] #[.int .i64 X, .int .i64 Y, .slice a2 n2 c2] 70);
             have HR7 := Lib.hid hR; have HB7 := Lib.hid hb7; clear hR hb7)
          | (refine wpList_store_row rfl 70 (.tmp 7) (.tmp 38) rfl w7.heap.size rfl #[.int .i64 X, .int .i64 Y, .slice a2 n2 c2] rfl 70 #[.int .i64 0, .int .i64 0, .slice none 0 0] (K7.out.2 _ (.head _)) (by rfl) (by kernel_rfl) (by simp [Value.oneCell']) ?_))
        go_meet
        have hst := ((Kp.none w7).stored #[.int .i64 0, .int .i64 0, .slice none 0 0] #[.int .i64 X, .int .i64 Y, .slice a2 n2 c2] 70).1
        exact ⟨_, X, Y, a2, n2, c2, rfl, rfl, _, rfl, HR7.out.kept hst, ((HP3.out.kept HB6.out).kept HB7.out).kept hst, K8.out⟩
      | some ad =>
        have hln : (S.map (Value.int .u8)).length = sn * 1 := by rw [List.length_map, HA3.out.1.1, Nat.mul_one]
        have hnw : ∀ j u, (S.map (Value.int .u8))[j]? = some u → (w3.alloc (.cells #[] 5)).cell? (ad.add j) = some u := by
          intro j u hu
          have hj : j < sn := by have := (List.getElem?_eq_some_iff.1 hu).1; rw [hln] at this; omega
          obtain ⟨b, q', e, hb, hc⟩ := HA3.out.2 j hj
          cases e
          rw [Addr.add_mid]
          rw [HB6.out.cell (by exact hb)]
          exact hc j u hu
        have HLN := Lib.hid hln
        have HNW := Lib.hid hnw
        clear hln hnw
        go_wp2_with (first
          | (at_builtin; (refine wpList_append_own _ rfl (.tmp 34) (.tmp 35) 45 rfl w3.heap.size 5 i0 (.int .u8 0) 1 1 Tryz.underlying45 hi hz0 hz1 hz2 rfl (by decide) (.slice (some ⟨w3.heap.size, 0, none⟩) 0 0) 0 [] rfl HC0.out ad sn sc (S.map (Value.int .u8)) rfl HLN.out HNW.out (one_bytes S) (by unfold maxLen; omega) (by omega) (by simp) ?_); intro v6 w6 hO6 hG6 _;
             have hb6 := HB6.out.grown hG6 (by simp) (fun q hq => by cases hq; exact Nat.le_refl _);
             rw [Nat.zero_add, List.nil_append] at hO6;
             obtain ⟨a6, c6, rfl, h6a, h6b, hA6⟩ := AnyBytes.of_row HA3.out.1 hO6)
          | (go_at_call 31; (refine (KU.out _ _ h6a h6b _ hA6).mono ?_); rintro e w7 ⟨X, Y, a2, n2, c2, rfl, hR, hb7⟩;
             have K7 := Lib.hid (((HK3.out.call hb6).call hb7).alloc (.cells #[.int .i64 0, .int .i64 0, .slice none 0 0] 70));
             have K8 := Lib.hid (((HK3.out.call hb6).call hb7).stored #[.int .i64 0, .int .i64 0, .slice none 0 0] #[.int .i64 X, .int .i64 Y, .slice a2 n2 c2] 70);
             have HR7 := Lib.hid hR; have HB7 := Lib.hid hb7; have HB66 := Lib.hid hb6; clear hR hb7 hb6)
          | (refine wpList_store_row rfl 70 (.tmp 7) (.tmp 38) rfl w7.heap.size rfl #[.int .i64 X, .int .i64 Y, .slice a2 n2 c2] rfl 70 #[.int .i64 0, .int .i64 0, .slice none 0 0] (K7.out.2 _ (.head _)) (by rfl) (by kernel_rfl) (by simp [Value.oneCell']) ?_))
        go_meet
        have hst := ((Kp.none w7).stored #[.int .i64 0, .int .i64 0, .slice none 0 0] #[.int .i64 X, .int .i64 Y, .slice a2 n2 c2] 70).1
        exact ⟨_, X, Y, a2, n2, c2, rfl, rfl, _, rfl, HR7.out.kept hst, ((HP3.out.kept HB66.out).kept HB7.out).kept hst, K8.out⟩
    case rest =>
      obtain ⟨B7, X, Y, a2, n2, c2, rfl, rfl, W6, rfl, hR, hP, hK⟩ := hcut
      rw [← HL3.out] at hK
      have HK := Lib.hid hK
      have HR := Lib.hid hR
      have HP := Lib.hid hP
      clear hK hR hP HK3 HL3 HA3 HP3 KU
      obtain ⟨x0, x1, x2⟩ := row_cells (HK.out.2 _ (.tail _ (.head _)))
      go_upto_if 43 with (go_at_call 32; with_reducible refine (KC.out _ (Kp.below HK.out)).mono ?_; rintro e w8 ⟨rfl, hb8⟩)
      have HB8 := Lib.hid (Kp.below (HK.out.call hb8))
      have K8 := Lib.hid (HK.out.call hb8)
      have R8 := Lib.hid (HR.out.kept hb8)
      have P8 := Lib.hid (HP.out.kept hb8)
      obtain ⟨v0, v1, v2⟩ := row_cells (K8.out.2 _ (.tail _ (.head _)))
      clear hb8 HK HR HP KC x0 x1 x2
      go_cut [10] (fun s10 wc => ∃ a4 n4 c4, s10 = .slice a4 n4 c4 ∧ ∃ W9, W9 = wc ∧ BytesIn W9 a4 n4 PS ∧ Below w8.heap.size w8 W9)
      case first =>
        by_cases h0 : r = 0
        · have KX0 := Lib.hid (KX.out h0)
          have e0 : (r == 0) = true := by simp [h0]
          clear h0
          go_wp2_with (go_at_call 33; with_reducible refine (KX0.out _ HB8.out).mono ?_; rintro e w9 ⟨a4, n4, c4, rfl, hp9, hb9⟩)
          go_meet
          exact ⟨_, _, _, rfl, _, rfl, hp9, hb9⟩
        · have e0 : (r == 0) = false := by simp [h0]
          have hpe := KY.out h0
          have HPE := Lib.hid hpe
          clear h0 hpe
          go_wp2_with fail
          go_meet
          exact ⟨_, _, _, rfl, _, rfl, .inl ⟨rfl, rfl, HPE.out⟩, Below.refl _ _⟩
      case rest =>
        obtain ⟨a4, n4, c4, rfl, W9, rfl, hp9, hb9⟩ := hcut
        have K9 := Lib.hid (K8.out.call hb9)
        have R9 := Lib.hid (R8.out.kept hb9)
        have P9 := Lib.hid (P8.out.kept hb9)
        have Q9 := Lib.hid hp9
        have HA9 := Lib.hid (HAE.out _ (Kp.below K9.out))
        clear hp9 hb9 K8 R8 P8 HB8 KX KY v0 v1 v2
        go_upto_region 10 with (first
          | (go_at_call 34; (refine (KV.out _ HA9.out).mono ?_); rintro e w11 ⟨X', Y', a5, n5, c5, rfl, hR', hb11⟩;
             have K11 := Lib.hid ((K9.out.call hb11).alloc (.cells #[.int .i64 0, .int .i64 0, .slice none 0 0] 66));
             have K12 := Lib.hid ((K9.out.call hb11).stored #[.int .i64 0, .int .i64 0, .slice none 0 0] #[.int .i64 X', .int .i64 Y', .slice a5 n5 c5] 66);
             have R11 := Lib.hid hR'; have HB11 := Lib.hid hb11; clear hR' hb11)
          | (refine wpList_store_row rfl 66 (.tmp 11) (.tmp 49) rfl w11.heap.size rfl #[.int .i64 X', .int .i64 Y', .slice a5 n5 c5] rfl 66 #[.int .i64 0, .int .i64 0, .slice none 0 0] (K11.out.2 _ (.head _)) (by rfl) (by kernel_rfl) (by simp [Value.oneCell']) ?_))
        have hst := ((Kp.none w11).stored #[.int .i64 0, .int .i64 0, .slice none 0 0] #[.int .i64 X', .int .i64 Y', .slice a5 n5 c5] 66).1
        obtain ⟨W12, hW12⟩ : ∃ W12, (w11.alloc (.cells #[.int .i64 0, .int .i64 0, .slice none 0 0] 66)).setRow w11.heap.size #[.int .i64 X', .int .i64 Y', .slice a5 n5 c5] = W12 := ⟨_, rfl⟩
        have k12 := K12.out
        rw [hW12] at hst k12 ⊢
        have KONE := Lib.hid (one_res q UW UH UL X Y X' Y' a2 a5 n2 c2 n5 c5 W12 ((R9.out.kept HB11.out).kept hst) (fun _ => R11.out.kept hst))
        have kc1 := BytesIn.conv (c := c1) ((P9.out.kept HB11.out).kept hst)
        have kc2 := BytesIn.conv (c := c4) ((Q9.out.kept HB11.out).kept hst)
        obtain ⟨s, hs⟩ : ∃ s, strOfNums PS = s := ⟨_, rfl⟩
        rw [hs] at kc1 kc2
        have es : (s.toList == s.toList) = true := by simp
        have er : (r == r) = true := by simp
        have K13 := Lib.hid (Kp.below k12)
        obtain ⟨b0, b1, b2⟩ := row_cells (k12.2 _ (.head _))
        obtain ⟨d0, d1, d2⟩ := row_cells (k12.2 _ (.tail _ (.head _)))
        clear hst hW12 k12 K11 K12 R11 HB11 K9 R9 P9 Q9 HA9 KV hs
        go_wp2_with (first
          | (go_at_call 35; with_reducible refine KONE.out.mono ?_; rintro e w14 ⟨rfl, hb14⟩;
             have K14 := Lib.hid (K13.out.trans (hb14.mono K13.out.size)); clear hb14)
          | (go_at_call 18; with_reducible refine (KW.out _ K14.out).mono ?_; rintro e w16 ⟨rfl, hb16⟩))
        go_ret
        exact ⟨rfl, hb16⟩
end Go.Proofs.YthmaoeajbmfmaaaGreatDoor
