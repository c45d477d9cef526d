/-
  Contracts of both Packs for every map, and the strings of bytes.
-/
import Derived.Test.YtfdkmmllemkogaaGreatDoorOJi
import Derived.Test.YtfdkmmllemkogaaGreatDoorOBx
import Derived.Test.YtfdkmmllemkogaaGreatDoorOBd
import Derived.Test.YtfdkmmllemkogaaGreatDoorOKa
import Derived.Deep.CutBlock
import Derived.Deep.DeepCutAuto
import Derived.Test.YtfdkmmllemkogaaGreatDoorODg
namespace Go.Proofs.YtfdkmmllemkogaaGreatDoor
open Go.RowKit
set_option linter.unusedVariables false
set_option linter.unusedSimpArgs false

/-- A slice of bytes that is nil, or lies in memory. -/
def BytesIn (w : World) (a : Option Addr) (n : Nat) (S : List Int) : Prop :=
  (a = none ∧ n = 0 ∧ S = []) ∨ ∃ b o, a = some ⟨b, o, none⟩ ∧ b < w.heap.size ∧ S.length = n ∧ w.rangeAt b o (S.map (Value.int .u8))
theorem BytesIn.kept {w w' : World} {a : Option Addr} {n : Nat} {S : List Int} (h : BytesIn w a n S) (hb : Below w.heap.size w w') : BytesIn w' a n S := by
  rcases h with h | ⟨b, o, h1, h2, h3, h4⟩
  · exact .inl h
  · exact .inr ⟨b, o, h1, Nat.lt_of_lt_of_le h2 hb.size, h3, range_below h4 hb h2⟩
theorem BytesIn.conv {w : World} {a : Option Addr} {n c : Nat} {S : List Int} (h : BytesIn w a n S) : (convert 109 9 (.slice a n c)).run Tryz.prog w = .ok (.string (strOfNums S)) w := by
  rcases h with ⟨rfl, rfl, rfl⟩ | ⟨b, o, rfl, h2, h3, h4⟩
  · exact run_convert_bytes_nil (P := Tryz.prog) w 109 5 Tryz.underlying109 Tryz.underlying5 0 c 9 Tryz.underlying9
  · exact run_convert_bytes_arg (P := Tryz.prog) w 109 5 Tryz.underlying109 Tryz.underlying5 b o n c S h3 (fun i hi => range_cells h4 i (by rw [h3]; exact hi)) 9 Tryz.underlying9
theorem BytesIn.of_row {w : World} {B n : Nat} {v : Value} {S : List Int} (hl : S.length = n) (hn : 1 ≤ n) (h : w.ownsRow B 5 1 v n (S.map (Value.int .u8))) :
    ∃ a c, v = .slice a n c ∧ BytesIn w a n S := by
  rcases h.2 with ⟨rfl, rfl⟩ | ⟨g, cap, cur, rfl, hb, hg, h1, h2, _⟩
  · omega
  · exact ⟨_, _, rfl, .inr ⟨g, 0, rfl, lt_of_blk hg, hl, fun i u hu => by
      have h3 := h.cells (g := g) rfl i u hu
      rwa [Addr.add_mid] at h3⟩⟩

noncomputable def packOf (W H : Int) (n : Nat) (xs : List Nat) : List Int := if mapErr W H n xs = 0 then packL W.toNat H.toNat (xs.map kOf) else []
theorem packL_len (W H : Nat) (ks : List Int) : (packL W H ks).length = 10 + 4 * ks.length := by
  simp [packL, packS, packHead, packBody_len, wordOf]; omega

set_option maxRecDepth 100000 in
set_option maxHeartbeats 3200000 in
theorem pack_bad (W H : Int) (a : Option Addr) (n c : Nat) (r : Int) (hr0 : r ≠ 0) (w : World)
    (hC : ∀ w1 : World, Below w.heap.size w w1 → Calls Tryz.prog 47 #[.agg #[.int .i64 W, .int .i64 H, .slice a n c]] w1 fun e w' => e = .returned (.int .i64 r) ∧ Below w1.heap.size w1 w') :
    Calls Tryz.prog 88 #[.agg #[.int .i64 W, .int .i64 H, .slice a n c]] w fun e w' =>
      e = .returned (.tuple #[.slice none 0 0, .int .i64 r]) ∧ Below w.heap.size w w' := by
  have e0 : (r != 0) = true := by simp [hr0]
  have HC := Lib.hid hC
  clear hr0 hC
  have hB0 : ∀ o1, Below w.heap.size w (w.alloc o1) := fun o1 => (Below.refl _ w).alloc (Nat.le_refl _) _
  have HB0 := Lib.hid hB0
  clear hB0
  go_enter Tryz.func88, Tryz.ntmps88
  go_wp2_with (go_at_call 47; refine (HC.out _ (HB0.out _)).mono ?_; rintro e w1 ⟨rfl, hb1⟩)
  go_ret2
  exact ⟨rfl, (HB0.out _).trans (hb1.mono (by simp))⟩

theorem pack_all (W H : Int) (a : Option Addr) (n c : Nat) (xs : List Nat) (w : World) (hM : AnyMap w a n c xs) :
    Calls Tryz.prog 88 #[.agg #[.int .i64 W, .int .i64 H, .slice a n c]] w fun e w' =>
      ∃ a1 n1 c1, e = .returned (.tuple #[.slice a1 n1 c1, .int .i64 (mapErr W H n xs)]) ∧ BytesIn w' a1 n1 (packOf W H n xs) ∧ Below w.heap.size w w' := by
  by_cases h0 : mapErr W H n xs = 0
  · obtain ⟨b, o, rfl, hb, hR⟩ := hM.rightK h0
    obtain ⟨Wn, rfl⟩ := Int.eq_ofNat_of_zero_le (show 0 ≤ W by have := hR.wid; omega)
    obtain ⟨Hn, rfl⟩ := Int.eq_ofNat_of_zero_le (show 0 ≤ H by have := hR.hei; omega)
    have e : packOf Wn Hn n xs = packL Wn Hn (xs.map kOf) := by unfold packOf; rw [if_pos h0]; rfl
    rw [h0, e]
    refine (pack_any Wn Hn b o c n xs (xs.map kOf) w hR hb).mono fun e w' ⟨v, he, ho, hbw⟩ => ?_
    obtain ⟨a1, c1, rfl, hB⟩ := BytesIn.of_row (by rw [packL_len, List.length_map, hM.len]) (by omega) ho
    exact ⟨a1, _, c1, he, hB, hbw⟩
  · have e : packOf W H n xs = [] := by unfold packOf; rw [if_neg h0]
    rw [e]
    exact (pack_bad W H a n c _ h0 w (check_of W H a n c xs w hM)).mono fun e w' ⟨he, hb⟩ => ⟨none, 0, 0, he, .inl ⟨rfl, rfl, rfl⟩, hb⟩

theorem refPack_all (W H : Int) (a : Option Addr) (n c : Nat) (xs : List Nat) (h0 : mapErr W H n xs = 0) (w : World) (hM : AnyMap w a n c xs) :
    Calls Tryz.prog 90 #[.agg #[.int .i64 W, .int .i64 H, .slice a n c]] w fun e w' =>
      ∃ a1 n1 c1, e = .returned (.slice a1 n1 c1) ∧ BytesIn w' a1 n1 (packOf W H n xs) ∧ Below w.heap.size w w' := by
  obtain ⟨b, o, rfl, hb, hR⟩ := hM.rightK h0
  obtain ⟨Wn, rfl⟩ := Int.eq_ofNat_of_zero_le (show 0 ≤ W by have := hR.wid; omega)
  obtain ⟨Hn, rfl⟩ := Int.eq_ofNat_of_zero_le (show 0 ≤ H by have := hR.hei; omega)
  have e : packOf Wn Hn n xs = packL Wn Hn (xs.map kOf) := by unfold packOf; rw [if_pos h0]; rfl
  rw [e]
  refine (refPack_any Wn Hn b o c n xs (xs.map kOf) w hR hb).mono fun e w' ⟨v, he, ho, hbw⟩ => ?_
  obtain ⟨a1, c1, rfl, hB⟩ := BytesIn.of_row (by rw [packL_len, List.length_map, hM.len]) (by omega) ho
  exact ⟨a1, _, c1, he, hB, hbw⟩

/-- What both Unpacks give, in one contract. -/
theorem unpacks (S : List Int) (n : Nat) (hn : n ≤ 400 ∨ n = 400001) : ∃ (q W H : Int) (L : List Int),
    (∀ (a : Option Addr) (c : Nat), n ≤ c → c ≤ 9223372036854775807 → ∀ w1 : World, AnyBytes w1 a n S → Calls Tryz.prog 89 #[.slice a n c] w1 (UnRes w1 q W H L)) ∧
    (∀ (a : Option Addr) (c : Nat), n ≤ c → c ≤ 9223372036854775807 → ∀ w1 : World, AnyBytes w1 a n S → Calls Tryz.prog 91 #[.slice a n c] w1 (UnRes w1 q W H L)) := by
  rcases hn with hn | rfl
  · exact ⟨unErr S, unW S, unH S, unL S, fun a c h1 h2 w1 hA => unpack_all S a n c (by omega) h1 h2 w1 hA, fun a c h1 h2 w1 hA => refUnpack_all S a n c (by omega) h1 h2 w1 hA⟩
  · exact ⟨26, 0, 0, [], fun a c h1 h2 w1 hA => unpack_long 0 0 [] a 400001 c (by omega) (by omega) w1, fun a c h1 h2 w1 hA => refUnpack_long S 0 0 [] a 400001 c (by omega) (by omega) w1⟩
end Go.Proofs.YtfdkmmllemkogaaGreatDoor

/-
  The walk of LightStreams.
-/
namespace Go.Proofs.YtfdkmmllemkogaaGreatDoor
open Go.RowKit Go.Shelf
set_option linter.unusedVariables false
set_option linter.unusedSimpArgs false

set_option maxRecDepth 100000 in
set_option maxHeartbeats 12800000 in
theorem streams_walk (w : World) (W H : Int) (a : Option Addr) (n c : Nat) (xs : List Nat) (hM : AnyMap w a n c xs) (hs : n ≤ 160 ∨ n = 4097) (S : List Int) (sa : Option Addr) (sn sc : Nat) (hn : sn ≤ 400 ∨ sn = 400001) (hcp : sn ≤ sc) (hcq : sc ≤ 9223372036854775807) (hA : AnyBytes w sa sn S) (ht : TabAt w) :
    Calls Tryz.prog 11 #[.agg #[.int .i64 W, .int .i64 H, .slice a n c], .slice sa sn sc] w (TruePost w) := by
  obtain ⟨i0, hi, hz0, hz1, hz2⟩ := info_parts Tryz.infoByte
  obtain ⟨q, UW, UH, UL, kU, kV⟩ := unpacks S sn hn
  have KU := Lib.hid kU
  have KV := Lib.hid (kV sa sc hcp hcq)
  have HA := Lib.hid hA
  have HM := Lib.hid hM
  have KW : Hid (∀ w1 : World, Below w.heap.size w w1 → Calls Tryz.prog 19 #[] w1 fun e w' => e = .returned (.bool true) ∧ Below w.heap.size w w') :=
    Lib.hid fun w1 h => (awake_any w1 (ht.on h)).mono fun e w' ⟨he, hb⟩ => ⟨he, h.trans (hb.mono h.size)⟩
  have hsb : (decide (n ≤ 160) || decide (n = 4097)) = true := by simp; exact hs
  have hn1 : n ≤ 100000 := by omega
  have KS : Hid (∀ w1 : World, Calls Tryz.prog 36 #[.agg #[.int .i64 W, .int .i64 H, .slice a n c]] w1 fun e w' => e = .returned (.bool true) ∧ Below w1.heap.size w1 w') := Lib.hid fun w1 => by
    have h := shortMap_all W H a n c w1
    rw [hsb] at h
    exact h
  obtain ⟨r, hr⟩ : ∃ r, mapErr W H n xs = r := ⟨_, rfl⟩
  obtain ⟨PS, hPS⟩ : ∃ P, packOf W H n xs = P := ⟨_, rfl⟩
  have KO : Hid (∀ w1 : World, Below w.heap.size w w1 → Calls Tryz.prog 38 #[.agg #[.int .i64 W, .int .i64 H, .slice a n c]] w1 fun e w' =>
      ∃ g c', e = .returned (.agg #[.int .i64 W, .int .i64 H, .slice (some ⟨g, 0, none⟩) n c']) ∧ AnyMap w' (some ⟨g, 0, none⟩) n c' xs ∧ Below w1.heap.size w1 w') := Lib.hid fun w1 h =>
    (lawOwn_all W H a n c xs hn1 (hM.below h (Nat.le_refl _))).mono fun e w' h1 => h1.map hM.len hM.words
  have KP : Hid (∀ (w1 : World) (g c' : Nat), AnyMap w1 (some ⟨g, 0, none⟩) n c' xs → Calls Tryz.prog 88 #[.agg #[.int .i64 W, .int .i64 H, .slice (some ⟨g, 0, none⟩) n c']] w1 fun e w' =>
      ∃ a1 n1 c1, e = .returned (.tuple #[.slice a1 n1 c1, .int .i64 r]) ∧ BytesIn w' a1 n1 PS ∧ Below w1.heap.size w1 w') := Lib.hid fun w1 g c' h => by
    have k := pack_all W H (some ⟨g, 0, none⟩) n c' xs w1 h
    rw [hr, hPS] at k
    exact k
  have KC : Hid (∀ w1 : World, Below w.heap.size w w1 → Calls Tryz.prog 41 #[.agg #[.int .i64 W, .int .i64 H, .slice a n c]] w1 fun e w' => e = .returned (.int .i64 r) ∧ Below w1.heap.size w1 w') := Lib.hid fun w1 h => by
    have k := refCheckMap_map W H a n c xs w1 (hM.below h (Nat.le_refl _))
    rw [hr] at k
    exact k
  have KX : Hid (r = 0 → ∀ w1 : World, Below w.heap.size w w1 → Calls Tryz.prog 90 #[.agg #[.int .i64 W, .int .i64 H, .slice a n c]] w1 fun e w' =>
      ∃ a1 n1 c1, e = .returned (.slice a1 n1 c1) ∧ BytesIn w' a1 n1 PS ∧ Below w1.heap.size w1 w') := Lib.hid fun h0 w1 h => by
    have k := refPack_all W H a n c xs (hr.trans h0) w1 (hM.below h (Nat.le_refl _))
    rw [hPS] at k
    exact k
  have KY : Hid (r ≠ 0 → PS = []) := Lib.hid fun h => by rw [← hPS]; unfold packOf; rw [if_neg (by rw [hr]; exact h)]
  have hg : (¬ ((400 : Int) < (sn : Int))) ∨ ((400 : Int) < (sn : Int) ∧ ((sn : Int) != 400001) = false) := by
    rcases hn with h | h
    · exact .inl (by omega)
    · exact .inr ⟨by omega, by simp; omega⟩
  have HSN : sn ≤ 400001 := by omega
  have K0 : Kp w (w.alloc (.cells #[.int .i64 W, .int .i64 H, .slice a n c] 48)) [(w.heap.size, .cells #[.int .i64 W, .int .i64 H, .slice a n c] 48)] :=
    (Kp.none w).alloc _
  obtain ⟨W0, hW0⟩ : ∃ W0, w.alloc (.cells #[.int .i64 W, .int .i64 H, .slice a n c] 48) = W0 := ⟨_, rfl⟩
  rw [hW0] at K0
  have HK0 := Lib.hid K0
  clear kU kV hA hM ht hsb hr hPS hn K0 hs hcp hcq
  have HAE : Hid (∀ w1 : World, Below w.heap.size w w1 → AnyBytes w1 sa sn S) := Lib.hid fun w1 h => HA.out.kept h
  obtain ⟨z0, z1, z2⟩ := row_cells (HK0.out.2 _ (.head _))
  go_enter Tryz.func11, Tryz.ntmps11
  go_upto_region 1 with fail
  try rw [hW0]
  clear hW0
  rcases hg with g1 | ⟨g1, g2⟩
  all_goals
    go_upto_region 4 with (first
      | (go_at_call 36; with_reducible refine (KS.out _).mono ?_; rintro e w1 ⟨rfl, hb1⟩;
         have K1 := Lib.hid (HK0.out.call hb1); clear hb1;
         obtain ⟨y0, y1, y2⟩ := row_cells (K1.out.2 _ (.head _)))
      | (go_at_call 38; with_reducible refine (KO.out _ (Kp.below K1.out)).mono ?_; rintro e w2 ⟨g, c', rfl, hm2, hb2⟩;
         have K2 := Lib.hid (K1.out.call hb2); have HM2 := Lib.hid hm2; clear hb2 hm2)
      | (go_at_call 88; with_reducible refine (KP.out _ _ _ HM2.out).mono ?_; rintro e w3 ⟨a1, n1, c1, rfl, hp3, hb3⟩;
         have K3 := Lib.hid (K2.out.call hb3); have HP3 := Lib.hid hp3; clear hb3 hp3))
    obtain ⟨l3, hl3⟩ : ∃ l, [(w.heap.size, Obj.cells #[.int .i64 W, .int .i64 H, .slice a n c] 48 (0, 0))] = l := ⟨_, rfl⟩
    have hk3 := K3.out
    rw [hl3] at hk3
    have HL3 := Lib.hid hl3
    have HK3 := Lib.hid hk3
    have HA3 := Lib.hid (HAE.out _ (Kp.below hk3))
    clear hl3 hk3 K1 K2 K3 HK0 KS KO KP HM2 z0 z1 z2 y0 y1 y2
    go_cut [7, 8] (fun s7 s8 wc => ∃ B7 X Y a2 n2 c2, s7 = .pointer (some ⟨B7, 0, none⟩) ∧ s8 = .int .i64 q ∧ ∃ W6, W6 = wc ∧ ResV W6 q UW UH UL X Y a2 n2 c2 ∧ BytesIn W6 a1 n1 PS ∧ Kp w W6 ((B7, .cells #[.int .i64 X, .int .i64 Y, .slice a2 n2 c2] 54 (0, 0)) :: l3))
    case first =>
      have hC0 : (w3.alloc (.cells #[] 5)).ownsRow w3.heap.size 5 1 (.slice (some ⟨w3.heap.size, 0, none⟩) 0 0) 0 [] := by
        have h := World.ownsRow_made (base := w3.heap.size) (e := 5) (size := 1) w3 #[] 0 (by simp) (by unfold maxLen; omega) rfl
        simpa using h
      have HC0 := Lib.hid hC0
      have hB6 : Below w3.heap.size w3 (w3.alloc (.cells #[] 5)) := (Below.refl w3.heap.size w3).alloc (Nat.le_refl _) _
      have HB6 := Lib.hid hB6
      clear hC0 hB6
      cases sa with
      | none =>
        obtain rfl : sn = 0 := by
          rcases Nat.eq_zero_or_pos sn with h | h
          · exact h
          · obtain ⟨b, q', e, _⟩ := HA3.out.2 0 h
            exact absurd e (by simp)
        have hAB : AnyBytes (w3.alloc (.cells #[] 5)) (some ⟨w3.heap.size, 0, none⟩) 0 S := ⟨HA3.out.1, fun j hj => absurd hj (Nat.not_lt_zero j)⟩
        have HAB := Lib.hid hAB
        clear hAB
        go_wp2_with (first
          | (at_builtin; (refine wpList_append_own_none rfl (.tmp 34) (.tmp 35) 109 rfl w3.heap.size 5 i0 1 Tryz.underlying109 hi (.slice (some ⟨w3.heap.size, 0, none⟩) 0 0) 0 [] rfl HC0.out rfl ?_))
          | (go_at_call 89; (refine (KU.out _ _ (Nat.le_refl _) (by omega) _ HAB.out).mono ?_); rintro e w7 ⟨X, Y, a2, n2, c2, rfl, hR, hb7⟩;
             have K7 := Lib.hid (((HK3.out.call HB6.out).call hb7).alloc (.cells #[.int .i64 0, .int .i64 0, .slice none 0 0] 54));
             have K8 := Lib.hid (((HK3.out.call HB6.out).call hb7).stored #[.int .i64 0, .int .i64 0, .slice none 0 0] #[.int .i64 X, .int .i64 Y, .slice a2 n2 c2] 54);
             have HR7 := Lib.hid hR; have HB7 := Lib.hid hb7; clear hR hb7)
          | (refine wpList_store_row rfl 54 (.tmp 7) (.tmp 38) rfl w7.heap.size rfl #[.int .i64 X, .int .i64 Y, .slice a2 n2 c2] rfl 54 #[.int .i64 0, .int .i64 0, .slice none 0 0] (K7.out.2 _ (.head _)) (by rfl) (by kernel_rfl) (by simp [Value.oneCell']) ?_))
        go_meet
        have hst := ((Kp.none w7).stored #[.int .i64 0, .int .i64 0, .slice none 0 0] #[.int .i64 X, .int .i64 Y, .slice a2 n2 c2] 54).1
        exact ⟨_, X, Y, a2, n2, c2, rfl, rfl, _, rfl, HR7.out.kept hst, ((HP3.out.kept HB6.out).kept HB7.out).kept hst, K8.out⟩
      | some ad =>
        have hln : (S.map (Value.int .u8)).length = sn * 1 := by rw [List.length_map, HA3.out.1.1, Nat.mul_one]
        have hnw : ∀ j u, (S.map (Value.int .u8))[j]? = some u → (w3.alloc (.cells #[] 5)).cell? (ad.add j) = some u := by
          intro j u hu
          have hj : j < sn := by have := (List.getElem?_eq_some_iff.1 hu).1; rw [hln] at this; omega
          obtain ⟨b, q', e, hb, hc⟩ := HA3.out.2 j hj
          cases e
          rw [Addr.add_mid]
          rw [HB6.out.cell (by exact hb)]
          exact hc j u hu
        have HLN := Lib.hid hln
        have HNW := Lib.hid hnw
        clear hln hnw
        go_wp2_with (first
          | (at_builtin; (refine wpList_append_own _ rfl (.tmp 34) (.tmp 35) 109 rfl w3.heap.size 5 i0 (.int .u8 0) 1 1 Tryz.underlying109 hi hz0 hz1 hz2 rfl (by decide) (.slice (some ⟨w3.heap.size, 0, none⟩) 0 0) 0 [] rfl HC0.out ad sn sc (S.map (Value.int .u8)) rfl HLN.out HNW.out (one_bytes S) (by unfold maxLen; omega) (by omega) (by simp) ?_); intro v6 w6 hO6 hG6 _;
             have hb6 := HB6.out.grown hG6 (by simp) (fun q hq => by cases hq; exact Nat.le_refl _);
             rw [Nat.zero_add, List.nil_append] at hO6;
             obtain ⟨a6, c6, rfl, h6a, h6b, hA6⟩ := AnyBytes.of_row HA3.out.1 hO6)
          | (go_at_call 89; (refine (KU.out _ _ h6a h6b _ hA6).mono ?_); rintro e w7 ⟨X, Y, a2, n2, c2, rfl, hR, hb7⟩;
             have K7 := Lib.hid (((HK3.out.call hb6).call hb7).alloc (.cells #[.int .i64 0, .int .i64 0, .slice none 0 0] 54));
             have K8 := Lib.hid (((HK3.out.call hb6).call hb7).stored #[.int .i64 0, .int .i64 0, .slice none 0 0] #[.int .i64 X, .int .i64 Y, .slice a2 n2 c2] 54);
             have HR7 := Lib.hid hR; have HB7 := Lib.hid hb7; have HB66 := Lib.hid hb6; clear hR hb7 hb6)
          | (refine wpList_store_row rfl 54 (.tmp 7) (.tmp 38) rfl w7.heap.size rfl #[.int .i64 X, .int .i64 Y, .slice a2 n2 c2] rfl 54 #[.int .i64 0, .int .i64 0, .slice none 0 0] (K7.out.2 _ (.head _)) (by rfl) (by kernel_rfl) (by simp [Value.oneCell']) ?_))
        go_meet
        have hst := ((Kp.none w7).stored #[.int .i64 0, .int .i64 0, .slice none 0 0] #[.int .i64 X, .int .i64 Y, .slice a2 n2 c2] 54).1
        exact ⟨_, X, Y, a2, n2, c2, rfl, rfl, _, rfl, HR7.out.kept hst, ((HP3.out.kept HB66.out).kept HB7.out).kept hst, K8.out⟩
    case rest =>
      obtain ⟨B7, X, Y, a2, n2, c2, rfl, rfl, W6, rfl, hR, hP, hK⟩ := hcut
      rw [← HL3.out] at hK
      have HK := Lib.hid hK
      have HR := Lib.hid hR
      have HP := Lib.hid hP
      clear hK hR hP HK3 HL3 HA3 HP3 KU
      obtain ⟨x0, x1, x2⟩ := row_cells (HK.out.2 _ (.tail _ (.head _)))
      go_upto_if 43 with (go_at_call 41; with_reducible refine (KC.out _ (Kp.below HK.out)).mono ?_; rintro e w8 ⟨rfl, hb8⟩)
      have HB8 := Lib.hid (Kp.below (HK.out.call hb8))
      have K8 := Lib.hid (HK.out.call hb8)
      have R8 := Lib.hid (HR.out.kept hb8)
      have P8 := Lib.hid (HP.out.kept hb8)
      obtain ⟨v0, v1, v2⟩ := row_cells (K8.out.2 _ (.tail _ (.head _)))
      clear hb8 HK HR HP KC x0 x1 x2
      go_cut [10] (fun s10 wc => ∃ a4 n4 c4, s10 = .slice a4 n4 c4 ∧ ∃ W9, W9 = wc ∧ BytesIn W9 a4 n4 PS ∧ Below w8.heap.size w8 W9)
      case first =>
        by_cases h0 : r = 0
        · have KX0 := Lib.hid (KX.out h0)
          have e0 : (r == 0) = true := by simp [h0]
          clear h0
          go_wp2_with (go_at_call 90; with_reducible refine (KX0.out _ HB8.out).mono ?_; rintro e w9 ⟨a4, n4, c4, rfl, hp9, hb9⟩)
          go_meet
          exact ⟨_, _, _, rfl, _, rfl, hp9, hb9⟩
        · have e0 : (r == 0) = false := by simp [h0]
          have hpe := KY.out h0
          have HPE := Lib.hid hpe
          clear h0 hpe
          go_wp2_with fail
          go_meet
          exact ⟨_, _, _, rfl, _, rfl, .inl ⟨rfl, rfl, HPE.out⟩, Below.refl _ _⟩
      case rest =>
        obtain ⟨a4, n4, c4, rfl, W9, rfl, hp9, hb9⟩ := hcut
        have K9 := Lib.hid (K8.out.call hb9)
        have R9 := Lib.hid (R8.out.kept hb9)
        have P9 := Lib.hid (P8.out.kept hb9)
        have Q9 := Lib.hid hp9
        have HA9 := Lib.hid (HAE.out _ (Kp.below K9.out))
        clear hp9 hb9 K8 R8 P8 HB8 KX KY v0 v1 v2
        go_upto_region 10 with (first
          | (go_at_call 91; (refine (KV.out _ HA9.out).mono ?_); rintro e w11 ⟨X', Y', a5, n5, c5, rfl, hR', hb11⟩;
             have K11 := Lib.hid ((K9.out.call hb11).alloc (.cells #[.int .i64 0, .int .i64 0, .slice none 0 0] 48));
             have K12 := Lib.hid ((K9.out.call hb11).stored #[.int .i64 0, .int .i64 0, .slice none 0 0] #[.int .i64 X', .int .i64 Y', .slice a5 n5 c5] 48);
             have R11 := Lib.hid hR'; have HB11 := Lib.hid hb11; clear hR' hb11)
          | (refine wpList_store_row rfl 48 (.tmp 11) (.tmp 49) rfl w11.heap.size rfl #[.int .i64 X', .int .i64 Y', .slice a5 n5 c5] rfl 48 #[.int .i64 0, .int .i64 0, .slice none 0 0] (K11.out.2 _ (.head _)) (by rfl) (by kernel_rfl) (by simp [Value.oneCell']) ?_))
        have hst := ((Kp.none w11).stored #[.int .i64 0, .int .i64 0, .slice none 0 0] #[.int .i64 X', .int .i64 Y', .slice a5 n5 c5] 48).1
        obtain ⟨W12, hW12⟩ : ∃ W12, (w11.alloc (.cells #[.int .i64 0, .int .i64 0, .slice none 0 0] 48)).setRow w11.heap.size #[.int .i64 X', .int .i64 Y', .slice a5 n5 c5] = W12 := ⟨_, rfl⟩
        have k12 := K12.out
        rw [hW12] at hst k12 ⊢
        have KONE := Lib.hid (one_res q UW UH UL X Y X' Y' a2 a5 n2 c2 n5 c5 W12 ((R9.out.kept HB11.out).kept hst) (fun _ => R11.out.kept hst))
        have kc1 := BytesIn.conv (c := c1) ((P9.out.kept HB11.out).kept hst)
        have kc2 := BytesIn.conv (c := c4) ((Q9.out.kept HB11.out).kept hst)
        obtain ⟨s, hs⟩ : ∃ s, strOfNums PS = s := ⟨_, rfl⟩
        rw [hs] at kc1 kc2
        have es : (s.toList == s.toList) = true := by simp
        have er : (r == r) = true := by simp
        have K13 := Lib.hid (Kp.below k12)
        obtain ⟨b0, b1, b2⟩ := row_cells (k12.2 _ (.head _))
        obtain ⟨d0, d1, d2⟩ := row_cells (k12.2 _ (.tail _ (.head _)))
        clear hst hW12 k12 K11 K12 R11 HB11 K9 R9 P9 Q9 HA9 KV hs
        go_wp2_with (first
          | (go_at_call 55; with_reducible refine KONE.out.mono ?_; rintro e w14 ⟨rfl, hb14⟩;
             have K14 := Lib.hid (K13.out.trans (hb14.mono K13.out.size)); clear hb14)
          | (go_at_call 19; with_reducible refine (KW.out _ K14.out).mono ?_; rintro e w16 ⟨rfl, hb16⟩))
        go_ret
        exact ⟨rfl, hb16⟩
end Go.Proofs.YtfdkmmllemkogaaGreatDoor

/-
  LightStreams returns true for all arguments; a slice of bytes with its capacity, opened.
-/
namespace Go.Proofs.YtfdkmmllemkogaaGreatDoor
open Go.ChangeShapes Go.WideShapes Go.ChangeAt Go.RowKit Go.Joins Go.Deep
set_option linter.unusedVariables false
set_option maxRecDepth 100000

theorem byteC_of {z : Int} (h : (Lit.int .u8 z).wf = true) : 0 ≤ z ∧ z ≤ 255 := by
  have e0 : IntKind.u8.min = 0 := by rfl
  have e1 : IntKind.u8.max = 255 := by rfl
  simp only [Lit.wf, Bool.and_eq_true, decide_eq_true_eq, e0, e1] at h
  exact h
theorem cellsByteC : Tryz.prog.cellsOf 5 = 1 := by kernel_rfl

theorem openBytesC {H : Type} {enc : TypeId × Value → H} {W : World} {b0 : Nat} {v : Value} {d : DataW H} {p : List MemPlace}
    (hv : Value.okWide Tryz.prog W .any b0 109 v) (h : DataW.Trod enc Tryz.prog W 0 (fun _ => true) true 109 v d p) :
    ∃ (a : Option Addr) (n c : Nat) (S : List Int), v = .slice a n c ∧ n ≤ c ∧ c ≤ maxLen ∧ AnyBytes W a n S := by
  obtain ⟨a, n, c, rfl⟩ := okWide_slice Tryz.underlying109 hv
  obtain ⟨fuel, hf⟩ := h
  rcases open_slice Tryz.underlying109 hf with ⟨hcs, _⟩ | ⟨a, n, c, m, k, D, Pl, hcs, _, hl, hm, hmm, _, hx⟩
  · simp [Value.cells] at hcs
    obtain ⟨rfl, rfl, rfl⟩ := hcs
    exact ⟨none, 0, 0, [], rfl, Nat.le_refl _, by unfold maxLen; omega, ⟨rfl, fun v hv => nomatch hv⟩, fun j hj => absurd hj (by omega)⟩
  · simp [Value.cells] at hcs
    obtain ⟨rfl, rfl, rfl⟩ := hcs
    have hnm : n ≤ m := by rw [hmm]; simp; exact hl
    rw [cellsByteC] at hx
    obtain ⟨T, hT⟩ := choose_lt (α := Int) (p := fun i t => (0 ≤ t ∧ t ≤ 255) ∧ W.cell? ((a.add (i * 1)).add 0) = some (.int .u8 t)) (n := n) (fun i hi => by
      obtain ⟨cs', h1, h2⟩ := hx i (by omega)
      obtain ⟨_, hlen, hc⟩ := World.cells?_some h1
      obtain ⟨X, e0, _, hw⟩ := DataW.trod_int Tryz.underlying5 h2
      exact ⟨X, byteC_of hw, (hc 0 (by omega)).trans (by rw [e0]; rfl)⟩)
    refine ⟨_, _, _, (List.range n).map T, rfl, hl, hm, ⟨by simp, ?_⟩, fun j hj => ?_⟩
    · intro v hv'
      obtain ⟨i, hi', rfl⟩ := List.mem_map.1 hv'
      exact (hT i (by simpa using hi')).1
    have h0 := (hT 0 (by omega)).2
    have hpl := plain_at (a := a) (by simpa [Addr.add] using h0)
    refine ⟨a.block, a.off, by rw [← hpl.1], hpl.2, fun i u hu => ?_⟩
    rw [List.map_map, List.getElem?_map] at hu
    by_cases hi2 : i < n
    · rw [List.getElem?_range hi2] at hu
      have h := (hT i hi2).2
      rw [hpl.1] at h
      simp only [Addr.add_mid, Nat.mul_one, Nat.add_zero] at h
      rw [h]
      simpa using hu
    · rw [List.getElem?_eq_none (by simp; omega)] at hu
      simp at hu


set_option maxHeartbeats 3200000 in
theorem streams_all (w : World) (W H : Int) (a : Option Addr) (n c : Nat) (xs : List Nat) (S : List Int) (sa : Option Addr) (sn sc : Nat) (ht : TabAt w) (hM : AnyMap w a n c xs) (hcp : sn ≤ sc) (hcm : sc ≤ maxLen) (hA : AnyBytes w sa sn S) :
    Calls Tryz.prog 11 #[.agg #[.int .i64 W, .int .i64 H, .slice a n c], .slice sa sn sc] w (TruePost w) := by
  unfold maxLen at hcm
  by_cases hs : n ≤ 160 ∨ n = 4097
  · by_cases hn : sn ≤ 400 ∨ sn = 400001
    · exact streams_walk w W H a n c xs hM hs S sa sn sc hn hcp (by omega) hA ht
    · have KW : Hid (∀ w1 : World, Below w.heap.size w w1 → Calls Tryz.prog 19 #[] w1 fun e w' => e = .returned (.bool true) ∧ Below w.heap.size w w') :=
        Lib.hid fun w1 h => (awake_any w1 (ht.on h)).mono fun e w' ⟨he, hb⟩ => ⟨he, h.trans (hb.mono h.size)⟩
      have hsb : (decide (n ≤ 160) || decide (n = 4097)) = true := by simp; exact hs
      have KS : Hid (∀ w1 : World, Calls Tryz.prog 36 #[.agg #[.int .i64 W, .int .i64 H, .slice a n c]] w1 fun e w' => e = .returned (.bool true) ∧ Below w1.heap.size w1 w') := Lib.hid fun w1 => by
        have h := shortMap_all W H a n c w1
        rw [hsb] at h
        exact h
      have g1 : (400 : Int) < (sn : Int) := by omega
      have g2 : ((sn : Int) != 400001) = true := by simp; omega
      have hB0 : Below w.heap.size w (w.alloc (.cells #[.int .i64 W, .int .i64 H, .slice a n c] 48)) := (Below.refl _ w).alloc (Nat.le_refl _) _
      have HB0 := Lib.hid hB0
      clear hB0 hsb hs hn hA hM ht hcp hcm
      go_enter Tryz.func11, Tryz.ntmps11
      go_wp2_with (first
        | (go_at_call 36; refine (KS.out _).mono ?_; rintro e w1 ⟨rfl, hb1⟩; have HB1 := Lib.hid (HB0.out.trans (hb1.mono HB0.out.size)); clear hb1)
        | (go_at_call 19; refine (KW.out _ HB1.out).mono ?_; rintro e w2 ⟨rfl, hb2⟩))
      go_ret
      exact ⟨rfl, hb2⟩
  · have KW : Hid (∀ w1 : World, Below w.heap.size w w1 → Calls Tryz.prog 19 #[] w1 fun e w' => e = .returned (.bool true) ∧ Below w.heap.size w w') :=
      Lib.hid fun w1 h => (awake_any w1 (ht.on h)).mono fun e w' ⟨he, hb⟩ => ⟨he, h.trans (hb.mono h.size)⟩
    have hsb : (decide (n ≤ 160) || decide (n = 4097)) = false := by simp; omega
    have KS : Hid (∀ w1 : World, Calls Tryz.prog 36 #[.agg #[.int .i64 W, .int .i64 H, .slice a n c]] w1 fun e w' => e = .returned (.bool false) ∧ Below w1.heap.size w1 w') := Lib.hid fun w1 => by
      have h := shortMap_all W H a n c w1
      rw [hsb] at h
      exact h
    have hB0 : Below w.heap.size w (w.alloc (.cells #[.int .i64 W, .int .i64 H, .slice a n c] 48)) := (Below.refl _ w).alloc (Nat.le_refl _) _
    have HB0 := Lib.hid hB0
    clear hB0 hsb hs hA hM ht hcp hcm
    go_enter Tryz.func11, Tryz.ntmps11
    go_wp2_with (first
      | (go_at_call 36; refine (KS.out _).mono ?_; rintro e w1 ⟨rfl, hb1⟩; have HB1 := Lib.hid (HB0.out.trans (hb1.mono HB0.out.size)); clear hb1)
      | (go_at_call 19; refine (KW.out _ HB1.out).mono ?_; rintro e w2 ⟨rfl, hb2⟩))
    go_ret
    exact ⟨rfl, hb2⟩
end Go.Proofs.YtfdkmmllemkogaaGreatDoor
