/-
  TopEmberRing returns true for all arguments.
-/
import Derived.Test.YtpmjiifdnnhecaaGreatDoorOaaUf
import Derived.Test.YtpmjiifdnnhecaaGreatDoorOaaXs
namespace Go.Proofs.YtpmjiifdnnhecaaGreatDoor
open Go.RowKit Go.Shelf
set_option linter.unusedVariables false
set_option linter.unusedSimpArgs false

set_option maxRecDepth 1000000 in
set_option maxHeartbeats 25600000 in
theorem ring_walk (w : World) (s D n N b o c : Nat) (L : List Int) (hs : 1 ≤ s ∧ s ≤ 8) (hD : 2 * s = D) (hN : D * D = N) (hL : L.length = s * s) (hsm : ∀ j : Nat, (L[j]?.getD 0 : Int).natAbs ≤ 256) (R : List Int) (hRR : ringK s L 4 = R) (Tt : Int) (hT : L.sum = Tt) (hn : s * s = n) (hM : RM w s s n L b o) (k8 : Int) (hk0 : 0 ≤ k8 ∧ k8 ≤ 255)
    (hsmall : ∀ w1 : World, Below w.heap.size w w1 → Calls Tryz.prog 60 #[.agg #[.int .i64 (s : Nat), .int .i64 (s : Nat), .slice (some ⟨b, o, none⟩) n c], .int .i64 64, .float .f32 1098907648] w1 fun e w' => e = .returned (.bool true) ∧ Below w1.heap.size w1 w') (ht : TabAt w) (hm : MaxAt w) :
    Calls Tryz.prog 10 #[.agg #[.int .i64 (s : Nat), .int .i64 (s : Nat), .slice (some ⟨b, o, none⟩) n c], .int .u8 k8] w (RingPost w) := by
  obtain ⟨i0, hi, hz0, hz1, hz2⟩ := info_parts Tryz.infoF32
  obtain ⟨sh, hsh⟩ : ∃ sh, k8.tmod 5 = sh := ⟨_, rfl⟩
  have hsh4 : 0 ≤ sh ∧ sh ≤ 4 := by
    rw [← hsh, Int.tmod_eq_emod_of_nonneg hk0.1]; omega
  have wk8 : IntKind.i64.wrap k8 = k8 := IntWalk.i64_in _ ⟨by omega, by omega⟩
  have wsh : IntKind.i64.wrap sh = sh := IntWalk.i64_in _ ⟨by omega, by omega⟩
  have w2s : IntKind.i64.wrap (2 * (s : Int)) = (D : Int) := by rw [show 2 * (s : Int) = (D : Int) by omega]; exact IntWalk.i64_in _ ⟨by omega, by omega⟩
  obtain ⟨q4, hq4⟩ : ∃ q4 : Nat, 4 * s = q4 := ⟨_, rfl⟩
  have w4s : IntKind.i64.wrap (4 * (s : Int)) = (q4 : Int) := by rw [show 4 * (s : Int) = (q4 : Int) by omega]; exact IntWalk.i64_in _ ⟨by omega, by omega⟩
  have hN4 : q4 * s = N := by rw [← hq4, ← hN, ← hD]; grind
  have hN256 : N ≤ 256 := by rw [← hN]; exact Nat.mul_le_mul (show D ≤ 16 by omega) (show D ≤ 16 by omega)
  have wN : IntKind.i64.wrap ((q4 : Int) * (s : Int)) = (N : Int) := by rw [show (q4 : Int) * (s : Int) = (N : Int) by rw [← hN4]; push_cast; rfl]; exact IntWalk.i64_in _ ⟨by omega, by omega⟩
  have i8 : ¬ ((8 : Int) < (s : Int)) := by omega
  have es : ((s : Int) != (s : Int)) = false := by simp
  obtain ⟨W0, hW0⟩ : ∃ W0, w.alloc (.cells #[.int .i64 (s : Nat), .int .i64 (s : Nat), .slice (some ⟨b, o, none⟩) n c] 117) = W0 := ⟨_, rfl⟩
  have K0 : Kp w W0 [(w.heap.size, (.cells #[.int .i64 (s : Nat), .int .i64 (s : Nat), .slice (some ⟨b, o, none⟩) n c] 117 (0, 0)))] := by
    rw [← hW0]
    have k := (Kp.none w).alloc (.cells #[.int .i64 (s : Nat), .int .i64 (s : Nat), .slice (some ⟨b, o, none⟩) n c] 117)
    simpa using k
  have h0N : (List.replicate N (0 : Int)) = ringK s L 0 := by rw [← hN, ← hD]; rfl
  have HG := Lib.hid (And.intro hs (And.intro hD (And.intro hN (And.intro hL (And.intro hsm (And.intro hRR (And.intro hT (And.intro ht (And.intro hm (And.intro hn (And.intro hsh4 hM)))))))))))
  have HK0 := Lib.hid K0
  have HM := Lib.hid hM
  have KE := Lib.hid hsmall
  have HTT := Lib.hid hT
  have H0N := Lib.hid h0N
  have HDs : Hid (1 ≤ D ∧ D ≤ 64 ∧ D * D = N) := Lib.hid ⟨by omega, by omega, hN⟩
  clear hD hN hL hsm hRR hT hn hM hsmall ht hm K0 hsh4 hk0 hq4 hN4 h0N
  obtain ⟨z0, z1, z2⟩ := cells3 (HK0.out.2 _ (.head _))
  go_enter Tryz.func10, Tryz.ntmps10
  go_upto_region 1 with fail
  try rw [hW0]
  clear hW0
  go_upto_if 55 with (first
    | (go_at_call 60; with_reducible refine (KE.out _ (Kp.below HK0.out)).mono ?_; rintro e w1 ⟨rfl, hb⟩;
       have K1 := Lib.hid (HK0.out.call hb); clear hb))
  clear z0 z1 z2 HK0
  obtain ⟨z0, z1, z2⟩ := cells3 (K1.out.2 _ (.head _))
  go_upto_region 7 with (first
    | (go_at_call 63; (refine Calls.mono (rm_emberMap (HM.out.kept (Kp.below K1.out)) c) ?_); rintro e w2 ⟨g2, c2, rfl, hm, hb⟩;
       have K2 := Lib.hid (K1.out.call hb); have M2 := Lib.hid hm; clear hb hm)
    | (go_at_call 62; (refine Calls.mono (show Calls _ _ _ _ _ from by have k := rm_total M2.out c2; rw [HTT.out] at k; exact k) ?_); rintro e w3 ⟨rfl, hb⟩;
       have K3 := Lib.hid (K2.out.call hb); clear hb))
  clear z0 z1 z2 K1 K2 M2
  obtain ⟨z0, z1, z2⟩ := cells3 (K3.out.2 _ (.head _))
  go_upto_region 8 with (first
    | (go_at_call 63; (refine Calls.mono (rm_emberMap (HM.out.kept (Kp.below K3.out)) c) ?_); rintro e w4 ⟨g4, c4, rfl, hm, hb⟩;
       have K4 := Lib.hid (K3.out.call hb); have T4 := Lib.hid hm; clear hb hm))
  clear z0 z1 z2 K3
  refine wp_world (fun w' => Kp w w' [(w4.heap.size, (.cells #[.int .i64 (s : Nat), .int .i64 (s : Nat), .slice (some ⟨g4, 0, none⟩) n c4] 121 (0, 0))), (w.heap.size, (.cells #[.int .i64 (s : Nat), .int .i64 (s : Nat), .slice (some ⟨b, o, none⟩) n c] 117 (0, 0)))] ∧ Below w4.heap.size w4 w') (by first | exact ⟨K4.out.alloc _, (Below.refl _ _).alloc (Nat.le_refl _) _⟩ | exact ⟨kp_set3 K4.out _ _ _, below_new3 _ _ _⟩) fun w5 k5 => ?_
  have K5 := Lib.hid k5.1
  have T5 := Lib.hid (T4.out.kept k5.2)
  have hBlt : w.heap.size < w4.heap.size := lt_of_blk (K4.out.2 _ (.head _))
  obtain ⟨Bt, hBt⟩ : ∃ Bt, w4.heap.size = Bt := ⟨_, rfl⟩
  rw [hBt] at K5 hBlt ⊢
  have HBT := Lib.hid hBlt
  clear k5 K4 T4 hBt hBlt
  go_cut [10] (fun s10 wc => ∃ Ba g1 : Nat, s10 = .pointer (some ⟨Ba, 0, none⟩) ∧ w.heap.size < Ba ∧ Bt ≠ Ba ∧ Kp w wc [(Bt, (.cells #[.int .i64 (s : Nat), .int .i64 (s : Nat), .slice (some ⟨g4, 0, none⟩) n c4] 121 (0, 0))), (Ba, (.cells #[.int .i64 (D : Nat), .int .i64 (D : Nat), .slice (some ⟨g1, 0, none⟩) N N] 121 (0, 0))), (w.heap.size, (.cells #[.int .i64 (s : Nat), .int .i64 (s : Nat), .slice (some ⟨b, o, none⟩) n c] 117 (0, 0)))] ∧ RM wc s s n L g4 0 ∧ RM wc D D N (ringK s L 0) g1 0)
  case first =>
    go_wp2_with (at_make; (refine wpList_make_full _ rfl (.tmp 79) (.tmp 79) 115 rfl w5.heap.size 119 i0 (.float .f32 0) 1 Tryz.underlying115 hi hz0 hz1 .i64 .i64 (N : Int) (N : Int) N rfl rfl rfl rfl (by rw [hz2]; omega) (by unfold maxLen; omega) (by simp) ?_); intro w6 hown6 hgrow6)
    have hb6 := (Below.refl w5.heap.size w5).grown hgrow6 (Nat.le_refl _) (fun j hj => by cases hj)
    have hR6 : RM w6 D D N (ringK s L 0) w5.heap.size 0 := by
      rw [← H0N.out]
      rw [Nat.mul_one, show (Value.float .f32 0).cells = #[.float .f32 0] from rfl, toList_madeCells_one] at hown6
      refine RM.of_cells (by simp) (by omega) (fun j hj => by rw [List.getElem?_replicate, if_pos hj]; simp) ⟨HDs.out.1, HDs.out.2.1⟩ ⟨HDs.out.1, HDs.out.2.1⟩ HDs.out.2.2 ?_ (fun j hj => ?_)
      · rcases hown6.2 with ⟨h, _⟩ | ⟨g', cap, cur, e1, hb, hg, h1, h2, _⟩
        · cases h
        · cases e1; exact lt_of_blk hg
      · have hc := owns_cell hown6 (j := j) (v := .float .f32 0) (by rw [List.getElem?_replicate, if_pos hj])
        rw [hc, List.getElem?_replicate, if_pos hj]
        show some (Value.float .f32 0) = some (.float .f32 (smpOf 0))
        rw [show smpOf 0 = 0 from by decide +kernel]
    have K6 := Lib.hid (K5.out.call hb6)
    have T6 := Lib.hid (T5.out.kept hb6)
    have R6 := Lib.hid hR6
    have hlt : Bt < w6.heap.size := lt_of_blk (K6.out.2 _ (.head _))
    have HLT := Lib.hid hlt
    clear hb6 hown6 hgrow6 hR6 K5 T5 hlt
    go_meet
    first
      | exact ⟨_, _, rfl, Nat.lt_trans HBT.out HLT.out, Nat.ne_of_lt HLT.out, (K6.out.alloc _).swap, T6.out.kept ((Below.refl _ _).alloc (Nat.le_refl _) _), R6.out.kept ((Below.refl _ _).alloc (Nat.le_refl _) _)⟩
      | exact ⟨_, _, rfl, Nat.lt_trans HBT.out HLT.out, Nat.ne_of_lt HLT.out, (kp_set3 K6.out _ _ _).swap, T6.out.kept (below_new3 _ _ _), R6.out.kept (below_new3 _ _ _)⟩
  case rest =>
    rename_i hK
    obtain ⟨Ba, g1, rfl, h1, h2, h3, h4, h5⟩ := hcut
    refine hK _ _ ?_
    clear hK
    obtain ⟨a1, a2, a3, a4, a5, a6, a7, a8, a9, a10, a11, a12⟩ := HG.out
    exact ring9 w s D n N b o c L a1 a2 a3 a4 a5 R a6 Tt a7 a10 sh a11 a12 Bt g4 c4 Ba g1 N HBT.out h1 h2 a8 a9 _ _ _ _ _ _ _ _ _ _ _ _ _ _ _ _ _ _ _ _ _ _ _ _ _ _ _ _ _ _ _ _ _ _ _ _ _ _ _ _ _ _ _ _ _ _ _ _ _ _ _ _ _ _ _ _ _ _ _ _ _ _ _ _ _ _ _ _ _ _ _ _ _ _ _ _ _ _ _ _ _ _ _ _ _ _ _ _ _ _ _ _ _ _ _ _ _ _ _ _ _ _ _ _ _ _ _ _ _ _ _ _ _ _ _ _ _ _ _ _ _ _ _ _ _ _ _ _ _ _ _ _ _ _ _ _ _ _ _ _ _ _ _ _ _ _ _ _ _ _ _ _ _ _ _ _ _ _ _ _ _ _ _ _ _ _ _ _ _ _ _ _ _ _ _ _ _ _ _ _ _ _ _ _ _ _ _ _ _ _ _ _ _ _ _ _ _ _ _ _ _ _ _ _ _ _ _ _ _ _ _ _ _ _ _ _ _ _ _ _ _ _ _ _ _ _ _ _ _ _ _ _ _ _ _ _ _ _ _ _ _ _ _ _ _ _ _ _ _ _ _ _ _ _ _ _ _ _ _ _ _ _ _ _ _ _ _ _ _ _ _ _ _ _ _ _ _ _ h3 h4 h5

set_option maxRecDepth 100000 in
set_option maxHeartbeats 3200000 in
theorem ring_all (w : World) (W H : Int) (a : Option Addr) (n c : Nat) (xs : List Nat) (k8 : Int) (hk : 0 ≤ k8 ∧ k8 ≤ 255) (ht : TabAt w) (hm : MaxAt w) (hA : AnyMap w a n c xs) :
    Calls Tryz.prog 10 #[.agg #[.int .i64 W, .int .i64 H, .slice a n c], .int .u8 k8] w (RingPost w) := by
  have KE : ∀ w1 : World, Below w.heap.size w w1 → Calls Tryz.prog 60 #[.agg #[.int .i64 W, .int .i64 H, .slice a n c], .int .i64 64, .float .f32 1098907648] w1 fun e w' => e = .returned (.bool (ringB W H n xs)) ∧ Below w1.heap.size w1 w' := fun w1 h =>
    ringSmall_all W H a n c xs w1 (hA.below h (Nat.le_refl _))
  have hB0 : Below w.heap.size w (w.alloc (.cells #[.int .i64 W, .int .i64 H, .slice a n c] 117)) := (Below.refl _ w).alloc (Nat.le_refl _) _
  have HB0 := Lib.hid hB0
  clear hB0
  by_cases h1 : W = H
  · subst h1
    have e1 : (W != W) = false := by simp
    by_cases h8 : W ≤ 8
    · have i8 : ¬ ((8 : Int) < W) := by omega
      by_cases hr : ringB W W n xs = true
      · obtain ⟨h0, h64, hsm⟩ := of_decide_eq_true hr
        obtain ⟨s, s', b, o, rfl, e2, rfl, hR⟩ := rm_of_any hA h0
        obtain rfl : s = s' := by omega
        rw [hr] at KE
        have hl := hR.len
        have ha := hR.area
        have hw := hR.wid
        refine ring_walk w s (2 * s) n (2 * s * (2 * s)) b o c _ (by omega) rfl rfl (by rw [hl, ha]) (fun j => ?_) _ rfl _ rfl ha hR k8 hk KE ht hm
        by_cases hj : j < n
        · have h := hsm j hj
          rw [List.getElem?_map]
          rw [List.getElem?_eq_getElem (by have := hA.len; omega)] at h ⊢
          exact h
        · rw [List.getElem?_eq_none (by omega)]; simp
      · rw [Bool.eq_false_iff.2 hr] at KE
        have HS := Lib.hid KE
        clear KE hr hA ht hm h8
        go_enter Tryz.func10, Tryz.ntmps10
        go_wp2_with (first
          | (go_at_call 60; refine (HS.out _ HB0.out).mono ?_; rintro e w1 ⟨rfl, hb1⟩; have HB1 := Lib.hid (HB0.out.trans (hb1.mono HB0.out.size)); clear hb1)
          | (go_at_call 61; refine (emberRing_any _).mono ?_; rintro e w2 ⟨rfl, hb2⟩))
        go_ret
        exact ⟨rfl, HB1.out.trans (hb2.mono HB1.out.size)⟩
    · have i8 : (8 : Int) < W := by omega
      clear KE hA ht hm h8
      go_enter Tryz.func10, Tryz.ntmps10
      go_wp2_with (go_at_call 61; refine (emberRing_any _).mono ?_; rintro e w2 ⟨rfl, hb2⟩)
      go_ret
      exact ⟨rfl, HB0.out.trans (hb2.mono HB0.out.size)⟩
  · have e1 : (W != H) = true := by simp [h1]
    clear KE hA ht hm h1
    go_enter Tryz.func10, Tryz.ntmps10
    go_wp2_with (go_at_call 61; refine (emberRing_any _).mono ?_; rintro e w2 ⟨rfl, hb2⟩)
    go_ret
    exact ⟨rfl, HB0.out.trans (hb2.mono HB0.out.size)⟩
end Go.Proofs.YtpmjiifdnnhecaaGreatDoor
