/-
  Contracts of Part and Placed for every map, every spans, sides and place; the reference's.
-/
import Derived.Test.YthfiilfekofimaaGreatDoorDBv
import Derived.Test.YthfiilfekofimaaGreatDoorDVk
import Derived.Test.YthfiilfekofimaaGreatDoorDZf
import Derived.Test.YthfiilfekofimaaGreatDoorDBg
import Derived.Test.YthfiilfekofimaaGreatDoorDZd
import Derived.Test.YthfiilfekofimaaGreatDoorDXh
import Derived.Test.YthfiilfekofimaaGreatDoorDBn
import Derived.Test.YthfiilfekofimaaGreatDoorDWq
import Derived.Test.YthfiilfekofimaaGreatDoorDXe
namespace Go.Proofs.YthfiilfekofimaaGreatDoor
open Go.RowKit
set_option linter.unusedVariables false
set_option linter.unusedSimpArgs false

theorem spanErr_zero {f t l : Int} (h : spanErr f t l = 0) : 0 ≤ f ∧ f < t ∧ t ≤ l := by
  unfold spanErr at h
  split at h
  · cases h
  · omega
def partErr (W H : Int) (n : Nat) (xs : List Nat) (cf ct rf rt : Int) : Int := if mapErr W H n xs = 0 then firstNZ [spanErr cf ct W, spanErr rf rt H] else mapErr W H n xs
def partL (W H : Int) (ks : List Int) (cf ct rf rt : Int) : List Int := winL W.toNat H.toNat (ct - cf).toNat ((rt - rf).toNat * (ct - cf).toNat) ks cf rf
def placedOk (W H ww hh px py : Int) : Prop := 0 ≤ px ∧ px ≤ ww - W ∧ 0 ≤ py ∧ py ≤ hh - H
instance (W H ww hh px py : Int) : Decidable (placedOk W H ww hh px py) := by unfold placedOk; infer_instance
def placedErr (W H : Int) (n : Nat) (xs : List Nat) (ww hh px py : Int) : Int :=
  if firstNZ [mapErr W H n xs, rangeErr ww 1 64, rangeErr hh 1 64] = 0 then if placedOk W H ww hh px py then 0 else 14 else firstNZ [mapErr W H n xs, rangeErr ww 1 64, rangeErr hh 1 64]
def placedIL (W H : Int) (ks : List Int) (ww hh px py : Int) : List Int := winL W.toNat H.toNat ww.toNat (hh.toNat * ww.toNat) ks (-px) (-py)

theorem part_res (W H : Int) (a : Option Addr) (n c : Nat) (xs : List Nat) (cf ct rf rt : Int) (w : World) (hM : AnyMap w a n c xs) :
    Answers 25 #[.agg #[.int .i64 W, .int .i64 H, .slice a n c], .agg #[.int .i64 cf, .int .i64 ct], .agg #[.int .i64 rf, .int .i64 rt]] w (partErr W H n xs cf ct rf rt) (ct - cf) (rt - rf) (partL W H (xs.map kOf) cf ct rf rt) := by
  unfold partErr
  by_cases h0 : mapErr W H n xs = 0
  · rw [if_pos h0]
    by_cases h1 : firstNZ [spanErr cf ct W, spanErr rf rt H] = 0
    · rw [h1]
      obtain ⟨h2, h3⟩ := firstNZ_two h1
      obtain ⟨s1, s2, s3⟩ := spanErr_zero h2
      obtain ⟨s4, s5, s6⟩ := spanErr_zero h3
      obtain ⟨b, o, rfl, hb, hR⟩ := hM.rightK h0
      obtain ⟨Wn, rfl⟩ := Int.eq_ofNat_of_zero_le (show 0 ≤ W by have := hR.wid; omega)
      obtain ⟨Hn, rfl⟩ := Int.eq_ofNat_of_zero_le (show 0 ≤ H by have := hR.hei; omega)
      obtain ⟨C0, rfl⟩ := Int.eq_ofNat_of_zero_le s1
      obtain ⟨R0, rfl⟩ := Int.eq_ofNat_of_zero_le s4
      obtain ⟨DW, hDW⟩ := Int.eq_ofNat_of_zero_le (show 0 ≤ ct - C0 by omega)
      obtain ⟨DH, hDH⟩ := Int.eq_ofNat_of_zero_le (show 0 ≤ rt - R0 by omega)
      obtain rfl : ct = (C0 : Int) + (DW : Int) := by omega
      obtain rfl : rt = (R0 : Int) + (DH : Int) := by omega
      have hw := hR.wid
      have hh := hR.hei
      have hm : DW * DH ≤ 4096 := Nat.le_trans (Nat.mul_le_mul (show DW ≤ 64 by omega) (show DH ≤ 64 by omega)) (by decide)
      refine (part_any Wn Hn C0 DW R0 DH (by omega) (by omega) b o c n xs _ w hR hb).mono ?_
      rintro e w' ⟨g, rfl, hg, hc, hb'⟩
      rw [hDW, hDH]
      have hval : ∀ j, j < DW * DH → (partL (Wn : Int) (Hn : Int) (xs.map kOf) C0 ((C0 : Int) + (DW : Int)) R0 ((R0 : Int) + (DH : Int)))[j]?.getD 0 = (xs.map kOf)[(R0 + j / DW) * Wn + (C0 + j % DW)]?.getD 0 := fun j hj => by
        have hDp : 0 < DW := by omega
        have hj1 : j / DW < DH := (Nat.div_lt_iff_lt_mul hDp).2 (by rw [Nat.mul_comm]; exact hj)
        have hj2 : j % DW < DW := Nat.mod_lt _ hDp
        unfold partL winL
        rw [hDW, hDH]
        rw [range_get _ _ j (by show j < DH * DW; rw [Nat.mul_comm]; exact hj)]
        unfold levelK
        simp only [Int.toNat_natCast]
        generalize j / DW = q at *
        generalize j % DW = r at *
        rw [if_pos (by omega)]
        have e1 : ((R0 : Int) + (q : Int)).toNat = R0 + q := by omega
        have e2 : ((C0 : Int) + (r : Int)).toNat = C0 + r := by omega
        rw [e1, e2]
      refine ⟨_, _, _, _, _, rfl, ResV.some ?_ hm (fun j hj => ?_) hg (fun j hj => ?_), hb'⟩
      · unfold partL winL; rw [hDW, hDH, List.length_map, List.length_range]; exact Nat.mul_comm _ _
      · rw [hval j hj]; exact ks_at hR.lenk hR.sizes _
      · rw [hval j hj]; exact hc j hj
    · refine (part_span W H a n c cf ct rf rt _ rfl h1 w (fun w1 h => by rw [← h0]; exact check_of W H a n c xs w hM w1 h)).mono ?_
      rintro e w' ⟨rfl, hb'⟩
      exact ⟨_, _, _, _, _, rfl, ResV.none _ _ _ _ _ h1, hb'⟩
  · rw [if_neg h0]
    refine (part_bad W H a n c cf ct rf rt _ h0 w (check_of W H a n c xs w hM)).mono ?_
    rintro e w' ⟨rfl, hb'⟩
    exact ⟨_, _, _, _, _, rfl, ResV.none _ _ _ _ _ h0, hb'⟩

theorem placed_res (W H : Int) (a : Option Addr) (n c : Nat) (xs : List Nat) (ww hh px py : Int) (w : World) (hM : AnyMap w a n c xs) :
    Answers 30 #[.agg #[.int .i64 W, .int .i64 H, .slice a n c], .int .i64 ww, .int .i64 hh, .agg #[.int .i64 px, .int .i64 py]] w (placedErr W H n xs ww hh px py) ww hh (placedIL W H (xs.map kOf) ww hh px py) := by
  unfold placedErr
  by_cases h0 : firstNZ [mapErr W H n xs, rangeErr ww 1 64, rangeErr hh 1 64] = 0
  · rw [if_pos h0]
    obtain ⟨h1, h2, h3⟩ := firstNZ_three h0
    obtain ⟨b, o, rfl, hb, hR⟩ := hM.rightK h1
    have hw := hR.wid
    have hhe := hR.hei
    have r1 := rangeErr_zero h2
    have r2 := rangeErr_zero h3
    by_cases hp : placedOk W H ww hh px py
    · rw [if_pos hp]
      obtain ⟨p1, p2, p3, p4⟩ := hp
      obtain ⟨Wn, rfl⟩ := Int.eq_ofNat_of_zero_le (show 0 ≤ W by omega)
      obtain ⟨Hn, rfl⟩ := Int.eq_ofNat_of_zero_le (show 0 ≤ H by omega)
      obtain ⟨WW, rfl⟩ := Int.eq_ofNat_of_zero_le (show 0 ≤ ww by omega)
      obtain ⟨HH, rfl⟩ := Int.eq_ofNat_of_zero_le (show 0 ≤ hh by omega)
      obtain ⟨PX, rfl⟩ := Int.eq_ofNat_of_zero_le p1
      obtain ⟨PY, rfl⟩ := Int.eq_ofNat_of_zero_le p3
      have hm : WW * HH ≤ 4096 := Nat.le_trans (Nat.mul_le_mul (show WW ≤ 64 by omega) (show HH ≤ 64 by omega)) (by decide)
      refine (placed_any Wn Hn WW HH PX PY (by omega) (by omega) (by omega) (by omega) b o c n xs _ w hR hb).mono ?_
      rintro e w' ⟨g, rfl, hg, hc, hb'⟩
      have hval : ∀ j, j < WW * HH → (placedIL (Wn : Int) (Hn : Int) (xs.map kOf) WW HH PX PY)[j]?.getD 0 = placedK Wn Hn PX PY (xs.map kOf) (j % WW, j / WW) := fun j hj => by
        unfold placedIL winL
        simp only [Int.toNat_natCast]
        rw [range_get _ _ j (by rw [Nat.mul_comm]; exact hj)]
        unfold levelK placedK
        by_cases hq : PX ≤ j % WW ∧ j % WW < PX + Wn ∧ PY ≤ j / WW ∧ j / WW < PY + Hn
        · rw [if_pos hq, if_pos (by omega)]
          have e1 : (-(PX : Int) + ((j % WW : Nat) : Int)).toNat = j % WW - PX := by omega
          have e2 : (-(PY : Int) + ((j / WW : Nat) : Int)).toNat = j / WW - PY := by omega
          rw [e1, e2]
        · rw [if_neg hq, if_neg (by omega)]
      refine ⟨_, _, _, _, _, rfl, ResV.some ?_ hm (fun j hj => ?_) hg (fun j hj => ?_), hb'⟩
      · unfold placedIL winL; rw [List.length_map, List.length_range]; exact Nat.mul_comm _ _
      · rw [hval j hj]; unfold placedK; split
        · exact ks_at hR.lenk hR.sizes _
        · decide
      · rw [hval j hj]; exact hc j hj
    · rw [if_neg hp]
      refine (placed_span W H _ n c ww hh px py _ _ rfl h0 hw hhe r1 r2 hp w (check_of W H _ n c xs w hM)).mono ?_
      rintro e w' ⟨rfl, hb'⟩
      exact ⟨_, _, _, _, _, rfl, ResV.none _ _ _ _ _ (by decide), hb'⟩
  · rw [if_neg h0]
    refine (placed_bad W H a n c ww hh px py _ _ rfl h0 w (check_of W H a n c xs w hM)).mono ?_
    rintro e w' ⟨rfl, hb'⟩
    exact ⟨_, _, _, _, _, rfl, ResV.none _ _ _ _ _ h0, hb'⟩
end Go.Proofs.YthfiilfekofimaaGreatDoor

/-
  What Part, At, Peak, Placed and Added make of right maps in memory, by their integers.
-/
namespace Go.Proofs.YthfiilfekofimaaGreatDoor
open Go.RowKit
set_option linter.unusedVariables false
set_option linter.unusedSimpArgs false

theorem RM.sizes {w : World} {W H n b o : Nat} {L : List Int} (h : RM w W H n L b o) : ∀ j, j < n → (L[j]?.getD 0).natAbs ≤ 16384 := by obtain ⟨_, xs, h2⟩ := h; exact h2.sizes
theorem RM.wid {w : World} {W H n b o : Nat} {L : List Int} (h : RM w W H n L b o) : 1 ≤ W ∧ W ≤ 64 := by
  obtain ⟨_, xs, h2⟩ := h
  have := h2.wid
  omega
theorem RM.hei {w : World} {W H n b o : Nat} {L : List Int} (h : RM w W H n L b o) : 1 ≤ H ∧ H ≤ 64 := by
  obtain ⟨_, xs, h2⟩ := h
  have := h2.hei
  omega
theorem RM.small {w : World} {W H n b o : Nat} {L : List Int} (h : RM w W H n L b o) : n ≤ 4096 := by obtain ⟨_, xs, h2⟩ := h; exact h2.small
theorem rm_lightCheck {w : World} {W H n b o : Nat} {L : List Int} (h : RM w W H n L b o) (c : Nat) :
    Calls Tryz.prog 67 #[.agg #[.int .i64 W, .int .i64 H, .slice (some ⟨b, o, none⟩) n c]] w fun e w' => e = .returned (.int .i64 0) ∧ Below w.heap.size w w' := by
  obtain ⟨h1, xs, h2⟩ := h
  exact checkMap_any W H b o n c xs L w h2 h1

theorem rm_part {w : World} {W H n b o : Nat} {L : List Int} (h : RM w W H n L b o) (c : Nat) {C0 DW R0 DH : Nat} (hC : 1 ≤ DW ∧ C0 + DW ≤ W) (hR : 1 ≤ DH ∧ R0 + DH ≤ H) (c1 r1 : Int) (hc : c1 = (C0 : Int) + (DW : Int)) (hr : r1 = (R0 : Int) + (DH : Int)) :
    GivesMap 25 #[.agg #[.int .i64 W, .int .i64 H, .slice (some ⟨b, o, none⟩) n c], .agg #[.int .i64 C0, .int .i64 c1], .agg #[.int .i64 R0, .int .i64 r1]] w DW DH (DW * DH) (pieceK W C0 DW R0 DH L) := by
  have hw := h.wid
  have hh := h.hei
  have ha := h.area
  have hsz := h.sizes
  obtain ⟨h1, xs, h2⟩ := h
  subst hc hr
  refine (part_any W H C0 DW R0 DH hC hR b o c n xs L w h2 h1).mono ?_
  rintro e w' ⟨g, he, hg, hcell, hb⟩
  refine ⟨g, he, RM.of_cells (pieceK_len ..) (Nat.le_trans (Nat.mul_le_mul (show DW ≤ 64 by omega) (show DH ≤ 64 by omega)) (by decide)) (fun j hj => ?_) (by omega) (by omega) (Nat.mul_comm ..) hg (fun j hj => by rw [pieceK_get hj]; exact hcell j hj), hb⟩
  rw [pieceK_get hj]
  have hx : j % DW < DW := Nat.mod_lt _ (by omega)
  have hy : j / DW < DH := (Nat.div_lt_iff_lt_mul (by omega)).2 (by rw [Nat.mul_comm DH DW]; exact hj)
  exact hsz _ (by rw [← ha]; exact place_in (by omega) (by omega))

theorem spanErr_cases (f t l : Int) : spanErr f t l = 0 ∨ spanErr f t l = 14 := by
  unfold spanErr; split
  · exact .inr rfl
  · exact .inl rfl
theorem rm_part_none {w : World} {W H n b o : Nat} {L : List Int} (h : RM w W H n L b o) (c : Nat) (c0 c1 r0 r1 : Int) (he : c0 = c1 ∨ r0 = r1) :
    Calls Tryz.prog 25 #[.agg #[.int .i64 W, .int .i64 H, .slice (some ⟨b, o, none⟩) n c], .agg #[.int .i64 c0, .int .i64 c1], .agg #[.int .i64 r0, .int .i64 r1]] w fun e w' =>
      e = .returned (.tuple #[.agg #[.int .i64 0, .int .i64 0, .slice none 0 0], .int .i64 14]) ∧ Below w.heap.size w w' := by
  refine part_span W H _ n c c0 c1 r0 r1 14 ?_ (by decide) w fun w1 h1 => ?_
  · rcases spanErr_cases c0 c1 W with e1 | e1
    · rcases spanErr_cases r0 r1 H with e2 | e2
      · exfalso
        have k1 := spanErr_zero e1
        have k2 := spanErr_zero e2
        omega
      · rw [e1, e2]; rfl
    · rw [e1]; rfl
  · exact rm_lightCheck (h.kept h1) c

theorem rm_at {w : World} {W H n b o : Nat} {L : List Int} (h : RM w W H n L b o) (c : Nat) {X Y : Nat} (hX : X < W) (hY : Y < H) :
    Calls Tryz.prog 27 #[.agg #[.int .i64 W, .int .i64 H, .slice (some ⟨b, o, none⟩) n c], .agg #[.int .i64 X, .int .i64 Y]] w fun e w' =>
      e = .returned (.tuple #[.float .f32 (smpOf (L[Y * W + X]?.getD 0)), .int .i64 0]) ∧ Below w.heap.size w w' := by
  obtain ⟨h1, xs, h2⟩ := h
  exact lightAt_any W H b o n c xs L w h2 h1 X Y hX hY
theorem rm_peak {w : World} {W H n b o : Nat} {L : List Int} (h : RM w W H n L b o) (c : Nat) :
    Calls Tryz.prog 29 #[.agg #[.int .i64 W, .int .i64 H, .slice (some ⟨b, o, none⟩) n c]] w fun e w' =>
      e = .returned (.tuple #[.float .f32 (smpOf (L[pkTo L n]?.getD 0)), .agg #[.int .i64 ((pkTo L n % W : Nat) : Int), .int .i64 ((pkTo L n / W : Nat) : Int)], .int .i64 0]) ∧ Below w.heap.size w w' := by
  have ha := h.area
  have hw := h.wid
  obtain ⟨h1, xs, h2⟩ := h
  have k := peak_any W H b o c n xs L w h2 h1
  rw [ha, peakTo_pk W L (by omega) n] at k
  have e : pkTo L n / W * W + pkTo L n % W = pkTo L n := by rw [Nat.mul_comm]; exact Nat.div_add_mod _ _
  dsimp only at k
  rw [e] at k
  exact k

/-- The integers of a map that is placed. -/
def placeK (W H PX PY WW N : Nat) (L : List Int) : List Int := (List.range N).map (fun j => placedK W H PX PY L (j % WW, j / WW))
theorem placeK_get {W H PX PY WW N : Nat} {L : List Int} {j : Nat} (hj : j < N) : (placeK W H PX PY WW N L)[j]?.getD 0 = placedK W H PX PY L (j % WW, j / WW) := by
  unfold placeK; rw [List.getElem?_map, List.getElem?_range hj]; rfl
theorem rm_placed {w : World} {W H n b o : Nat} {L : List Int} (h : RM w W H n L b o) (c : Nat) {WW HH PX PY N : Nat} (hX : PX + W ≤ WW) (hY : PY + H ≤ HH) (hWW : WW ≤ 64) (hHH : HH ≤ 64) (hN : HH * WW = N) :
    GivesMap 30 #[.agg #[.int .i64 W, .int .i64 H, .slice (some ⟨b, o, none⟩) n c], .int .i64 WW, .int .i64 HH, .agg #[.int .i64 PX, .int .i64 PY]] w WW HH N (placeK W H PX PY WW N L) := by
  have hw := h.wid
  have hh := h.hei
  have ha := h.area
  have hsz := h.sizes
  obtain ⟨h1, xs, h2⟩ := h
  have hN' : WW * HH = N := by rw [Nat.mul_comm]; exact hN
  have k := placed_any W H WW HH PX PY hX hY hWW hHH b o c n xs L w h2 h1
  rw [hN'] at k
  refine k.mono ?_
  rintro e w' ⟨g, he, hg, hcell, hb⟩
  refine ⟨g, he, RM.of_cells (by simp [placeK]) (by rw [← hN]; exact Nat.le_trans (Nat.mul_le_mul hHH hWW) (by decide)) (fun j hj => ?_) (by omega) (by omega) hN hg (fun j hj => by rw [placeK_get hj]; exact hcell j hj), hb⟩
  rw [placeK_get hj]
  unfold placedK
  split
  · rename_i hin
    exact hsz _ (by rw [← ha]; exact place_in (by omega) (by omega))
  · simp

theorem rm_placed_res {w : World} {W H n b o : Nat} {L : List Int} (h : RM w W H n L b o) (c : Nat) {WW HH PX PY N : Nat} (hX : PX + W ≤ WW) (hY : PY + H ≤ HH) (hWW : WW ≤ 64) (hHH : HH ≤ 64) (hN : HH * WW = N) :
    Calls Tryz.prog 30 #[.agg #[.int .i64 W, .int .i64 H, .slice (some ⟨b, o, none⟩) n c], .int .i64 WW, .int .i64 HH, .agg #[.int .i64 PX, .int .i64 PY]] w fun e w' =>
      ∃ g, e = .returned (.tuple #[.agg #[.int .i64 WW, .int .i64 HH, .slice (some ⟨g, 0, none⟩) N N], .int .i64 0]) ∧ ResV w' 0 (WW : Int) (HH : Int) (placeK W H PX PY WW N L) (WW : Int) (HH : Int) (some ⟨g, 0, none⟩) N N ∧ Below w.heap.size w w' := by
  have ha := h.area
  have hsz := h.sizes
  obtain ⟨h1, xs, h2⟩ := h
  have hN' : WW * HH = N := by rw [Nat.mul_comm]; exact hN
  have k := placed_any W H WW HH PX PY hX hY hWW hHH b o c n xs L w h2 h1
  rw [hN'] at k
  refine k.mono ?_
  rintro e w' ⟨g, he, hg, hcell, hb⟩
  refine ⟨g, he, ResV.some (by simp [placeK]) (by rw [← hN]; exact Nat.le_trans (Nat.mul_le_mul hHH hWW) (by decide)) (fun j hj => ?_) hg (fun j hj => by rw [placeK_get hj]; exact hcell j hj), hb⟩
  rw [placeK_get hj]
  unfold placedK
  split
  · rename_i hin
    exact hsz _ (by rw [← ha]; exact place_in (by omega) (by omega))
  · simp
theorem rm_part_res {w : World} {W H n b o : Nat} {L : List Int} (h : RM w W H n L b o) (c : Nat) {C0 DW R0 DH N : Nat} (hC : 1 ≤ DW ∧ C0 + DW ≤ W) (hR : 1 ≤ DH ∧ R0 + DH ≤ H) (c1 r1 : Int) (hc : c1 = (C0 : Int) + (DW : Int)) (hr : r1 = (R0 : Int) + (DH : Int)) (hN : DW * DH = N) :
    Calls Tryz.prog 25 #[.agg #[.int .i64 W, .int .i64 H, .slice (some ⟨b, o, none⟩) n c], .agg #[.int .i64 C0, .int .i64 c1], .agg #[.int .i64 R0, .int .i64 r1]] w fun e w' =>
      ∃ g, e = .returned (.tuple #[.agg #[.int .i64 DW, .int .i64 DH, .slice (some ⟨g, 0, none⟩) N N], .int .i64 0]) ∧ ResV w' 0 (DW : Int) (DH : Int) (pieceK W C0 DW R0 DH L) (DW : Int) (DH : Int) (some ⟨g, 0, none⟩) N N ∧ Below w.heap.size w w' := by
  have hw := h.wid
  have hh := h.hei
  have ha := h.area
  have hsz := h.sizes
  obtain ⟨h1, xs, h2⟩ := h
  subst hc hr
  have k := part_any W H C0 DW R0 DH hC hR b o c n xs L w h2 h1
  refine k.mono ?_
  rw [hN]
  rintro e w' ⟨g, he, hg, hcell, hb⟩
  refine ⟨g, he, ResV.some (by rw [pieceK_len]; exact hN) (by rw [← hN]; exact Nat.le_trans (Nat.mul_le_mul (show DW ≤ 64 by omega) (show DH ≤ 64 by omega)) (by decide)) (fun j hj => ?_) hg (fun j hj => by rw [pieceK_get (by omega)]; exact hcell j hj), hb⟩
  rw [pieceK_get (by omega)]
  have hx : j % DW < DW := Nat.mod_lt _ (by omega)
  have hy : j / DW < DH := (Nat.div_lt_iff_lt_mul (by omega)).2 (by rw [Nat.mul_comm DH DW]; omega)
  exact hsz _ (by rw [← ha]; exact place_in (by omega) (by omega))

/-- The sums of two lists of integers. -/
def addK (n : Nat) (L M : List Int) : List Int := (List.range n).map (fun j => L[j]?.getD 0 + M[j]?.getD 0)
theorem addK_get {n : Nat} {L M : List Int} {j : Nat} (hj : j < n) : (addK n L M)[j]?.getD 0 = L[j]?.getD 0 + M[j]?.getD 0 := by
  unfold addK; rw [List.getElem?_map, List.getElem?_range hj]; rfl
theorem rm_added {w : World} {W H n b o b' o' : Nat} {L M : List Int} (h : RM w W H n L b o) (h' : RM w W H n M b' o') (c c' : Nat) (hs : ∀ j, j < n → (L[j]?.getD 0 + M[j]?.getD 0 : Int).natAbs ≤ 16384) :
    GivesMap 31 #[.agg #[.int .i64 W, .int .i64 H, .slice (some ⟨b, o, none⟩) n c], .agg #[.int .i64 W, .int .i64 H, .slice (some ⟨b', o', none⟩) n c']] w W H n (addK n L M) := by
  have hw := h.wid
  have hh := h.hei
  have ha := h.area
  have hn := h.small
  have hl := h.len
  have hl' := h'.len
  obtain ⟨h1, xs, h2⟩ := h
  obtain ⟨g1, ys, g2⟩ := h'
  refine (added_any W H b o c b' o' c' n xs ys L M w h2 g2 h1 g1 (fun j => ?_)).mono ?_
  · by_cases hj : j < n
    · exact hs j hj
    · rw [List.getElem?_eq_none (by omega), List.getElem?_eq_none (by omega)]; decide
  · rintro e w' ⟨g, he, hg, hcell, hb⟩
    exact ⟨g, he, RM.of_cells (by simp [addK]) hn (fun j hj => by rw [addK_get hj]; exact hs j hj) (by omega) (by omega) ha hg (fun j hj => by rw [addK_get hj]; exact hcell j hj), hb⟩
/-- What was covered, and the placed part, is what is covered then. -/
theorem cov_placed {W H n C0 DW R0 DH : Nat} (hn : H * W = n) (hC : C0 + DW ≤ W) (hR : R0 + DH ≤ H) (L : List Int) :
    addK n (covK W n C0 (C0 + DW) R0 L) (placeK DW DH C0 R0 W n (pieceK W C0 DW R0 DH L)) = covK W n C0 (C0 + DW) (R0 + DH) L := by
  refine List.ext_getElem (by simp [addK, covK]) fun i h1 h2 => ?_
  have hi : i < n := by simpa [addK] using h1
  have k := cov_add hn hC hR L hi
  have e := addK_get (L := covK W n C0 (C0 + DW) R0 L) (M := placeK DW DH C0 R0 W n (pieceK W C0 DW R0 DH L)) hi
  rw [placeK_get hi, k, List.getElem?_eq_getElem h1, List.getElem?_eq_getElem h2] at e
  exact e
end Go.Proofs.YthfiilfekofimaaGreatDoor

/-
  Bytes in memory; blocks that lie in a world through calls, allocations and stores.
-/
namespace Go.Proofs.YthfiilfekofimaaGreatDoor
open Go.RowKit
set_option linter.unusedVariables false
set_option linter.unusedSimpArgs false

def byteAt (F : List Int) (j : Nat) : Int := F[j]?.getD 0
def BytesV (S : List Int) (n : Nat) : Prop := S.length = n ∧ ∀ v ∈ S, 0 ≤ v ∧ v ≤ 255
def AnyBytes (w : World) (a : Option Addr) (n : Nat) (S : List Int) : Prop := BytesV S n ∧ ∀ j, j < n → ∃ b q, a = some ⟨b, q, none⟩ ∧ b < w.heap.size ∧ w.rangeAt b q (S.map (Value.int .u8))
theorem AnyBytes.kept {w w' : World} {a : Option Addr} {n : Nat} {S : List Int} (h : AnyBytes w a n S) (hb : Below w.heap.size w w') : AnyBytes w' a n S :=
  ⟨h.1, fun j hj => by
    obtain ⟨b, q, e, h1, h2⟩ := h.2 j hj
    exact ⟨b, q, e, Nat.lt_of_lt_of_le h1 hb.size, fun i v hv => by rw [hb.cell (by exact h1)]; exact h2 i v hv⟩⟩

/-- These blocks lie so, and nothing below has changed. -/
def Kp (w w' : World) (l : List (Nat × Obj)) : Prop := Below w.heap.size w w' ∧ ∀ p ∈ l, w'.heap[p.1]? = some p.2
theorem Kp.none (w : World) : Kp w w [] := ⟨Below.refl _ _, fun p h => nomatch h⟩
theorem Kp.call {w w1 w2 : World} {l : List (Nat × Obj)} (h : Kp w w1 l) (hb : Below w1.heap.size w1 w2) : Kp w w2 l :=
  ⟨h.1.trans (hb.mono h.1.size), fun p hp => (hb.block _ (lt_of_blk (h.2 p hp))).trans (h.2 p hp)⟩
theorem Kp.kept {w w1 w2 : World} {l : List (Nat × Obj)} (h : Kp w w1 l) (hb : Below w.heap.size w w2) (hq : ∀ p ∈ l, w2.heap[p.1]? = w1.heap[p.1]?) : Kp w w2 l :=
  ⟨hb, fun p hp => (hq p hp).trans (h.2 p hp)⟩
theorem Kp.alloc {w w1 : World} {l : List (Nat × Obj)} (h : Kp w w1 l) (o : Obj) : Kp w (w1.alloc o) ((w1.heap.size, o) :: l) :=
  ⟨h.1.alloc h.1.size o, fun p hp => by
    rcases List.mem_cons.1 hp with rfl | hp
    · exact blk_alloc_new _ _
    · exact blk_alloc_other (h.2 p hp) o⟩
theorem Kp.setHead {w w1 : World} {l : List (Nat × Obj)} {g : Nat} {cur : Array Value} {T : TypeId} (h : Kp w w1 ((g, .cells cur T (0, 0)) :: l)) (cs : Array Value) (hg : w.heap.size ≤ g) (hne : ∀ p ∈ l, p.1 ≠ g) :
    Kp w (w1.setRow g cs) ((g, .cells cs T (0, 0)) :: l) :=
  ⟨h.1.trans ((OnlyBlk.setRow w1 g cs).below h.1.size hg), fun p hp => by
    rcases List.mem_cons.1 hp with rfl | hp
    · exact setRow_heap w1 _ _ _ _ _ (h.2 _ (.head _))
    · exact ((OnlyBlk.setRow w1 g cs).1.block _ (lt_of_blk (h.2 p (.tail _ hp))) (by intro e; exact hne p hp (Option.some.inj e))).trans (h.2 p (.tail _ hp))⟩

theorem Kp.stored {w w1 : World} {l : List (Nat × Obj)} (h : Kp w w1 l) (cur cs : Array Value) (T : TypeId) : Kp w ((w1.alloc (.cells cur T)).setRow w1.heap.size cs) ((w1.heap.size, .cells cs T) :: l) :=
  (h.alloc (.cells cur T)).setHead cs h.1.size (fun p hp => Nat.ne_of_lt (lt_of_blk (h.2 p hp)))

/-- A row of bytes is a slice of bytes. -/
theorem AnyBytes.of_row {w : World} {B n : Nat} {v : Value} {S : List Int} (hS : BytesV S n) (h : w.ownsRow B 5 1 v n (S.map (Value.int .u8))) :
    ∃ a c, v = .slice a n c ∧ n ≤ c ∧ c ≤ 9223372036854775807 ∧ AnyBytes w a n S := by
  rcases h.2 with ⟨rfl, rfl⟩ | ⟨g, cap, cur, rfl, hb, hg, h1, h2, _⟩
  · exact ⟨none, 0, rfl, Nat.le_refl _, by omega, hS, fun j hj => absurd hj (by omega)⟩
  · exact ⟨_, _, rfl, h1, by unfold maxLen at h2; omega, hS, fun j hj => ⟨g, 0, rfl, lt_of_blk hg, fun i u hu => by
      have h3 := h.cells (g := g) rfl i u hu
      rwa [Addr.add_mid] at h3⟩⟩
theorem Kp.below {w w1 : World} {l : List (Nat × Obj)} (h : Kp w w1 l) : Below w.heap.size w w1 := h.1
end Go.Proofs.YthfiilfekofimaaGreatDoor
