/-
  The walk of LightMaps from region 10 on, and its contract.
-/
import Derived.Test.YtljfdmoknkhekaaGreatDoorCBh
namespace Go.Proofs.YtljfdmoknkhekaaGreatDoor
open Go.RowKit Go.Shelf
set_option linter.unusedVariables false
set_option linter.unusedSimpArgs false

theorem number_ok (t r : Int) (h : r ≠ 0 → t = 0) (w : World) :
    Calls Tryz.prog 22 #[.int .i64 t, .int .i64 r, .int .i64 r, .int .i64 t] w fun e w' => e = .returned (.bool true) ∧ w = w' := by
  have hs := number_same t r w
  by_cases h0 : r = 0
  · rwa [if_pos h0] at hs
  · rw [if_neg h0] at hs
    rw [h h0]; exact hs

set_option maxRecDepth 1000000 in
set_option maxHeartbeats 12800000 in
theorem maps16 (w : World) (W H : Int) (a : Option Addr) (n c : Nat) (xs : List Nat) (X Y : Int) (v : Nat) (r2 t r : Int) (pv : Nat) (px py : Int) (hC : MapsC W H a n c xs X Y v r2 t r pv px py) (ht : TabAt w) (hrt : r ≠ 0 → t = 0) : Mps16 w W H a n c xs X Y v r2 t r pv px py := by
  unfold Mps16
  intro wx Bm Bp B10 B17 v' pv' u18 u19 u20 u21 u22 u23 u24 u25 u26 u27 u28 u29 u30 u31 u32 u33 u34 u35 u36 u37 u38 u39 u40 u41 u42 u43 u44 u45 u46 u47 u48 u49 u50 u51 u52 u53 u54 u55 u56 u57 u58 u59 u60 u61 u62 u63 u64 u65 u66 u67 u68 u69 u70 u71 u72 u73 u74 u75 u76 u77 u78 u79 u80 u81 u82 u83 u84 u85 u86 u87 u88 u89 u90 u91 u92 u93 u94 u95 u96 u97 u98 u99 u100 u101 u102 u103 u104 u105 u106 u107 u108 u109 u110 u111 u112 u113 u114 u115 u116 u117 u118 u119 u120 u121 u122 u123 u124 u125 u126 u127 u128 u129 u130 hM f10 f17 hv hpv
  conv => arg 2; whnf
  dsimp only
  have hmap := hM.map
  obtain ⟨c0, c1, c2⟩ := map_cells hM.bm
  have KO := Lib.hid (hC.own wx hmap)
  have KA := Lib.hid hC.chk
  have KN := Lib.hid (number_ok t r hrt)
  have HT := Lib.hid ht
  have HMB := Lib.hid hM.below
  have H10 := Lib.hid f10
  have H17 := Lib.hid f17
  clear hC hmap hrt ht hM f10 f17
  go_upto_region 16 with fail
  go_wp2_with (first
    | (go_at_call 12; refine KO.out.mono ?_; rintro e w1 ⟨g, c', rfl, hm1, hb1⟩)
    | ((go_at_call 21; refine (KA.out _ _ _ hm1).mono ?_; rintro e w2 ⟨rfl, hb3⟩
        have hb4 := hb1.trans (hb3.mono hb1.size)
        have HB4 := Lib.hid hb4
        obtain ⟨x0, x1⟩ := pt_cells (H10.out.kept hb4)
        obtain ⟨y0, y1⟩ := pt_cells (H17.out.kept hb4)
        have K5 := Lib.hid (awake_any w2 ((HT.out.on HMB.out).on hb4))
        clear hb1 hb3 hb4 hm1 c0 c1 c2))
    | (go_at_call 22; refine (KN.out _).mono ?_; rintro e w3 ⟨rfl, rfl⟩)
    | (go_at_call 10; refine K5.out.mono ?_; rintro e w4 ⟨rfl, hb5⟩))
  go_ret
  exact ⟨rfl, (HMB.out.trans (HB4.out.mono HMB.out.size)).trans (hb5.mono (Nat.le_trans HMB.out.size HB4.out.size))⟩

set_option maxRecDepth 1000000 in
set_option maxHeartbeats 12800000 in
theorem maps14_skip (w : World) (W H : Int) (a : Option Addr) (n c : Nat) (xs : List Nat) (X Y : Int) (v : Nat) (r2 t r : Int) (pv : Nat) (px py : Int) (h : r ≠ 0 ∨ r2 ≠ 0) (hv0 : (FloatKind.f32.format.order v 0 == some .eq) = true) (hT : Mps16 w W H a n c xs X Y v r2 t r pv px py) : Mps14 w W H a n c xs X Y v r2 t r pv px py := by
  unfold Mps14
  intro wx Bm Bp B10 B17 pv' u18 u19 u20 u21 u22 u23 u24 u25 u26 u27 u28 u29 u30 u31 u32 u33 u34 u35 u36 u37 u38 u39 u40 u41 u42 u43 u44 u45 u46 u47 u48 u49 u50 u51 u52 u53 u54 u55 u56 u57 u58 u59 u60 u61 u62 u63 u64 u65 u66 u67 u68 u69 u70 u71 u72 u73 u74 u75 u76 u77 u78 u79 u80 u81 u82 u83 u84 u85 u86 u87 u88 u89 u90 u91 u92 u93 u94 u95 u96 u97 u98 u99 u100 u101 u102 u103 u104 u105 u106 u107 u108 u109 u110 u111 u112 u113 u114 u115 u116 u117 u118 u119 u120 u121 u122 u123 u124 u125 u126 u127 u128 u129 u130 hM f10 f17 hpv
  conv => arg 2; whnf
  dsimp only
  have e0 : (r == 0 && r2 == 0) = false := by
    rcases h with h | h <;> simp [h]
  go_upto_region 14 with fail
  go_cut [83] (fun s83 wr => s83 = .bool false ∧ Below wx.heap.size wx wr)
  case first =>
    clear hT
    by_cases h1 : r = 0
    · have h2 : r2 ≠ 0 := h.resolve_left (fun h => h h1)
      have t1 : (r == 0) = true := by simp [h1]
      have t2 : (r2 == 0) = false := by simp [h2]
      clear e0 h h1 h2
      go_wp2_with fail
      go_meet
      exact ⟨rfl, Below.refl _ _⟩
    · have t1 : (r == 0) = false := by simp [h1]
      clear e0 h h1
      go_wp2_with fail
      go_meet
      exact ⟨rfl, Below.refl _ _⟩
  case rest =>
    rename_i K1 hK1 K0 hK
    obtain ⟨rfl, hb⟩ := hcut
    refine hK _ _ ?_
    clear hK e0 h
    have HK1 := Lib.hid hK1
    clear hK1
    go_wp2_with fail
    refine HK1.out _ _ ?_
    unfold Mps16 at hT
    exact hT _ _ _ _ _ 0 pv' _ _ _ _ _ _ _ _ _ _ _ _ _ _ _ _ _ _ _ _ _ _ _ _ _ _ _ _ _ _ _ _ _ _ _ _ _ _ _ _ _ _ _ _ _ _ _ _ _ _ _ _ _ _ _ _ _ _ _ _ _ _ _ _ _ _ _ _ _ _ _ _ _ _ _ _ _ _ _ _ _ _ _ _ _ _ _ _ _ _ _ _ _ _ _ _ _ _ _ _ _ _ _ _ _ _ _ _ _ _ _ _ _  (hM.kept hb) (f10.kept hb) (f17.kept hb) hv0 hpv

set_option maxRecDepth 1000000 in
set_option maxHeartbeats 12800000 in
theorem maps14_in (w : World) (W H : Nat) (b o n c : Nat) (xs : List Nat) (X Y : Nat) (v : Nat) (t : Int) (pv : Nat) (px py : Int) (hR : RightMap w W H b o n xs (xs.map kOf)) (hb : b < w.heap.size) (hX : X < W) (hY : Y < H) (hv : v = smpOf ((xs.map kOf)[Y * W + X]?.getD 0)) (hvv : (FloatKind.f32.format.order v v == some .eq) = true) (hT : Mps16 w W H (some ⟨b, o, none⟩) n c xs X Y v 0 t 0 pv px py) : Mps14 w W H (some ⟨b, o, none⟩) n c xs X Y v 0 t 0 pv px py := by
  unfold Mps14
  intro wx Bm Bp B10 B17 pv' u18 u19 u20 u21 u22 u23 u24 u25 u26 u27 u28 u29 u30 u31 u32 u33 u34 u35 u36 u37 u38 u39 u40 u41 u42 u43 u44 u45 u46 u47 u48 u49 u50 u51 u52 u53 u54 u55 u56 u57 u58 u59 u60 u61 u62 u63 u64 u65 u66 u67 u68 u69 u70 u71 u72 u73 u74 u75 u76 u77 u78 u79 u80 u81 u82 u83 u84 u85 u86 u87 u88 u89 u90 u91 u92 u93 u94 u95 u96 u97 u98 u99 u100 u101 u102 u103 u104 u105 u106 u107 u108 u109 u110 u111 u112 u113 u114 u115 u116 u117 u118 u119 u120 u121 u122 u123 u124 u125 u126 u127 u128 u129 u130 hM f10 f17 hpv
  conv => arg 2; whnf
  dsimp only
  have hlt : Y * W + X < n := idx_lt (p := (X, Y)) hX hY (by have := hR.area; exact_mod_cast this)
  have HSZ := Lib.hid (Nat.lt_of_le_of_lt (hR.sizes _ hlt) (show 16384 < 2 ^ 24 by decide))
  have KL := Lib.hid (refLevel_any W H b o n c xs _ wx (hR.below hM.below hb) (by have := hM.below.size; omega) X Y hX hY)
  obtain ⟨c0, c1, c2⟩ := map_cells hM.bm
  obtain ⟨p0, p1⟩ := pt_cells hM.bp
  have HV := Lib.hid hv
  have HM := Lib.hid hM
  have H10 := Lib.hid f10
  have H17 := Lib.hid f17
  have HVV := Lib.hid hvv
  have HPV := Lib.hid hpv
  have HTT := Lib.hid hT
  clear hR hlt hv hM f10 f17 hvv hpv hT hX hY
  generalize hk : (xs.map kOf)[Y * W + X]?.getD 0 = k at *
  clear hk
  go_upto_region 14 with fail
  go_cut [83] (fun s83 wr => s83 = .bool true ∧ wr = wx)
  case first =>
    go_wp2_with fail
    go_meet
    exact ⟨rfl, rfl⟩
  case rest =>
    rename_i K1 hK1 K0 hK
    obtain ⟨rfl, rfl⟩ := hcut
    refine hK _ _ ?_
    clear hK
    have HK1 := Lib.hid hK1
    clear hK1
    go_wp2_with (first
      | (go_at_call 20; refine KL.out.mono ?_; rintro e w1 ⟨rfl, hb1⟩)
      | (go_at_call 19; refine (refSample_any _ HSZ.out _).mono ?_; rintro e w2 ⟨rfl, rfl⟩))
    refine HK1.out _ _ ?_
    have hT := HTT.out
    have hv := HV.out
    subst hv
    unfold Mps16 at hT
    exact hT _ _ _ _ _ _ pv' _ _ _ _ _ _ _ _ _ _ _ _ _ _ _ _ _ _ _ _ _ _ _ _ _ _ _ _ _ _ _ _ _ _ _ _ _ _ _ _ _ _ _ _ _ _ _ _ _ _ _ _ _ _ _ _ _ _ _ _ _ _ _ _ _ _ _ _ _ _ _ _ _ _ _ _ _ _ _ _ _ _ _ _ _ _ _ _ _ _ _ _ _ _ _ _ _ _ _ _ _ _ _ _ _ _ _ _ _ _ _ _ _  (HM.out.kept hb1) (H10.out.kept hb1) (H17.out.kept hb1) HVV.out HPV.out

set_option maxRecDepth 1000000 in
set_option maxHeartbeats 12800000 in
theorem maps10_bad (w : World) (W H : Int) (a : Option Addr) (n c : Nat) (xs : List Nat) (X Y r : Int) (hr : r ≠ 0) (hT : Mps14 w W H a n c xs X Y 0 r 0 r 0 0 0) : Mps10 w W H a n c xs X Y 0 r 0 r 0 0 0 := by
  unfold Mps10
  intro wx Bm Bp B10 B17 u18 u19 u20 u21 u22 u23 u24 u25 u26 u27 u28 u29 u30 u31 u32 u33 u34 u35 u36 u37 u38 u39 u40 u41 u42 u43 u44 u45 u46 u47 u48 u49 u50 u51 u52 u53 u54 u55 u56 u57 u58 u59 u60 u61 u62 u63 u64 u65 u66 u67 u68 u69 u70 u71 u72 u73 u74 u75 u76 u77 u78 u79 u80 u81 u82 u83 u84 u85 u86 u87 u88 u89 u90 u91 u92 u93 u94 u95 u96 u97 u98 u99 u100 u101 u102 u103 u104 u105 u106 u107 u108 u109 u110 u111 u112 u113 u114 u115 u116 u117 u118 u119 u120 u121 u122 u123 u124 u125 u126 u127 u128 u129 u130 hM f10 f17 hne
  conv => arg 2; whnf
  dsimp only
  have t1 : (r == 0) = false := by simp [hr]
  clear hr
  go_upto_region 10 with fail
  go_cut [47] (fun s47 wr => s47 = .bool false ∧ wr = wx)
  case first =>
    clear hT
    go_wp2_with fail
    go_meet
    exact ⟨rfl, rfl⟩
  case rest =>
    rename_i K1 hK1 K0 hK
    obtain ⟨rfl, rfl⟩ := hcut
    refine hK _ _ ?_
    clear hK
    have HK1 := Lib.hid hK1
    clear hK1
    go_wp2_with fail
    refine HK1.out _ _ ?_
    unfold Mps14 at hT
    exact hT _ _ _ _ _ 0 _ _ _ _ _ _ _ _ _ _ _ _ _ _ _ _ _ _ _ _ _ _ _ _ _ _ _ _ _ _ _ _ _ _ _ _ _ _ _ _ _ _ _ _ _ _ _ _ _ _ _ _ _ _ _ _ _ _ _ _ _ _ _ _ _ _ _ _ _ _ _ _ _ _ _ _ _ _ _ _ _ _ _ _ _ _ _ _ _ _ _ _ _ _ _ _ _ _ _ _ _ _ _ _ _ _ _ _ _ _ _ _ _  hM f10 f17 (by decide)

end Go.Proofs.YtljfdmoknkhekaaGreatDoor
