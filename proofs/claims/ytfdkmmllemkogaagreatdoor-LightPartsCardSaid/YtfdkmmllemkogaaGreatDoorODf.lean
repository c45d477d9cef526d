/-
  The walk of LightParts: what the reference answers; the end.
-/
import Derived.Test.YtfdkmmllemkogaaGreatDoorODe
namespace Go.Proofs.YtfdkmmllemkogaaGreatDoor
open Go.RowKit Go.Shelf
set_option linter.unusedVariables false
set_option linter.unusedSimpArgs false

set_option maxRecDepth 1000000 in
set_option maxHeartbeats 12800000 in
theorem parts8_ok (w : World) (W H : Int) (a : Option Addr) (n c : Nat) (xs : List Nat) (cf ct rf rt n0 n1 n2 n3 : Int) (r r1 q r2 : Int) (lP lQ : List Int) (hC : PartsC W H a n c xs cf ct rf rt n0 n1 n2 n3 r r1 q r2 lP lQ) (h : r = 0) (hT : Prt10 w W H a n c xs cf ct rf rt n0 n1 n2 n3 r r1 q r2 lP lQ) : Prt8 w W H a n c xs cf ct rf rt n0 n1 n2 n3 r r1 q r2 lP lQ := by
  subst h
  unfold Prt8
  intro wx w8 Bm Bs Bn B7 B9 u16 u17 u18 u19 u20 u21 u22 u23 u24 u25 u26 u27 u28 u29 u30 u31 u32 u33 u34 u35 u36 u37 u38 u39 u40 u41 u42 u43 u44 u45 u46 u47 u48 u49 u50 u51 u52 u53 u54 u55 u56 u57 u58 u59 u60 u61 u62 u63 u64 u65 u66 u67 u68 u69 u70 u71 u72 u73 u74 u75 u76 u77 u78 u79 u80 u81 u82 u83 u84 u85 u86 u87 u88 u89 u90 u91 u92 u93 u94 u95 u96 u97 u98 u99 u100 u101 u102 u103 u104 u105 u106 u107 u108 u109 u110 u111 u112 u113 hM f7 f9 hb8 z14 z15
  conv => arg 2; whnf
  dsimp only
  have hM9 := hM.kept hb8
  go_upto_region 8 with fail
  go_cut [58] (fun s58 wr => s58 = .bool true ∧ wx = wr)
  case first =>
    clear hT hC
    go_wp2_with fail
    go_meet
    exact ⟨rfl, rfl⟩
  case rest =>
    rename_i K1 hK1 K0 hK
    obtain ⟨rfl, rfl⟩ := hcut
    refine hK _ _ ?_
    clear hK
    have HK1 := Lib.hid hK1
    clear hK1
    have hla := lt_of_blk hM9.bm
    have hlb := lt_of_blk hM9.bs
    obtain ⟨c0, c1, c2⟩ := map_cells hM9.bm
    obtain ⟨d0, d1, d2, d3⟩ := four_cells hM9.bs
    have HR := Lib.hid (hC.one rfl)
    have KC : Hid (∀ w1 : World, Blw wx.heap.size wx w1 → Calls Tryz.prog 52 #[.agg #[.int .i64 cf, .int .i64 ct], .int .i64 W] w1 fun e w' => e = .returned (.int .i64 (spanErr cf ct W)) ∧ Below wx.heap.size wx w') := Lib.hid fun w1 (h : Below wx.heap.size wx w1) =>
      (checkFull_all cf ct W w1).mono fun e w' ⟨he, hw⟩ => ⟨he, h.trans (hw.mono h.size)⟩
    have KR : Hid (∀ w1 : World, Blw wx.heap.size wx w1 → Calls Tryz.prog 52 #[.agg #[.int .i64 rf, .int .i64 rt], .int .i64 H] w1 fun e w' => e = .returned (.int .i64 (spanErr rf rt H)) ∧ Below wx.heap.size wx w') := Lib.hid fun w1 (h : Below wx.heap.size wx w1) =>
      (checkFull_all rf rt H w1).mono fun e w' ⟨he, hw⟩ => ⟨he, h.trans (hw.mono h.size)⟩
    have HTT := Lib.hid hT
    have HM := Lib.hid hM
    have H7 := Lib.hid f7
    have H9 := Lib.hid f9
    have HB8 := Lib.hid hb8
    have HZ14 := Lib.hid z14
    have HZ15 := Lib.hid z15
    have hR : Blw wx.heap.size wx wx.drew := show Below _ _ _ from (Below.refl wx.heap.size wx).drew
    clear hC hT hM hM9 f7 f9 hb8 z14 z15
    go_upto_region 9 with fail
    go_region_held3 (fun w' => w'.cell? ⟨Bm, 0, none⟩ = some (.int .i64 W) ∧ w'.cell? ⟨Bm, 1, none⟩ = some (.int .i64 H) ∧ w'.cell? ⟨Bs, 0, none⟩ = some (.int .i64 cf) ∧ w'.cell? ⟨Bs, 1, none⟩ = some (.int .i64 ct) ∧ w'.cell? ⟨Bs, 2, none⟩ = some (.int .i64 rf) ∧ w'.cell? ⟨Bs, 3, none⟩ = some (.int .i64 rt) ∧ Blw wx.heap.size wx w')
      (first
        | (go_split_ands; refine ⟨?_, ?_, ?_, ?_, ?_, ?_, ?_⟩ <;> first | (with_reducible assumption) | exact hb2 | ((rw [hb2.cell (by simp; try omega)]; assumption)))
        | (go_split_ands; refine ⟨?_, ?_, ?_, ?_, ?_, ?_, ?_⟩ <;> first | ((rw [(hb2.alloc hb2.size _).cell (by simp; try omega)]; assumption)) | exact (hb2.alloc hb2.size _ : Below _ _ _))
        | go_keep)
      (first
        | (go_at_call_of 52 (Value.agg #[.int .i64 cf, .int .i64 ct]); refine (KC.out _ ?_).mono ?_; rotate_left 1; rintro e w' ⟨rfl, hb2⟩; rotate_left 1; (simp [*]))
        | (go_at_call_of 52 (Value.agg #[.int .i64 rf, .int .i64 rt]); refine (KR.out _ ?_).mono ?_; rotate_left 1; rintro e w' ⟨rfl, hb2⟩; rotate_left 1; (simp [*]))
        | ((go_at_call 21; refine (pFirst_any _ 0 2 2 [spanErr cf ct W, spanErr rf rt H] rfl (by omega) _ ?_).mono ?_; rotate_left 1; rintro e w' ⟨rfl, rfl⟩; rw [HR.out]; rotate_left 1; (intro j hj; match j, hj with | 0, _ => simp [go_sem] | 1, _ => simp [go_sem]))))
    all_goals
      have hb := hb2.alloc hb2.size (.cells #[.int .i64 (spanErr cf ct W), .int .i64 (spanErr rf rt H)] 3)
      refine HK1.out _ _ ?_
      have hT := HTT.out
      have z14 := HZ14.out
      have z15 := HZ15.out
      have hb8 := HB8.out
      unfold Prt10 at hT
      exact hT _ w8 _ _ _ _ _ _ _ _ _ _ _ _ _ _ _ _ _ _ _ _ _ _ _ _ _ _ _ _ _ _ _ _ _ _ _ _ _ _ _ _ _ _ _ _ _ _ _ _ _ _ _ _ _ _ _ _ _ _ _ _ _ _ _ _ _ _ _ _ _ _ _ _ _ _ _ _ _ _ _ _ _ _ _ _ _ _ _ _ _ _ _ _ _ _ _ _ _ _ _ _ _ _ _  HM.out H7.out H9.out (hb8.trans (hb.mono hb8.size)) ((hb.block _ (lt_of_blk z14)).trans z14) ((hb.block _ (lt_of_blk z15)).trans z15)

set_option maxRecDepth 1000000 in
set_option maxHeartbeats 12800000 in
theorem parts10_ok (w : World) (W H : Int) (a : Option Addr) (n c : Nat) (xs : List Nat) (cf ct rf rt n0 n1 n2 n3 : Int) (r r1 q r2 : Int) (lP lQ : List Int) (hC : PartsC W H a n c xs cf ct rf rt n0 n1 n2 n3 r r1 q r2 lP lQ) (h : r1 = 0) (h' : r = 0) (hT : Prt12 w W H a n c xs cf ct rf rt n0 n1 n2 n3 r r1 q r2 lP lQ) : Prt10 w W H a n c xs cf ct rf rt n0 n1 n2 n3 r r1 q r2 lP lQ := by
  subst h
  subst h'
  unfold Prt10
  intro wx w8 Bm Bs Bn B7 B9 u16 u17 u18 u19 u20 u21 u22 u23 u24 u25 u26 u27 u28 u29 u30 u31 u32 u33 u34 u35 u36 u37 u38 u39 u40 u41 u42 u43 u44 u45 u46 u47 u48 u49 u50 u51 u52 u53 u54 u55 u56 u57 u58 u59 u60 u61 u62 u63 u64 u65 u66 u67 u68 u69 u70 u71 u72 u73 u74 u75 u76 u77 u78 u79 u80 u81 u82 u83 u84 u85 u86 u87 u88 u89 u90 u91 u92 u93 u94 u95 u96 u97 u98 u99 u100 u101 u102 u103 u104 u105 u106 u107 u108 u109 u110 u111 u112 u113 hM f7 f9 hb8 z14 z15
  conv => arg 2; whnf
  dsimp only
  have hM9 := hM.kept hb8
  have KA := Lib.hid (hC.rpart rfl rfl wx hM9.map)
  go_upto_region 10 with fail
  go_cut [76] (fun s76 wr => s76 = .bool true ∧ wx = wr)
  case first =>
    clear hT hC
    go_wp2_with fail
    go_meet
    exact ⟨rfl, rfl⟩
  case rest =>
    rename_i K1 hK1 K0 hK
    obtain ⟨rfl, rfl⟩ := hcut
    refine hK _ _ ?_
    clear hK
    have HK1 := Lib.hid hK1
    clear hK1
    obtain ⟨c0, c1, c2⟩ := map_cells hM9.bm
    obtain ⟨d0, d1, d2, d3⟩ := four_cells hM9.bs
    have HTT := Lib.hid hT
    have HM := Lib.hid hM
    have H7 := Lib.hid f7
    have H9 := Lib.hid f9
    have HB8 := Lib.hid hb8
    have HX := Lib.hid z15
    have HZ := Lib.hid z14
    have lz := lt_of_blk z14
    clear hC hT hM hM9 f7 f9 hb8 z15 z14
    go_wp2_with ((go_at_call 53; refine KA.out.mono ?_; rintro e wA ⟨XA, YA, aA, nA, cA, rfl, hrA, hbA⟩
                  have y15 := (hbA.block _ lz).trans HZ.out
                  obtain ⟨p0, p1, p2⟩ := three_cells y15
                  have q0 : wA.frozen? ⟨w8.heap.size, 0, none⟩ = false := by simp [World.frozen?, y15]
                  have q1 : wA.frozen? ⟨w8.heap.size, 1, none⟩ = false := by simp [World.frozen?, y15]
                  have q2 : wA.frozen? ⟨w8.heap.size, 2, none⟩ = false := by simp [World.frozen?, y15]
                  have HY15 := Lib.hid y15
                  clear y15))
    have y15 := HY15.out
    have o1 := OneBlk.set3 wA (w8.heap.size) (.int .i64 XA) (.int .i64 YA) (.slice aA nA cA)
    have bF := below_set3 (HB8.out.trans (hbA.mono HB8.out.size)) (B := w8.heap.size) (by omega) (.int .i64 XA) (.int .i64 YA) (.slice aA nA cA)
    have f3 : WantBox (((wA.setCell ⟨w8.heap.size, 0, none⟩ (.int .i64 XA)).setCell ⟨w8.heap.size, 1, none⟩ (.int .i64 YA)).setCell ⟨w8.heap.size, 2, none⟩ (.slice aA nA cA)) (w8.heap.size) 0 (ct - cf) (rt - rf) lP := WantBox.put y15 (fun _ => hrA)
    refine HK1.out _ _ ?_
    have hT := HTT.out
    have zF := (o1.other (w8.heap.size + 1) (by omega)).trans ((hbA.block _ (lt_of_blk HX.out)).trans HX.out)
    unfold Prt12 at hT
    exact hT _ w8 _ _ _ _ _ _ _ _ _ _ _ _ _ _ _ _ _ _ _ _ _ _ _ _ _ _ _ _ _ _ _ _ _ _ _ _ _ _ _ _ _ _ _ _ _ _ _ _ _ _ _ _ _ _ _ _ _ _ _ _ _ _ _ _ _ _ _ _ _ _ _ _ _ _ _ _ _ _ _ _ _ _ _ _ _ _ _ _ _ _ _ _ _ _ _ _ _ _ _ _ _ _ _  HM.out H7.out H9.out bF f3 zF

set_option maxRecDepth 1000000 in
set_option maxHeartbeats 12800000 in
theorem parts12_ok (w : World) (W H : Int) (a : Option Addr) (n c : Nat) (xs : List Nat) (cf ct rf rt n0 n1 n2 n3 : Int) (r r1 q r2 : Int) (lP lQ : List Int) (hC : PartsC W H a n c xs cf ct rf rt n0 n1 n2 n3 r r1 q r2 lP lQ) (h : q = 0) (hT : Prt14 w W H a n c xs cf ct rf rt n0 n1 n2 n3 r r1 q r2 lP lQ) : Prt12 w W H a n c xs cf ct rf rt n0 n1 n2 n3 r r1 q r2 lP lQ := by
  subst h
  unfold Prt12
  intro wx w8 Bm Bs Bn B7 B9 u16 u17 u18 u19 u20 u21 u22 u23 u24 u25 u26 u27 u28 u29 u30 u31 u32 u33 u34 u35 u36 u37 u38 u39 u40 u41 u42 u43 u44 u45 u46 u47 u48 u49 u50 u51 u52 u53 u54 u55 u56 u57 u58 u59 u60 u61 u62 u63 u64 u65 u66 u67 u68 u69 u70 u71 u72 u73 u74 u75 u76 u77 u78 u79 u80 u81 u82 u83 u84 u85 u86 u87 u88 u89 u90 u91 u92 u93 u94 u95 u96 u97 u98 u99 u100 u101 u102 u103 u104 u105 u106 u107 u108 u109 u110 u111 u112 u113 hM f7 f9 hb8 wP z15
  conv => arg 2; whnf
  dsimp only
  have hM9 := hM.kept hb8
  have KA := Lib.hid (hC.rplaced rfl wx hM9.map)
  go_upto_region 12 with fail
  go_cut [84] (fun s84 wr => s84 = .bool true ∧ wx = wr)
  case first =>
    clear hT hC
    go_wp2_with fail
    go_meet
    exact ⟨rfl, rfl⟩
  case rest =>
    rename_i K1 hK1 K0 hK
    obtain ⟨rfl, rfl⟩ := hcut
    refine hK _ _ ?_
    clear hK
    have HK1 := Lib.hid hK1
    clear hK1
    obtain ⟨c0, c1, c2⟩ := map_cells hM9.bm
    obtain ⟨d0, d1, d2, d3⟩ := four_cells hM9.bn
    have HTT := Lib.hid hT
    have HM := Lib.hid hM
    have H7 := Lib.hid f7
    have H9 := Lib.hid f9
    have HB8 := Lib.hid hb8
    have HX := Lib.hid wP
    have HZ := Lib.hid z15
    have lz := lt_of_blk z15
    clear hC hT hM hM9 f7 f9 hb8 wP z15
    go_wp2_with ((go_at_call 54; refine KA.out.mono ?_; rintro e wA ⟨XA, YA, aA, nA, cA, rfl, hrA, hbA⟩
                  have y15 := (hbA.block _ lz).trans HZ.out
                  obtain ⟨p0, p1, p2⟩ := three_cells y15
                  have q0 : wA.frozen? ⟨w8.heap.size + 1, 0, none⟩ = false := by simp [World.frozen?, y15]
                  have q1 : wA.frozen? ⟨w8.heap.size + 1, 1, none⟩ = false := by simp [World.frozen?, y15]
                  have q2 : wA.frozen? ⟨w8.heap.size + 1, 2, none⟩ = false := by simp [World.frozen?, y15]
                  have HY15 := Lib.hid y15
                  clear y15))
    have y15 := HY15.out
    have o1 := OneBlk.set3 wA (w8.heap.size + 1) (.int .i64 XA) (.int .i64 YA) (.slice aA nA cA)
    have bF := below_set3 (HB8.out.trans (hbA.mono HB8.out.size)) (B := w8.heap.size + 1) (by omega) (.int .i64 XA) (.int .i64 YA) (.slice aA nA cA)
    have f3 : WantBox (((wA.setCell ⟨w8.heap.size + 1, 0, none⟩ (.int .i64 XA)).setCell ⟨w8.heap.size + 1, 1, none⟩ (.int .i64 YA)).setCell ⟨w8.heap.size + 1, 2, none⟩ (.slice aA nA cA)) (w8.heap.size + 1) r2 n0 n1 lQ := WantBox.put y15 (fun _ => hrA)
    refine HK1.out _ _ ?_
    have hT := HTT.out
    have zF := (HX.out.kept hbA).stored y15 o1 (by omega)
    unfold Prt14 at hT
    exact hT _ w8 _ _ _ _ _ _ _ _ _ _ _ _ _ _ _ _ _ _ _ _ _ _ _ _ _ _ _ _ _ _ _ _ _ _ _ _ _ _ _ _ _ _ _ _ _ _ _ _ _ _ _ _ _ _ _ _ _ _ _ _ _ _ _ _ _ _ _ _ _ _ _ _ _ _ _ _ _ _ _ _ _ _ _ _ _ _ _ _ _ _ _ _ _ _ _ _ _ _ _ _ _ _ _  HM.out H7.out H9.out bF zF f3

set_option maxRecDepth 1000000 in
set_option maxHeartbeats 12800000 in
theorem parts14 (w : World) (W H : Int) (a : Option Addr) (n c : Nat) (xs : List Nat) (cf ct rf rt n0 n1 n2 n3 : Int) (r r1 q r2 : Int) (lP lQ : List Int) (ht : TabAt w) : Prt14 w W H a n c xs cf ct rf rt n0 n1 n2 n3 r r1 q r2 lP lQ := by
  unfold Prt14
  intro wx w8 Bm Bs Bn B7 B9 u16 u17 u18 u19 u20 u21 u22 u23 u24 u25 u26 u27 u28 u29 u30 u31 u32 u33 u34 u35 u36 u37 u38 u39 u40 u41 u42 u43 u44 u45 u46 u47 u48 u49 u50 u51 u52 u53 u54 u55 u56 u57 u58 u59 u60 u61 u62 u63 u64 u65 u66 u67 u68 u69 u70 u71 u72 u73 u74 u75 u76 u77 u78 u79 u80 u81 u82 u83 u84 u85 u86 u87 u88 u89 u90 u91 u92 u93 u94 u95 u96 u97 u98 u99 u100 u101 u102 u103 u104 u105 u106 u107 u108 u109 u110 u111 u112 u113 hM f7 f9 hb8 wP wQ
  conv => arg 2; whnf
  dsimp only
  obtain ⟨X7, Y7, a7, n7, c7, b7, v7⟩ := f7.kept hb8
  obtain ⟨X9, Y9, a9, n9, c9, b9, v9⟩ := f9.kept hb8
  obtain ⟨XP, YP, aP, nP, cP, bP, vP⟩ := wP
  obtain ⟨XQ, YQ, aQ, nQ, cQ, bQ, vQ⟩ := wQ
  have hbw := hM.below.trans (hb8.mono hM.below.size)
  have K1 := Lib.hid (one_res r1 (ct - cf) (rt - rf) lP X7 Y7 XP YP a7 aP n7 c7 nP cP wx v7 vP)
  have K2 : Hid (∀ w1, Below wx.heap.size wx w1 → Calls Tryz.prog 55 #[.agg #[.int .i64 X9, .int .i64 Y9, .slice a9 n9 c9], .int .i64 r2, .int .i64 r2, .agg #[.int .i64 XQ, .int .i64 YQ, .slice aQ nQ cQ]] w1 fun e w' => e = .returned (.bool true) ∧ Below wx.heap.size wx w') :=
    Lib.hid fun w1 h => (one_res r2 n0 n1 lQ X9 Y9 XQ YQ a9 aQ n9 c9 nQ cQ w1 (v9.kept h) (fun h0 => (vQ h0).kept h)).mono fun e w' ⟨he, hb⟩ => ⟨he, h.trans (hb.mono h.size)⟩
  have K4 : Hid (∀ w1, Below wx.heap.size wx w1 → Calls Tryz.prog 19 #[] w1 fun e w' => e = .returned (.bool true) ∧ Below wx.heap.size wx w') :=
    Lib.hid fun w1 h => (awake_any w1 ((ht.on hbw).on h)).mono fun e w' ⟨he, hb⟩ => ⟨he, h.trans (hb.mono h.size)⟩
  obtain ⟨i0, i1, i2⟩ := three_cells b7
  obtain ⟨i3, i4, i5⟩ := three_cells bP
  have HB9 := Lib.hid b9
  have HBQ := Lib.hid bQ
  have HBW := Lib.hid hbw
  clear ht hM f7 f9 hb8 hbw v7 v9 vP vQ b7 b9 bP bQ
  go_upto_region 14 with fail
  go_wp2_with (first
    | ((go_at_call_of 55 (Value.agg #[.int .i64 X7, .int .i64 Y7, .slice a7 n7 c7]); refine K1.out.mono ?_; rintro e w1 ⟨rfl, hb1⟩
        obtain ⟨j0, j1, j2⟩ := three_cells ((hb1.block _ (lt_of_blk HB9.out)).trans HB9.out)
        obtain ⟨j3, j4, j5⟩ := three_cells ((hb1.block _ (lt_of_blk HBQ.out)).trans HBQ.out)))
    | ((go_at_call_of 55 (Value.agg #[.int .i64 X9, .int .i64 Y9, .slice a9 n9 c9]); refine (K2.out _ hb1).mono ?_; rintro e w2 ⟨rfl, hb2⟩))
    | (go_at_call 19; refine (K4.out _ hb2).mono ?_; rintro e w4 ⟨rfl, hb4⟩))
  go_ret
  exact ⟨rfl, HBW.out.trans (hb4.mono HBW.out.size)⟩

end Go.Proofs.YtfdkmmllemkogaaGreatDoor

/-
  The contract of LightParts: for every map, every spans and numbers it returns true.
-/
namespace Go.Proofs.YtfdkmmllemkogaaGreatDoor
open Go.RowKit Go.Shelf
set_option linter.unusedVariables false
set_option linter.unusedSimpArgs false

theorem partsC (W H : Int) (a : Option Addr) (n c : Nat) (xs : List Nat) (cf ct rf rt n0 n1 n2 n3 : Int) (hn : n ≤ 100000) :
    PartsC W H a n c xs cf ct rf rt n0 n1 n2 n3 (mapErr W H n xs) (partErr W H n xs cf ct rf rt) (firstNZ [mapErr W H n xs, rangeErr n0 1 64, rangeErr n1 1 64]) (placedErr W H n xs n0 n1 n2 n3) (partL W H (xs.map kOf) cf ct rf rt) (placedIL W H (xs.map kOf) n0 n1 n2 n3) where
  own := fun wx hM => own_of W H a n c xs hn wx hM
  part := fun wx g c' hM => part_res W H _ n c' xs cf ct rf rt wx hM
  placed := fun wx g c' hM => placed_res W H _ n c' xs n0 n1 n2 n3 wx hM
  chk := fun wx hM => refCheckMap_map W H a n c xs wx hM
  rpart := fun h0 h1 wx hM => refPart_res W H a n c xs cf ct rf rt wx hM h0 (by unfold partErr at h1; rwa [if_pos h0] at h1)
  rplaced := fun h0 wx hM => refPlaced_res W H a n c xs n0 n1 n2 n3 wx hM h0
  one := fun h0 => by unfold partErr; rw [if_pos h0]
  one' := fun h0 => by unfold partErr; rw [if_neg h0]
  two := rfl
  two' := fun h => by unfold placedErr; rw [if_neg h]

theorem parts3_all (w : World) (W H : Int) (a : Option Addr) (n c : Nat) (xs : List Nat) (cf ct rf rt n0 n1 n2 n3 : Int) (r r1 q r2 : Int) (lP lQ : List Int) (hC : PartsC W H a n c xs cf ct rf rt n0 n1 n2 n3 r r1 q r2 lP lQ) (ht : TabAt w) : Prt3 w W H a n c xs cf ct rf rt n0 n1 n2 n3 r r1 q r2 lP lQ := by
  have h14 := parts14 w W H a n c xs cf ct rf rt n0 n1 n2 n3 r r1 q r2 lP lQ ht
  have h12 : Prt12 w W H a n c xs cf ct rf rt n0 n1 n2 n3 r r1 q r2 lP lQ := by
    by_cases h : q = 0
    · exact parts12_ok w W H a n c xs cf ct rf rt n0 n1 n2 n3 r r1 q r2 lP lQ hC h h14
    · exact parts12_bad w W H a n c xs cf ct rf rt n0 n1 n2 n3 r r1 q r2 lP lQ hC h h14
  have h10 : Prt10 w W H a n c xs cf ct rf rt n0 n1 n2 n3 r r1 q r2 lP lQ := by
    by_cases h : r1 = 0
    · have h0 : r = 0 := by
        by_cases h0 : r = 0
        · exact h0
        · exact absurd ((hC.one' h0).symm.trans h) h0
      exact parts10_ok w W H a n c xs cf ct rf rt n0 n1 n2 n3 r r1 q r2 lP lQ hC h h0 h12
    · exact parts10_bad w W H a n c xs cf ct rf rt n0 n1 n2 n3 r r1 q r2 lP lQ hC h h12
  have h8 : Prt8 w W H a n c xs cf ct rf rt n0 n1 n2 n3 r r1 q r2 lP lQ := by
    by_cases h : r = 0
    · exact parts8_ok w W H a n c xs cf ct rf rt n0 n1 n2 n3 r r1 q r2 lP lQ hC h h10
    · exact parts8_bad w W H a n c xs cf ct rf rt n0 n1 n2 n3 r r1 q r2 lP lQ hC h h10
  exact parts3 w W H a n c xs cf ct rf rt n0 n1 n2 n3 r r1 q r2 lP lQ hC (parts4 w W H a n c xs cf ct rf rt n0 n1 n2 n3 r r1 q r2 lP lQ hC (parts5 w W H a n c xs cf ct rf rt n0 n1 n2 n3 r r1 q r2 lP lQ hC (parts6 w W H a n c xs cf ct rf rt n0 n1 n2 n3 r r1 q r2 lP lQ hC (parts7 w W H a n c xs cf ct rf rt n0 n1 n2 n3 r r1 q r2 lP lQ hC h8))))

set_option maxRecDepth 1000000 in
set_option maxHeartbeats 12800000 in
theorem parts_all (w : World) (W H : Int) (a : Option Addr) (n c : Nat) (xs : List Nat) (cf ct rf rt n0 n1 n2 n3 : Int) (ht : TabAt w) (hM : AnyMap w a n c xs) :
    Calls Tryz.prog 5 #[.agg #[.int .i64 W, .int .i64 H, .slice a n c], .agg #[.int .i64 cf, .int .i64 ct, .int .i64 rf, .int .i64 rt], .agg #[.int .i64 n0, .int .i64 n1, .int .i64 n2, .int .i64 n3]] w (TruePost w) := by
  obtain ⟨W0, hW0⟩ : ∃ W0, (((w.alloc (.cells #[.int .i64 W, .int .i64 H, .slice a n c] 48)).alloc (.cells #[.int .i64 cf, .int .i64 ct, .int .i64 rf, .int .i64 rt] 71)).alloc (.cells #[.int .i64 n0, .int .i64 n1, .int .i64 n2, .int .i64 n3] 72)) = W0 := ⟨_, rfl⟩
  have hB0 : Below w.heap.size w W0 := by rw [← hW0]; exact ((((Below.refl _ w).alloc (Nat.le_refl _) _).alloc (by simp) _).alloc (by simp; omega) _)
  have hm0 : PK w W H a n c xs cf ct rf rt n0 n1 n2 n3 W0 w.heap.size (w.heap.size + 1) (w.heap.size + 1 + 1) :=
    ⟨hB0, by rw [← hW0]; exact blk_alloc_other (blk_alloc_other (blk_alloc_new _ _) _) _, by rw [← hW0]; exact blk_alloc_other (blk_alloc_new1 _ _ _) _, by
      rw [← hW0]
      have h := blk_alloc_new ((w.alloc (.cells #[.int .i64 W, .int .i64 H, .slice a n c] 48)).alloc (.cells #[.int .i64 cf, .int .i64 ct, .int .i64 rf, .int .i64 rt] 71)) (.cells #[.int .i64 n0, .int .i64 n1, .int .i64 n2, .int .i64 n3] 72)
      simpa using h, hM.below hB0 (Nat.le_refl _)⟩
  obtain ⟨c0, c1, c2⟩ := map_cells hm0.bm
  by_cases hs : (decide (n ≤ 160) || decide (n = 4097)) = true
  · have hT := parts3_all w _ _ _ _ _ _ _ _ _ _ _ _ _ _ _ _ _ _ _ _ (partsC W H a n c xs cf ct rf rt n0 n1 n2 n3 (by simp at hs; omega)) ht
    have KSA : Hid (Calls Tryz.prog 36 #[.agg #[.int .i64 W, .int .i64 H, .slice a n c]] W0 fun e w' => e = .returned (.bool true) ∧ Below W0.heap.size W0 w') := Lib.hid (by
      have h := shortMap_all W H a n c W0
      rwa [hs] at h)
    have HM0 := Lib.hid hm0
    have HTT := Lib.hid hT
    clear ht hM hm0 hB0 hs hT
    go_enter Tryz.func5, Tryz.ntmps5
    go_upto_region 1 with fail
    try rw [hW0]
    clear hW0
    go_cut [18] (fun s18 wr => s18 = .bool false ∧ Below W0.heap.size W0 wr)
    case first =>
      go_wp2_with (go_at_call 36; refine KSA.out.mono ?_; rintro e w1 ⟨rfl, hb1⟩)
      go_meet
      exact ⟨rfl, hb1⟩
    case rest =>
      rename_i K1 hK1 K0 hK
      obtain ⟨rfl, hb⟩ := hcut
      refine hK _ _ ?_
      clear hK
      have HK1 := Lib.hid hK1
      clear hK1
      go_wp2_with fail
      refine HK1.out _ _ ?_
      have hT := HTT.out
      unfold Prt3 at hT
      exact hT _ _ _ _ _ _ _ _ _ _ _ _ _ _ _ _ _ _ _ _ _ _ _ _ _ _ _ _ _ _ _ _ _ _ _ _ _ _ _ _ _ _ _ _ _ _ _ _ _ _ _ _ _ _ _ _ _ _ _ _ _ _ _ _ _ _ _ _ _ _ _ _ _ _ _ _ _ _ _ _ _ _ _ _ _ _ _ _ _ _ _ _ _ _ _ _ _ _ _ _ _ _ _ _ _ _ _ _ _ _ _  (HM0.out.kept hb)
  · have KSA : Hid (Calls Tryz.prog 36 #[.agg #[.int .i64 W, .int .i64 H, .slice a n c]] W0 fun e w' => e = .returned (.bool false) ∧ Below W0.heap.size W0 w') := Lib.hid (by
      have h := shortMap_all W H a n c W0
      rwa [Bool.eq_false_iff.2 hs] at h)
    have HB0 := Lib.hid hB0
    have KW : Hid (∀ w1, Below W0.heap.size W0 w1 → Calls Tryz.prog 19 #[] w1 fun e w' => e = .returned (.bool true) ∧ Below w1.heap.size w1 w') := Lib.hid (fun w1 h => awake_any w1 ((ht.on hB0).on h))
    clear ht hM hm0 hB0 hs
    go_enter Tryz.func5, Tryz.ntmps5
    go_upto_region 1 with fail
    try rw [hW0]
    clear hW0
    go_wp2_with (first
      | (go_at_call 36; refine KSA.out.mono ?_; rintro e w1 ⟨rfl, hb1⟩)
      | (go_at_call 19; refine (KW.out _ hb1).mono ?_; rintro e w3 ⟨rfl, hb3⟩))
    go_ret
    exact ⟨rfl, (HB0.out.trans (hb1.mono HB0.out.size)).trans (hb3.mono (Nat.le_trans HB0.out.size hb1.size))⟩
end Go.Proofs.YtfdkmmllemkogaaGreatDoor
