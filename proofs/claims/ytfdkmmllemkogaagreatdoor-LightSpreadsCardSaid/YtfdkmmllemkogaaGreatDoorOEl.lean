/-
  The walk of LightSpreads: what the reference answers; the end.
-/
import Derived.Test.YtfdkmmllemkogaaGreatDoorOEk
namespace Go.Proofs.YtfdkmmllemkogaaGreatDoor
open Go.RowKit Go.Shelf
set_option linter.unusedVariables false
set_option linter.unusedSimpArgs false

set_option maxRecDepth 1000000 in
set_option maxHeartbeats 12800000 in
theorem spreads11_ok (w : World) (W H : Int) (a : Option Addr) (n c : Nat) (xs : List Nat) (n0 n1 n2 n3 : Int) (r q1 q2 q3 s1 s2 s3 W3 H3 : Int) (l1 l2 l3 : List Int) (hC : SpreadsC W H a n c xs n0 n1 n2 n3 r q1 q2 q3 s1 s2 s3 W3 H3 l1 l2 l3) (h : q1 = 0) (hT : Spr13 w W H a n c xs n0 n1 n2 n3 r q1 q2 q3 s1 s2 s3 W3 H3 l1 l2 l3) : Spr11 w W H a n c xs n0 n1 n2 n3 r q1 q2 q3 s1 s2 s3 W3 H3 l1 l2 l3 := by
  subst h
  unfold Spr11
  intro wx w8 Bm Bn B5 B7 B9 u18 u19 u20 u21 u22 u23 u24 u25 u26 u27 u28 u29 u30 u31 u32 u33 u34 u35 u36 u37 u38 u39 u40 u41 u42 u43 u44 u45 u46 u47 u48 u49 u50 u51 u52 u53 u54 u55 u56 u57 u58 u59 u60 u61 u62 u63 u64 u65 u66 u67 u68 u69 u70 u71 u72 u73 u74 u75 u76 u77 u78 u79 u80 u81 u82 u83 u84 u85 u86 u87 u88 u89 u90 u91 u92 u93 u94 u95 u96 u97 u98 u99 u100 u101 u102 u103 u104 u105 u106 u107 u108 u109 u110 u111 u112 u113 u114 u115 u116 u117 u118 u119 u120 u121 hM f5 f7 f9 hb8 z15 z16 z17
  conv => arg 2; whnf
  dsimp only
  have hM9 := hM.kept hb8
  have KA := Lib.hid (hC.rscaled rfl wx hM9.map)
  go_upto_region 11 with fail
  go_cut [72] (fun s72 wr => s72 = .bool true ∧ wx = wr)
  case first =>
    clear hT hC
    go_wp2_with fail
    go_meet
    exact ⟨rfl, rfl⟩
  case rest =>
    rename_i K1 hK1 K0 hK
    obtain ⟨rfl, rfl⟩ := hcut
    refine hK _ _ ?_
    clear hK
    have HK1 := Lib.hid hK1
    clear hK1
    obtain ⟨c0, c1, c2⟩ := map_cells hM9.bm
    obtain ⟨d0, d1, d2, d3⟩ := cells4 hM9.bn
    have HTT := Lib.hid hT
    have HM := Lib.hid hM
    have H5 := Lib.hid f5
    have H7 := Lib.hid f7
    have H9 := Lib.hid f9
    have HB8 := Lib.hid hb8
    have Hz16 := Lib.hid z16
    have Hz17 := Lib.hid z17
    have HZ := Lib.hid z15
    have lz := lt_of_blk z15
    clear hC hT hM hM9 f5 f7 f9 hb8 z16 z17 z15
    go_wp2_with ((go_at_call 65; refine KA.out.mono ?_; rintro e wN ⟨XN, YN, aN, nN, cN, rfl, hrA, hbA⟩
                  have y15 := (hbA.block _ lz).trans HZ.out
                  obtain ⟨p0, p1, p2⟩ := cells3 y15
                  have q0 : wN.frozen? ⟨w8.heap.size, 0, none⟩ = false := by simp [World.frozen?, y15]
                  have q1 : wN.frozen? ⟨w8.heap.size, 1, none⟩ = false := by simp [World.frozen?, y15]
                  have q2 : wN.frozen? ⟨w8.heap.size, 2, none⟩ = false := by simp [World.frozen?, y15]
                  have HY15 := Lib.hid y15
                  clear y15))
    have y15 := HY15.out
    have o1 := OneBlk.set3 wN (w8.heap.size) (.int .i64 XN) (.int .i64 YN) (.slice aN nN cN)
    have bF := below_set3 (HB8.out.trans (hbA.mono HB8.out.size)) (B := w8.heap.size) (by omega) (.int .i64 XN) (.int .i64 YN) (.slice aN nN cN)
    have fN : WantBox (((wN.setCell ⟨w8.heap.size, 0, none⟩ (.int .i64 XN)).setCell ⟨w8.heap.size, 1, none⟩ (.int .i64 YN)).setCell ⟨w8.heap.size, 2, none⟩ (.slice aN nN cN)) (w8.heap.size) s1 W H l1 := WantBox.put y15 (fun _ => hrA)
    have oz16 := (o1.other _ (by omega)).trans ((hbA.block _ (lt_of_blk Hz16.out)).trans Hz16.out)
    have oz17 := (o1.other _ (by omega)).trans ((hbA.block _ (lt_of_blk Hz17.out)).trans Hz17.out)
    refine HK1.out _ _ ?_
    have hT := HTT.out
    unfold Spr13 at hT
    exact hT _ w8 _ _ _ _ _ _ _ _ _ _ _ _ _ _ _ _ _ _ _ _ _ _ _ _ _ _ _ _ _ _ _ _ _ _ _ _ _ _ _ _ _ _ _ _ _ _ _ _ _ _ _ _ _ _ _ _ _ _ _ _ _ _ _ _ _ _ _ _ _ _ _ _ _ _ _ _ _ _ _ _ _ _ _ _ _ _ _ _ _ _ _ _ _ _ _ _ _ _ _ _ _ _ _ _ _ _ _ _ _  HM.out H5.out H7.out H9.out bF fN oz16 oz17

set_option maxRecDepth 1000000 in
set_option maxHeartbeats 12800000 in
theorem spreads13_ok (w : World) (W H : Int) (a : Option Addr) (n c : Nat) (xs : List Nat) (n0 n1 n2 n3 : Int) (r q1 q2 q3 s1 s2 s3 W3 H3 : Int) (l1 l2 l3 : List Int) (hC : SpreadsC W H a n c xs n0 n1 n2 n3 r q1 q2 q3 s1 s2 s3 W3 H3 l1 l2 l3) (h : q2 = 0) (hT : Spr15 w W H a n c xs n0 n1 n2 n3 r q1 q2 q3 s1 s2 s3 W3 H3 l1 l2 l3) : Spr13 w W H a n c xs n0 n1 n2 n3 r q1 q2 q3 s1 s2 s3 W3 H3 l1 l2 l3 := by
  subst h
  unfold Spr13
  intro wx w8 Bm Bn B5 B7 B9 u18 u19 u20 u21 u22 u23 u24 u25 u26 u27 u28 u29 u30 u31 u32 u33 u34 u35 u36 u37 u38 u39 u40 u41 u42 u43 u44 u45 u46 u47 u48 u49 u50 u51 u52 u53 u54 u55 u56 u57 u58 u59 u60 u61 u62 u63 u64 u65 u66 u67 u68 u69 u70 u71 u72 u73 u74 u75 u76 u77 u78 u79 u80 u81 u82 u83 u84 u85 u86 u87 u88 u89 u90 u91 u92 u93 u94 u95 u96 u97 u98 u99 u100 u101 u102 u103 u104 u105 u106 u107 u108 u109 u110 u111 u112 u113 u114 u115 u116 u117 u118 u119 u120 u121 hM f5 f7 f9 hb8 wA z16 z17
  conv => arg 2; whnf
  dsimp only
  have hM9 := hM.kept hb8
  have KA := Lib.hid (hC.rspread rfl wx hM9.map)
  go_upto_region 13 with fail
  go_cut [83] (fun s83 wr => s83 = .bool true ∧ wx = wr)
  case first =>
    clear hT hC
    go_wp2_with fail
    go_meet
    exact ⟨rfl, rfl⟩
  case rest =>
    rename_i K1 hK1 K0 hK
    obtain ⟨rfl, rfl⟩ := hcut
    refine hK _ _ ?_
    clear hK
    have HK1 := Lib.hid hK1
    clear hK1
    obtain ⟨c0, c1, c2⟩ := map_cells hM9.bm
    obtain ⟨d0, d1, d2, d3⟩ := cells4 hM9.bn
    have HTT := Lib.hid hT
    have HM := Lib.hid hM
    have H5 := Lib.hid f5
    have H7 := Lib.hid f7
    have H9 := Lib.hid f9
    have HB8 := Lib.hid hb8
    have HwA := Lib.hid wA
    have Hz17 := Lib.hid z17
    have HZ := Lib.hid z16
    have lz := lt_of_blk z16
    clear hC hT hM hM9 f5 f7 f9 hb8 wA z17 z16
    go_wp2_with ((go_at_call 66; refine KA.out.mono ?_; rintro e wN ⟨XN, YN, aN, nN, cN, rfl, hrA, hbA⟩
                  have y15 := (hbA.block _ lz).trans HZ.out
                  obtain ⟨p0, p1, p2⟩ := cells3 y15
                  have q0 : wN.frozen? ⟨w8.heap.size + 1, 0, none⟩ = false := by simp [World.frozen?, y15]
                  have q1 : wN.frozen? ⟨w8.heap.size + 1, 1, none⟩ = false := by simp [World.frozen?, y15]
                  have q2 : wN.frozen? ⟨w8.heap.size + 1, 2, none⟩ = false := by simp [World.frozen?, y15]
                  have HY15 := Lib.hid y15
                  clear y15))
    have y15 := HY15.out
    have o1 := OneBlk.set3 wN (w8.heap.size + 1) (.int .i64 XN) (.int .i64 YN) (.slice aN nN cN)
    have bF := below_set3 (HB8.out.trans (hbA.mono HB8.out.size)) (B := w8.heap.size + 1) (by omega) (.int .i64 XN) (.int .i64 YN) (.slice aN nN cN)
    have fN : WantBox (((wN.setCell ⟨w8.heap.size + 1, 0, none⟩ (.int .i64 XN)).setCell ⟨w8.heap.size + 1, 1, none⟩ (.int .i64 YN)).setCell ⟨w8.heap.size + 1, 2, none⟩ (.slice aN nN cN)) (w8.heap.size + 1) s2 W H l2 := WantBox.put y15 (fun _ => hrA)
    have owA := (HwA.out.kept hbA).stored y15 o1 (by omega)
    have oz17 := (o1.other _ (by omega)).trans ((hbA.block _ (lt_of_blk Hz17.out)).trans Hz17.out)
    refine HK1.out _ _ ?_
    have hT := HTT.out
    unfold Spr15 at hT
    exact hT _ w8 _ _ _ _ _ _ _ _ _ _ _ _ _ _ _ _ _ _ _ _ _ _ _ _ _ _ _ _ _ _ _ _ _ _ _ _ _ _ _ _ _ _ _ _ _ _ _ _ _ _ _ _ _ _ _ _ _ _ _ _ _ _ _ _ _ _ _ _ _ _ _ _ _ _ _ _ _ _ _ _ _ _ _ _ _ _ _ _ _ _ _ _ _ _ _ _ _ _ _ _ _ _ _ _ _ _ _ _ _  HM.out H5.out H7.out H9.out bF owA fN oz17

set_option maxRecDepth 1000000 in
set_option maxHeartbeats 12800000 in
theorem spreads15_ok (w : World) (W H : Int) (a : Option Addr) (n c : Nat) (xs : List Nat) (n0 n1 n2 n3 : Int) (r q1 q2 q3 s1 s2 s3 W3 H3 : Int) (l1 l2 l3 : List Int) (hC : SpreadsC W H a n c xs n0 n1 n2 n3 r q1 q2 q3 s1 s2 s3 W3 H3 l1 l2 l3) (h : q3 = 0) (hT : Spr17 w W H a n c xs n0 n1 n2 n3 r q1 q2 q3 s1 s2 s3 W3 H3 l1 l2 l3) : Spr15 w W H a n c xs n0 n1 n2 n3 r q1 q2 q3 s1 s2 s3 W3 H3 l1 l2 l3 := by
  subst h
  unfold Spr15
  intro wx w8 Bm Bn B5 B7 B9 u18 u19 u20 u21 u22 u23 u24 u25 u26 u27 u28 u29 u30 u31 u32 u33 u34 u35 u36 u37 u38 u39 u40 u41 u42 u43 u44 u45 u46 u47 u48 u49 u50 u51 u52 u53 u54 u55 u56 u57 u58 u59 u60 u61 u62 u63 u64 u65 u66 u67 u68 u69 u70 u71 u72 u73 u74 u75 u76 u77 u78 u79 u80 u81 u82 u83 u84 u85 u86 u87 u88 u89 u90 u91 u92 u93 u94 u95 u96 u97 u98 u99 u100 u101 u102 u103 u104 u105 u106 u107 u108 u109 u110 u111 u112 u113 u114 u115 u116 u117 u118 u119 u120 u121 hM f5 f7 f9 hb8 wA wB z17
  conv => arg 2; whnf
  dsimp only
  have hM9 := hM.kept hb8
  have KA := Lib.hid (hC.rbinned rfl wx hM9.map)
  go_upto_region 15 with fail
  go_cut [92] (fun s92 wr => s92 = .bool true ∧ wx = wr)
  case first =>
    clear hT hC
    go_wp2_with fail
    go_meet
    exact ⟨rfl, rfl⟩
  case rest =>
    rename_i K1 hK1 K0 hK
    obtain ⟨rfl, rfl⟩ := hcut
    refine hK _ _ ?_
    clear hK
    have HK1 := Lib.hid hK1
    clear hK1
    obtain ⟨c0, c1, c2⟩ := map_cells hM9.bm
    obtain ⟨d0, d1, d2, d3⟩ := cells4 hM9.bn
    have HTT := Lib.hid hT
    have HM := Lib.hid hM
    have H5 := Lib.hid f5
    have H7 := Lib.hid f7
    have H9 := Lib.hid f9
    have HB8 := Lib.hid hb8
    have HwA := Lib.hid wA
    have HwB := Lib.hid wB
    have HZ := Lib.hid z17
    have lz := lt_of_blk z17
    clear hC hT hM hM9 f5 f7 f9 hb8 wA wB z17
    go_wp2_with ((go_at_call 67; refine KA.out.mono ?_; rintro e wN ⟨XN, YN, aN, nN, cN, rfl, hrA, hbA⟩
                  have y15 := (hbA.block _ lz).trans HZ.out
                  obtain ⟨p0, p1, p2⟩ := cells3 y15
                  have q0 : wN.frozen? ⟨w8.heap.size + 1 + 1, 0, none⟩ = false := by simp [World.frozen?, y15]
                  have q1 : wN.frozen? ⟨w8.heap.size + 1 + 1, 1, none⟩ = false := by simp [World.frozen?, y15]
                  have q2 : wN.frozen? ⟨w8.heap.size + 1 + 1, 2, none⟩ = false := by simp [World.frozen?, y15]
                  have HY15 := Lib.hid y15
                  clear y15))
    have y15 := HY15.out
    have o1 := OneBlk.set3 wN (w8.heap.size + 1 + 1) (.int .i64 XN) (.int .i64 YN) (.slice aN nN cN)
    have bF := below_set3 (HB8.out.trans (hbA.mono HB8.out.size)) (B := w8.heap.size + 1 + 1) (by omega) (.int .i64 XN) (.int .i64 YN) (.slice aN nN cN)
    have fN : WantBox (((wN.setCell ⟨w8.heap.size + 1 + 1, 0, none⟩ (.int .i64 XN)).setCell ⟨w8.heap.size + 1 + 1, 1, none⟩ (.int .i64 YN)).setCell ⟨w8.heap.size + 1 + 1, 2, none⟩ (.slice aN nN cN)) (w8.heap.size + 1 + 1) s3 W3 H3 l3 := WantBox.put y15 (fun _ => hrA)
    have owA := (HwA.out.kept hbA).stored y15 o1 (by omega)
    have owB := (HwB.out.kept hbA).stored y15 o1 (by omega)
    refine HK1.out _ _ ?_
    have hT := HTT.out
    unfold Spr17 at hT
    exact hT _ w8 _ _ _ _ _ _ _ _ _ _ _ _ _ _ _ _ _ _ _ _ _ _ _ _ _ _ _ _ _ _ _ _ _ _ _ _ _ _ _ _ _ _ _ _ _ _ _ _ _ _ _ _ _ _ _ _ _ _ _ _ _ _ _ _ _ _ _ _ _ _ _ _ _ _ _ _ _ _ _ _ _ _ _ _ _ _ _ _ _ _ _ _ _ _ _ _ _ _ _ _ _ _ _ _ _ _ _ _ _  HM.out H5.out H7.out H9.out bF owA owB fN

set_option maxRecDepth 1000000 in
set_option maxHeartbeats 12800000 in
theorem spreads17 (w : World) (W H : Int) (a : Option Addr) (n c : Nat) (xs : List Nat) (n0 n1 n2 n3 : Int) (r q1 q2 q3 s1 s2 s3 W3 H3 : Int) (l1 l2 l3 : List Int) (ht : TabAt w) : Spr17 w W H a n c xs n0 n1 n2 n3 r q1 q2 q3 s1 s2 s3 W3 H3 l1 l2 l3 := by
  unfold Spr17
  intro wx w8 Bm Bn B5 B7 B9 u18 u19 u20 u21 u22 u23 u24 u25 u26 u27 u28 u29 u30 u31 u32 u33 u34 u35 u36 u37 u38 u39 u40 u41 u42 u43 u44 u45 u46 u47 u48 u49 u50 u51 u52 u53 u54 u55 u56 u57 u58 u59 u60 u61 u62 u63 u64 u65 u66 u67 u68 u69 u70 u71 u72 u73 u74 u75 u76 u77 u78 u79 u80 u81 u82 u83 u84 u85 u86 u87 u88 u89 u90 u91 u92 u93 u94 u95 u96 u97 u98 u99 u100 u101 u102 u103 u104 u105 u106 u107 u108 u109 u110 u111 u112 u113 u114 u115 u116 u117 u118 u119 u120 u121 hM f5 f7 f9 hb8 wA wB wC
  conv => arg 2; whnf
  dsimp only
  obtain ⟨X5, Y5, a5, n5', c5, b5, v5⟩ := f5.kept hb8
  obtain ⟨X7, Y7, a7, n7', c7, b7, v7⟩ := f7.kept hb8
  obtain ⟨X9, Y9, a9, n9', c9, b9, v9⟩ := f9.kept hb8
  obtain ⟨XA, YA, aA, nA, cA, bA, vA⟩ := wA
  obtain ⟨XB, YB, aB, nB, cB, bB, vB⟩ := wB
  obtain ⟨XC, YC, aC, nC, cC, bC, vC⟩ := wC
  have hbw := hM.below.trans (hb8.mono hM.below.size)
  have K1 : Hid (∀ w1, Below wx.heap.size wx w1 → Calls Tryz.prog 55 #[.agg #[.int .i64 X5, .int .i64 Y5, .slice a5 n5' c5], .int .i64 s1, .int .i64 s1, .agg #[.int .i64 XA, .int .i64 YA, .slice aA nA cA]] w1 fun e w' => e = .returned (.bool true) ∧ Below wx.heap.size wx w') :=
    Lib.hid fun w1 h => (one_res s1 W H l1 X5 Y5 XA YA a5 aA n5' c5 nA cA w1 (v5.kept h) (fun h0 => (vA h0).kept h)).mono fun e w' ⟨he, hb⟩ => ⟨he, h.trans (hb.mono h.size)⟩
  have K2 : Hid (∀ w1, Below wx.heap.size wx w1 → Calls Tryz.prog 55 #[.agg #[.int .i64 X7, .int .i64 Y7, .slice a7 n7' c7], .int .i64 s2, .int .i64 s2, .agg #[.int .i64 XB, .int .i64 YB, .slice aB nB cB]] w1 fun e w' => e = .returned (.bool true) ∧ Below wx.heap.size wx w') :=
    Lib.hid fun w1 h => (one_res s2 W H l2 X7 Y7 XB YB a7 aB n7' c7 nB cB w1 (v7.kept h) (fun h0 => (vB h0).kept h)).mono fun e w' ⟨he, hb⟩ => ⟨he, h.trans (hb.mono h.size)⟩
  have K3 : Hid (∀ w1, Below wx.heap.size wx w1 → Calls Tryz.prog 55 #[.agg #[.int .i64 X9, .int .i64 Y9, .slice a9 n9' c9], .int .i64 s3, .int .i64 s3, .agg #[.int .i64 XC, .int .i64 YC, .slice aC nC cC]] w1 fun e w' => e = .returned (.bool true) ∧ Below wx.heap.size wx w') :=
    Lib.hid fun w1 h => (one_res s3 W3 H3 l3 X9 Y9 XC YC a9 aC n9' c9 nC cC w1 (v9.kept h) (fun h0 => (vC h0).kept h)).mono fun e w' ⟨he, hb⟩ => ⟨he, h.trans (hb.mono h.size)⟩
  have K4 : Hid (∀ w1, Below wx.heap.size wx w1 → Calls Tryz.prog 19 #[] w1 fun e w' => e = .returned (.bool true) ∧ Below wx.heap.size wx w') :=
    Lib.hid fun w1 h => (awake_any w1 ((ht.on hbw).on h)).mono fun e w' ⟨he, hb⟩ => ⟨he, h.trans (hb.mono h.size)⟩
  obtain ⟨i0, i1, i2⟩ := cells3 b5
  obtain ⟨i3, i4, i5⟩ := cells3 bA
  have HB7 := Lib.hid b7
  have HBB := Lib.hid bB
  have HB9 := Lib.hid b9
  have HBC := Lib.hid bC
  have HBW := Lib.hid hbw
  clear ht hM f5 f7 f9 hb8 hbw v5 v7 v9 vA vB vC b5 b7 b9 bA bB bC
  go_upto_region 17 with fail
  go_wp2_with (first
    | ((go_at_call_of 55 (Value.agg #[.int .i64 X5, .int .i64 Y5, .slice a5 n5' c5]); refine (K1.out _ (Below.refl _ _)).mono ?_; rintro e w1 ⟨rfl, hb1⟩
        obtain ⟨j0, j1, j2⟩ := cells3 ((hb1.block _ (lt_of_blk HB7.out)).trans HB7.out)
        obtain ⟨j3, j4, j5⟩ := cells3 ((hb1.block _ (lt_of_blk HBB.out)).trans HBB.out)))
    | ((go_at_call_of 55 (Value.agg #[.int .i64 X7, .int .i64 Y7, .slice a7 n7' c7]); refine (K2.out _ hb1).mono ?_; rintro e w2 ⟨rfl, hb2⟩
        obtain ⟨k0, k1, k2⟩ := cells3 ((hb2.block _ (lt_of_blk HB9.out)).trans HB9.out)
        obtain ⟨k3, k4, k5⟩ := cells3 ((hb2.block _ (lt_of_blk HBC.out)).trans HBC.out)))
    | ((go_at_call_of 55 (Value.agg #[.int .i64 X9, .int .i64 Y9, .slice a9 n9' c9]); refine (K3.out _ hb2).mono ?_; rintro e w3 ⟨rfl, hb3⟩))
    | (go_at_call 19; refine (K4.out _ hb3).mono ?_; rintro e w4 ⟨rfl, hb4⟩))
  go_ret
  exact ⟨rfl, HBW.out.trans (hb4.mono HBW.out.size)⟩

end Go.Proofs.YtfdkmmllemkogaaGreatDoor

/-
  The contract of LightSpreads: for every map and every four numbers it returns true.
-/
namespace Go.Proofs.YtfdkmmllemkogaaGreatDoor
open Go.RowKit Go.Shelf
set_option linter.unusedVariables false
set_option linter.unusedSimpArgs false

theorem spreadsC (W H : Int) (a : Option Addr) (n c : Nat) (xs : List Nat) (n0 n1 n2 n3 : Int) (hn : n ≤ 100000) :
    SpreadsC W H a n c xs n0 n1 n2 n3 (mapErr W H n xs) (firstNZ [mapErr W H n xs, rangeErr n0 (-1000) 1000, rangeErr n1 1 1000]) (firstNZ [mapErr W H n xs, rangeErr n2 0 4]) (firstNZ [mapErr W H n xs, rangeErr n3 1 64])
      (scaledErr W H n xs n0 n1) (spreadErr W H n xs n2) (binnedErr W H n xs n3) (W / n3) (H / n3) (scaleL n (xs.map kOf) n0 n1) (spreadL W H (xs.map kOf) n2) (binnedL W H (xs.map kOf) n3) where
  own := fun wx hM => own_of W H a n c xs hn wx hM
  scaled := fun wx g c' hM => scaled_res W H _ n c' xs n0 n1 wx hM
  spread := fun wx g c' hM => spread_res W H _ n c' xs n2 wx hM
  binned := fun wx g c' hM => binned_res W H _ n c' xs n3 wx hM
  chk := fun wx hM => refCheckMap_map W H a n c xs wx hM
  rscaled := fun h0 wx hM => refScaled_res W H a n c xs n0 n1 wx hM h0
  rspread := fun h0 wx hM => refSpread_res W H a n c xs n2 wx hM h0
  rbinned := fun h0 wx hM => refBinned_res W H a n c xs n3 wx hM h0
  e1 := rfl
  e2 := rfl
  e3 := rfl
  t1 := fun h => by unfold scaledErr; rw [if_neg h]
  t2 := fun h => by unfold spreadErr; rw [if_neg h]
  t3 := fun h => by unfold binnedErr; rw [if_neg h]

theorem spreads3_all (w : World) (W H : Int) (a : Option Addr) (n c : Nat) (xs : List Nat) (n0 n1 n2 n3 : Int) (r q1 q2 q3 s1 s2 s3 W3 H3 : Int) (l1 l2 l3 : List Int) (hC : SpreadsC W H a n c xs n0 n1 n2 n3 r q1 q2 q3 s1 s2 s3 W3 H3 l1 l2 l3) (ht : TabAt w) : Spr3 w W H a n c xs n0 n1 n2 n3 r q1 q2 q3 s1 s2 s3 W3 H3 l1 l2 l3 := by
  have h17 := spreads17 w W H a n c xs n0 n1 n2 n3 r q1 q2 q3 s1 s2 s3 W3 H3 l1 l2 l3 ht
  have h15 : Spr15 w W H a n c xs n0 n1 n2 n3 r q1 q2 q3 s1 s2 s3 W3 H3 l1 l2 l3 := by
    by_cases h : q3 = 0
    · exact spreads15_ok w W H a n c xs n0 n1 n2 n3 r q1 q2 q3 s1 s2 s3 W3 H3 l1 l2 l3 hC h h17
    · exact spreads15_bad w W H a n c xs n0 n1 n2 n3 r q1 q2 q3 s1 s2 s3 W3 H3 l1 l2 l3 hC h h17
  have h13 : Spr13 w W H a n c xs n0 n1 n2 n3 r q1 q2 q3 s1 s2 s3 W3 H3 l1 l2 l3 := by
    by_cases h : q2 = 0
    · exact spreads13_ok w W H a n c xs n0 n1 n2 n3 r q1 q2 q3 s1 s2 s3 W3 H3 l1 l2 l3 hC h h15
    · exact spreads13_bad w W H a n c xs n0 n1 n2 n3 r q1 q2 q3 s1 s2 s3 W3 H3 l1 l2 l3 hC h h15
  have h11 : Spr11 w W H a n c xs n0 n1 n2 n3 r q1 q2 q3 s1 s2 s3 W3 H3 l1 l2 l3 := by
    by_cases h : q1 = 0
    · exact spreads11_ok w W H a n c xs n0 n1 n2 n3 r q1 q2 q3 s1 s2 s3 W3 H3 l1 l2 l3 hC h h13
    · exact spreads11_bad w W H a n c xs n0 n1 n2 n3 r q1 q2 q3 s1 s2 s3 W3 H3 l1 l2 l3 hC h h13
  exact spreads3 w W H a n c xs n0 n1 n2 n3 r q1 q2 q3 s1 s2 s3 W3 H3 l1 l2 l3 hC (spreads4 w W H a n c xs n0 n1 n2 n3 r q1 q2 q3 s1 s2 s3 W3 H3 l1 l2 l3 hC (spreads5 w W H a n c xs n0 n1 n2 n3 r q1 q2 q3 s1 s2 s3 W3 H3 l1 l2 l3 hC (spreads6 w W H a n c xs n0 n1 n2 n3 r q1 q2 q3 s1 s2 s3 W3 H3 l1 l2 l3 hC (spreads7 w W H a n c xs n0 n1 n2 n3 r q1 q2 q3 s1 s2 s3 W3 H3 l1 l2 l3 hC (spreads8 w W H a n c xs n0 n1 n2 n3 r q1 q2 q3 s1 s2 s3 W3 H3 l1 l2 l3 hC (spreads9 w W H a n c xs n0 n1 n2 n3 r q1 q2 q3 s1 s2 s3 W3 H3 l1 l2 l3 hC (spreads10 w W H a n c xs n0 n1 n2 n3 r q1 q2 q3 s1 s2 s3 W3 H3 l1 l2 l3 hC h11)))))))

set_option maxRecDepth 1000000 in
set_option maxHeartbeats 12800000 in
theorem spreads_all (w : World) (W H : Int) (a : Option Addr) (n c : Nat) (xs : List Nat) (n0 n1 n2 n3 : Int) (ht : TabAt w) (hM : AnyMap w a n c xs) :
    Calls Tryz.prog 7 #[.agg #[.int .i64 W, .int .i64 H, .slice a n c], .agg #[.int .i64 n0, .int .i64 n1, .int .i64 n2, .int .i64 n3]] w (TruePost w) := by
  obtain ⟨W0, hW0⟩ : ∃ W0, ((w.alloc (.cells #[.int .i64 W, .int .i64 H, .slice a n c] 48)).alloc (.cells #[.int .i64 n0, .int .i64 n1, .int .i64 n2, .int .i64 n3] 72)) = W0 := ⟨_, rfl⟩
  have hB0 : Below w.heap.size w W0 := by rw [← hW0]; exact (((Below.refl _ w).alloc (Nat.le_refl _) _).alloc (by simp) _)
  have hm0 : SK w W H a n c xs n0 n1 n2 n3 W0 w.heap.size (w.heap.size + 1) :=
    ⟨hB0, by rw [← hW0]; exact blk_alloc_other (blk_alloc_new _ _) _, by rw [← hW0]; exact blk_alloc_new1 _ _ _, hM.below hB0 (Nat.le_refl _)⟩
  obtain ⟨c0, c1, c2⟩ := map_cells hm0.bm
  by_cases hs : (decide (n ≤ 160) || decide (n = 4097)) = true
  · have hT := spreads3_all w _ _ _ _ _ _ _ _ _ _ _ _ _ _ _ _ _ _ _ _ _ _ (spreadsC W H a n c xs n0 n1 n2 n3 (by simp at hs; omega)) ht
    have KSA : Hid (Calls Tryz.prog 36 #[.agg #[.int .i64 W, .int .i64 H, .slice a n c]] W0 fun e w' => e = .returned (.bool true) ∧ Below W0.heap.size W0 w') := Lib.hid (by
      have h := shortMap_all W H a n c W0
      rwa [hs] at h)
    have HM0 := Lib.hid hm0
    have HTT := Lib.hid hT
    clear ht hM hm0 hB0 hs hT
    go_enter Tryz.func7, Tryz.ntmps7
    go_upto_region 1 with fail
    try rw [hW0]
    clear hW0
    go_cut [20] (fun s20 wr => s20 = .bool false ∧ Below W0.heap.size W0 wr)
    case first =>
      go_wp2_with (go_at_call 36; refine KSA.out.mono ?_; rintro e w1 ⟨rfl, hb1⟩)
      go_meet
      exact ⟨rfl, hb1⟩
    case rest =>
      rename_i K1 hK1 K0 hK
      obtain ⟨rfl, hb⟩ := hcut
      refine hK _ _ ?_
      clear hK
      have HK1 := Lib.hid hK1
      clear hK1
      go_wp2_with fail
      refine HK1.out _ _ ?_
      have hT := HTT.out
      unfold Spr3 at hT
      exact hT _ _ _ _ _ _ _ _ _ _ _ _ _ _ _ _ _ _ _ _ _ _ _ _ _ _ _ _ _ _ _ _ _ _ _ _ _ _ _ _ _ _ _ _ _ _ _ _ _ _ _ _ _ _ _ _ _ _ _ _ _ _ _ _ _ _ _ _ _ _ _ _ _ _ _ _ _ _ _ _ _ _ _ _ _ _ _ _ _ _ _ _ _ _ _ _ _ _ _ _ _ _ _ _ _ _ _ _ _ _ _ _ _ _ _ _ _ _ _ _  (HM0.out.kept hb)
  · have KSA : Hid (Calls Tryz.prog 36 #[.agg #[.int .i64 W, .int .i64 H, .slice a n c]] W0 fun e w' => e = .returned (.bool false) ∧ Below W0.heap.size W0 w') := Lib.hid (by
      have h := shortMap_all W H a n c W0
      rwa [Bool.eq_false_iff.2 hs] at h)
    have HB0 := Lib.hid hB0
    have KW : Hid (∀ w1, Below W0.heap.size W0 w1 → Calls Tryz.prog 19 #[] w1 fun e w' => e = .returned (.bool true) ∧ Below w1.heap.size w1 w') := Lib.hid (fun w1 h => awake_any w1 ((ht.on hB0).on h))
    clear ht hM hm0 hB0 hs
    go_enter Tryz.func7, Tryz.ntmps7
    go_upto_region 1 with fail
    try rw [hW0]
    clear hW0
    go_wp2_with (first
      | (go_at_call 36; refine KSA.out.mono ?_; rintro e w1 ⟨rfl, hb1⟩)
      | (go_at_call 19; refine (KW.out _ hb1).mono ?_; rintro e w3 ⟨rfl, hb3⟩))
    go_ret
    exact ⟨rfl, (HB0.out.trans (hb1.mono HB0.out.size)).trans (hb3.mono (Nat.le_trans HB0.out.size hb1.size))⟩
end Go.Proofs.YtfdkmmllemkogaaGreatDoor
