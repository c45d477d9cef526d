/-
  The walk of LightTurns where the first map is right: what the reference answers.
-/
import Derived.Test.YtfdkmmllemkogaaGreatDoorOCa
namespace Go.Proofs.YtfdkmmllemkogaaGreatDoor
open Go.RowKit Go.Shelf
set_option linter.unusedVariables false
set_option linter.unusedSimpArgs false

set_option maxRecDepth 1000000 in
set_option maxHeartbeats 12800000 in
theorem turns9_ok (w : World) (W H : Int) (a : Option Addr) (n c : Nat) (xs : List Nat) (W2 H2 : Int) (a2 : Option Addr) (m c2 : Nat) (ys : List Nat) (r rb r2 r3 : Int) (lF lT lA : List Int) (hC : TurnsC W H a n c xs W2 H2 a2 m c2 ys r rb r2 r3 lF lT lA) (h : r = 0) (hT : Trn11 w W H a n c xs W2 H2 a2 m c2 ys r rb r2 r3 lF lT lA) : Trn9 w W H a n c xs W2 H2 a2 m c2 ys r rb r2 r3 lF lT lA := by
  subst h
  unfold Trn9
  intro wx w8 Ba Bb B5 B7 B9 u16 u17 u18 u19 u20 u21 u22 u23 u24 u25 u26 u27 u28 u29 u30 u31 u32 u33 u34 u35 u36 u37 u38 u39 u40 u41 u42 u43 u44 u45 u46 u47 u48 u49 u50 u51 u52 u53 u54 u55 u56 u57 u58 u59 u60 u61 u62 u63 u64 u65 u66 u67 u68 u69 u70 u71 u72 u73 u74 u75 u76 u77 u78 u79 u80 u81 u82 u83 u84 u85 u86 u87 hM f5 f7 f9 hb8 z13 z14 z15
  conv => arg 2; whnf
  dsimp only
  have hM9 := hM.kept hb8
  have KF := Lib.hid (hC.rflip rfl)
  have KT := Lib.hid (hC.rturn rfl)
  go_upto_region 9 with fail
  go_cut [53] (fun s53 wr => s53 = .bool true ∧ wx = wr)
  case first =>
    clear hT hC
    go_wp2_with fail
    go_meet
    exact ⟨rfl, rfl⟩
  case rest =>
    rename_i K1 hK1 K0 hK
    obtain ⟨rfl, rfl⟩ := hcut
    refine hK _ _ ?_
    clear hK
    have HK1 := Lib.hid hK1
    clear hK1
    have hla := lt_of_blk hM.ba
    obtain ⟨c0, c1, c2'⟩ := map_cells hM9.ba
    obtain ⟨g0, g1, g2⟩ := map_cells hM.ba
    have HMA := hM.ma
    have KF' : Hid (∀ w1 : World, Blw w8.heap.size w8 w1 → Calls Tryz.prog 59 #[.agg #[.int .i64 W, .int .i64 H, .slice a n c]] w1 fun e w' =>
        ∃ X Y a' n' c'', e = .returned (.agg #[.int .i64 X, .int .i64 Y, .slice a' n' c'']) ∧ ResV w' 0 W H lF X Y a' n' c'' ∧ Blw w1.heap.size w1 w' ∧ Below w8.heap.size w8 w') :=
      Lib.hid (fun w1 (hh : Below w8.heap.size w8 w1) => (KF.out w1 (HMA.below hh (Nat.le_refl _))).mono fun e w' ⟨X, Y, a', n', c'', he, hr, hb⟩ => ⟨X, Y, a', n', c'', he, hr, hb, hh.trans (hb.mono hh.size)⟩)
    have KT' : Hid (∀ w1 : World, Blw w8.heap.size w8 w1 → Calls Tryz.prog 60 #[.agg #[.int .i64 W, .int .i64 H, .slice a n c]] w1 fun e w' =>
        ∃ X Y a' n' c'', e = .returned (.agg #[.int .i64 X, .int .i64 Y, .slice a' n' c'']) ∧ ResV w' 0 H W lT X Y a' n' c'' ∧ Blw w1.heap.size w1 w' ∧ Below w8.heap.size w8 w') :=
      Lib.hid (fun w1 (hh : Below w8.heap.size w8 w1) => (KT.out w1 (HMA.below hh (Nat.le_refl _))).mono fun e w' ⟨X, Y, a', n', c'', he, hr, hb⟩ => ⟨X, Y, a', n', c'', he, hr, hb, hh.trans (hb.mono hh.size)⟩)
    have HTT := Lib.hid hT
    have HM := Lib.hid hM
    have H5 := Lib.hid f5
    have H7 := Lib.hid f7
    have H9 := Lib.hid f9
    have HZ13 := Lib.hid z13
    have HZ14 := Lib.hid z14
    have HZ15 := Lib.hid z15
    have l13 := lt_of_blk z13
    have l14 := lt_of_blk z14
    have l15 := lt_of_blk z15
    have n1 : ¬ (w8.heap.size + 1 = w8.heap.size) := by omega
    have n2 : ¬ (w8.heap.size = w8.heap.size + 1) := by omega
    have hR : Blw w8.heap.size w8 wx.drew := show Below _ _ _ from hb8.drew
    have hR0 : Blw w8.heap.size w8 wx := hb8
    clear hC hT hM hM9 HMA f5 f7 f9 hb8 z13 z14 z15 KF KT
    go_upto_region 10 with fail
    go_region_held3 (fun w' => w'.cell? ⟨Ba, 0, none⟩ = some (.int .i64 W) ∧ w'.cell? ⟨Ba, 1, none⟩ = some (.int .i64 H) ∧ w'.cell? ⟨Ba, 2, none⟩ = some (.slice a n c) ∧ Blw w8.heap.size w8 w')
      (first
        | (go_split_ands; refine ⟨?_, ?_, ?_, ?_⟩ <;> first | (with_reducible assumption) | exact hb2 | ((with_reducible refine Eq.trans (Below.cell (B := w8.heap.size) (w := w8) hb2 ?_) ?_) <;> first | (with_reducible assumption) | (show Ba < _; assumption)))
        | (go_split_ands; refine ⟨?_, ?_, ?_, ?_⟩ <;> first
            | ((with_reducible refine Eq.trans (Below.cell (B := w8.heap.size) (w := w8) (below_set3 hb2 ?_ _ _ _) ?_) ?_) <;> first | (with_reducible assumption) | omega | (show Ba < _; assumption))
            | ((with_reducible refine Eq.trans (Below.cell (B := w8.heap.size) (w := w8) (below_set3 (below_set3 hb2 ?_ _ _ _) ?_ _ _ _) ?_) ?_) <;> first | (with_reducible assumption) | omega | (show Ba < _; assumption))
            | (unfold Blw; (with_reducible refine below_set3 (below_set3 hb2 ?_ _ _ _) ?_ _ _ _) <;> omega)
            | (unfold Blw; (with_reducible refine below_set3 hb2 ?_ _ _ _) <;> omega))
        | go_keep)
      (first
        | (go_at_call 59; refine (KF'.out _ ?_).mono ?_; rotate_left 1; rintro e wA ⟨XA, YA, aA, nA, cA, rfl, hrA, hbA, hb2⟩; (have hsA := (hbA : Below _ _ _).size); rotate_left 1; (simp [*]))
        | ((go_at_call 60; refine (KT'.out _ ?_).mono ?_; rotate_left 1; rintro e wB ⟨XB, YB, aB, nB, cB, rfl, hrB, hbB, hb2⟩
            have hsB := (hbB : Below _ _ _).size
            have hdr : wx.drew.heap.size = wx.heap.size := rfl
            have y13 : wB.heap[w8.heap.size]? = some (.cells #[.int .i64 0, .int .i64 0, .slice none 0 0] 48 (0, 0)) := ((hbB : Below _ _ _).block _ (by omega)).trans (((hbA : Below _ _ _).block _ (by omega)).trans HZ13.out)
            have y14 : wB.heap[w8.heap.size + 1]? = some (.cells #[.int .i64 0, .int .i64 0, .slice none 0 0] 48 (0, 0)) := ((hbB : Below _ _ _).block _ (by omega)).trans (((hbA : Below _ _ _).block _ (by omega)).trans HZ14.out)
            have y15 : wB.heap[w8.heap.size + 1 + 1]? = some (.cells #[.int .i64 0, .int .i64 0, .slice none 0 0] 48 (0, 0)) := ((hbB : Below _ _ _).block _ (by omega)).trans (((hbA : Below _ _ _).block _ (by omega)).trans HZ15.out)
            obtain ⟨p0, p1, p2⟩ := map_cells y13
            obtain ⟨p3, p4, p5⟩ := map_cells y14
            have q0 : wB.frozen? ⟨w8.heap.size, 0, none⟩ = false := by simp [World.frozen?, y13]
            have q1 : wB.frozen? ⟨w8.heap.size, 1, none⟩ = false := by simp [World.frozen?, y13]
            have q2 : wB.frozen? ⟨w8.heap.size, 2, none⟩ = false := by simp [World.frozen?, y13]
            have q3 : wB.frozen? ⟨w8.heap.size + 1, 0, none⟩ = false := by simp [World.frozen?, y14]
            have q4 : wB.frozen? ⟨w8.heap.size + 1, 1, none⟩ = false := by simp [World.frozen?, y14]
            have q5 : wB.frozen? ⟨w8.heap.size + 1, 2, none⟩ = false := by simp [World.frozen?, y14]
            have HY13 := Lib.hid y13
            have HY14 := Lib.hid y14
            have HY15 := Lib.hid y15
            clear y13 y14 y15
            rotate_left 1; (simp [*]))))
    have y13 := HY13.out
    have y14 := HY14.out
    have y15 := HY15.out
    have o1 := OneBlk.set3 wB w8.heap.size (.int .i64 XA) (.int .i64 YA) (.slice aA nA cA)
    have x14 := (o1.other (w8.heap.size + 1) (by omega)).trans y14
    have x15 := (o1.other (w8.heap.size + 1 + 1) (by omega)).trans y15
    have f1 : WantBox (((wB.setCell ⟨w8.heap.size, 0, none⟩ (.int .i64 XA)).setCell ⟨w8.heap.size, 1, none⟩ (.int .i64 YA)).setCell ⟨w8.heap.size, 2, none⟩ (.slice aA nA cA)) w8.heap.size 0 W H lF := WantBox.put y13 (fun _ => hrA.kept ((hbB : Below _ _ _).mono (Nat.le_refl _)))
    have o2 := OneBlk.set3 (((wB.setCell ⟨w8.heap.size, 0, none⟩ (.int .i64 XA)).setCell ⟨w8.heap.size, 1, none⟩ (.int .i64 YA)).setCell ⟨w8.heap.size, 2, none⟩ (.slice aA nA cA)) (w8.heap.size + 1) (.int .i64 XB) (.int .i64 YB) (.slice aB nB cB)
    have f2 := f1.stored x14 o2 (by omega)
    have f3 : WantBox _ (w8.heap.size + 1) 0 H W lT := WantBox.put x14 (fun _ => hrB.stored y13 o1)
    have zF := (o2.other (w8.heap.size + 1 + 1) (by omega)).trans x15
    have bF := below_set3 (below_set3 hb2 (Nat.le_refl _) (.int .i64 XA) (.int .i64 YA) (.slice aA nA cA)) (B := w8.heap.size + 1) (by omega) (.int .i64 XB) (.int .i64 YB) (.slice aB nB cB)
    refine HK1.out _ _ ?_
    have hT := HTT.out
    unfold Trn11 at hT
    exact hT _ w8 _ _ _ _ _ _ _ _ _ _ _ _ _ _ _ _ _ _ _ _ _ _ _ _ _ _ _ _ _ _ _ _ _ _ _ _ _ _ _ _ _ _ _ _ _ _ _ _ _ _ _ _ _ _ _ _ _ _ _ _ _ _ _ _ _ _ _ _ _ _ _ _ _ _ _ _ _  HM.out H5.out H7.out H9.out bF f2 f3 zF

end Go.Proofs.YtfdkmmllemkogaaGreatDoor

/-
  The walk of LightTurns from region 11 on, and its contract: for all two maps it returns true.
-/
namespace Go.Proofs.YtfdkmmllemkogaaGreatDoor
open Go.RowKit Go.Shelf
set_option linter.unusedVariables false
set_option linter.unusedSimpArgs false

theorem box_cells {w : World} {B : Nat} {T : TypeId} {x y z : Value} (h : w.heap[B]? = some (.cells #[x, y, z] T (0, 0))) :
    w.cell? ⟨B, 0, none⟩ = some x ∧ w.cell? ⟨B, 1, none⟩ = some y ∧ w.cell? ⟨B, 2, none⟩ = some z :=
  ⟨by rw [cell_of_row w _ 0 _ _ (0, 0) h]; rfl, by rw [cell_of_row w _ 1 _ _ (0, 0) h]; rfl, by rw [cell_of_row w _ 2 _ _ (0, 0) h]; rfl⟩

set_option maxRecDepth 1000000 in
set_option maxHeartbeats 12800000 in
theorem turns11_ok (w : World) (W H : Int) (a : Option Addr) (n c : Nat) (xs : List Nat) (W2 H2 : Int) (a2 : Option Addr) (m c2 : Nat) (ys : List Nat) (r rb r2 r3 : Int) (lF lT lA : List Int) (hC : TurnsC W H a n c xs W2 H2 a2 m c2 ys r rb r2 r3 lF lT lA) (h : r2 = 0) (hT : Trn13 w W H a n c xs W2 H2 a2 m c2 ys r rb r2 r3 lF lT lA) : Trn11 w W H a n c xs W2 H2 a2 m c2 ys r rb r2 r3 lF lT lA := by
  subst h
  unfold Trn11
  intro wx w8 Ba Bb B5 B7 B9 u16 u17 u18 u19 u20 u21 u22 u23 u24 u25 u26 u27 u28 u29 u30 u31 u32 u33 u34 u35 u36 u37 u38 u39 u40 u41 u42 u43 u44 u45 u46 u47 u48 u49 u50 u51 u52 u53 u54 u55 u56 u57 u58 u59 u60 u61 u62 u63 u64 u65 u66 u67 u68 u69 u70 u71 u72 u73 u74 u75 u76 u77 u78 u79 u80 u81 u82 u83 u84 u85 u86 u87 hM f5 f7 f9 hb8 wF wT z15
  conv => arg 2; whnf
  dsimp only
  have hM9 := hM.kept hb8
  have KA := Lib.hid (hC.radd rfl wx hM9.ma hM9.mb)
  go_upto_region 11 with fail
  go_cut [59] (fun s59 wr => s59 = .bool true ∧ wx = wr)
  case first =>
    clear hT hC
    go_wp2_with fail
    go_meet
    exact ⟨rfl, rfl⟩
  case rest =>
    rename_i K1 hK1 K0 hK
    obtain ⟨rfl, rfl⟩ := hcut
    refine hK _ _ ?_
    clear hK
    have HK1 := Lib.hid hK1
    clear hK1
    obtain ⟨c0, c1, c2'⟩ := map_cells hM9.ba
    obtain ⟨d0, d1, d2'⟩ := map_cells hM9.bb
    have HTT := Lib.hid hT
    have HM := Lib.hid hM
    have H5 := Lib.hid f5
    have H7 := Lib.hid f7
    have H9 := Lib.hid f9
    have HB8 := Lib.hid hb8
    have HF := Lib.hid wF
    have HT := Lib.hid wT
    have HZ15 := Lib.hid z15
    have l15 := lt_of_blk z15
    clear hC hT hM hM9 f5 f7 f9 hb8 wF wT z15
    go_wp2_with ((go_at_call 61; refine KA.out.mono ?_; rintro e wA ⟨XA, YA, aA, nA, cA, rfl, hrA, hbA⟩
                  have y15 := (hbA.block _ l15).trans HZ15.out
                  obtain ⟨p0, p1, p2⟩ := map_cells y15
                  have q0 : wA.frozen? ⟨w8.heap.size + 1 + 1, 0, none⟩ = false := by simp [World.frozen?, y15]
                  have q1 : wA.frozen? ⟨w8.heap.size + 1 + 1, 1, none⟩ = false := by simp [World.frozen?, y15]
                  have q2 : wA.frozen? ⟨w8.heap.size + 1 + 1, 2, none⟩ = false := by simp [World.frozen?, y15]
                  have HY15 := Lib.hid y15
                  clear y15))
    have y15 := HY15.out
    have o1 := OneBlk.set3 wA (w8.heap.size + 1 + 1) (.int .i64 XA) (.int .i64 YA) (.slice aA nA cA)
    have f1 := (HF.out.kept hbA).stored y15 o1 (by omega)
    have f2 := (HT.out.kept hbA).stored y15 o1 (by omega)
    have f3 : WantBox (((wA.setCell ⟨w8.heap.size + 1 + 1, 0, none⟩ (.int .i64 XA)).setCell ⟨w8.heap.size + 1 + 1, 1, none⟩ (.int .i64 YA)).setCell ⟨w8.heap.size + 1 + 1, 2, none⟩ (.slice aA nA cA)) (w8.heap.size + 1 + 1) r3 W H lA := WantBox.put y15 (fun _ => hrA)
    have bF := below_set3 (HB8.out.trans (hbA.mono HB8.out.size)) (B := w8.heap.size + 1 + 1) (by omega) (.int .i64 XA) (.int .i64 YA) (.slice aA nA cA)
    refine HK1.out _ _ ?_
    have hT := HTT.out
    unfold Trn13 at hT
    exact hT _ w8 _ _ _ _ _ _ _ _ _ _ _ _ _ _ _ _ _ _ _ _ _ _ _ _ _ _ _ _ _ _ _ _ _ _ _ _ _ _ _ _ _ _ _ _ _ _ _ _ _ _ _ _ _ _ _ _ _ _ _ _ _ _ _ _ _ _ _ _ _ _ _ _ _ _ _ _ _  HM.out H5.out H7.out H9.out bF f1 f2 f3

end Go.Proofs.YtfdkmmllemkogaaGreatDoor

/-
  The walk of LightTurns from region 13 on.
-/
namespace Go.Proofs.YtfdkmmllemkogaaGreatDoor
open Go.RowKit Go.Shelf
set_option linter.unusedVariables false
set_option linter.unusedSimpArgs false

set_option maxRecDepth 1000000 in
set_option maxHeartbeats 12800000 in
theorem turns13 (w : World) (W H : Int) (a : Option Addr) (n c : Nat) (xs : List Nat) (W2 H2 : Int) (a2 : Option Addr) (m c2 : Nat) (ys : List Nat) (r rb r2 r3 : Int) (lF lT lA : List Int) (ht : TabAt w) : Trn13 w W H a n c xs W2 H2 a2 m c2 ys r rb r2 r3 lF lT lA := by
  unfold Trn13
  intro wx w8 Ba Bb B5 B7 B9 u16 u17 u18 u19 u20 u21 u22 u23 u24 u25 u26 u27 u28 u29 u30 u31 u32 u33 u34 u35 u36 u37 u38 u39 u40 u41 u42 u43 u44 u45 u46 u47 u48 u49 u50 u51 u52 u53 u54 u55 u56 u57 u58 u59 u60 u61 u62 u63 u64 u65 u66 u67 u68 u69 u70 u71 u72 u73 u74 u75 u76 u77 u78 u79 u80 u81 u82 u83 u84 u85 u86 u87 hM f5 f7 f9 hb8 wF wT wA
  conv => arg 2; whnf
  dsimp only
  obtain ⟨X5, Y5, a5, n5, c5, b5, v5⟩ := f5.kept hb8
  obtain ⟨X7, Y7, a7, n7, c7, b7, v7⟩ := f7.kept hb8
  obtain ⟨X9, Y9, a9, n9, c9, b9, v9⟩ := f9.kept hb8
  obtain ⟨XF, YF, aF, nF, cF, bF, vF⟩ := wF
  obtain ⟨XT, YT, aT, nT, cT, bT, vT⟩ := wT
  obtain ⟨XA, YA, aA, nA, cA, bA, vA⟩ := wA
  have hbw := hM.below.trans (hb8.mono hM.below.size)
  have K1 := Lib.hid (one_res r W H lF X5 Y5 XF YF a5 aF n5 c5 nF cF wx v5 vF)
  have K2 : Hid (∀ w1, Below wx.heap.size wx w1 → Calls Tryz.prog 55 #[.agg #[.int .i64 X7, .int .i64 Y7, .slice a7 n7 c7], .int .i64 r, .int .i64 r, .agg #[.int .i64 XT, .int .i64 YT, .slice aT nT cT]] w1 fun e w' => e = .returned (.bool true) ∧ Below wx.heap.size wx w') :=
    Lib.hid fun w1 h => (one_res r H W lT X7 Y7 XT YT a7 aT n7 c7 nT cT w1 (v7.kept h) (fun h0 => (vT h0).kept h)).mono fun e w' ⟨he, hb⟩ => ⟨he, h.trans (hb.mono h.size)⟩
  have K3 : Hid (∀ w1, Below wx.heap.size wx w1 → Calls Tryz.prog 55 #[.agg #[.int .i64 X9, .int .i64 Y9, .slice a9 n9 c9], .int .i64 r3, .int .i64 r3, .agg #[.int .i64 XA, .int .i64 YA, .slice aA nA cA]] w1 fun e w' => e = .returned (.bool true) ∧ Below wx.heap.size wx w') :=
    Lib.hid fun w1 h => (one_res r3 W H lA X9 Y9 XA YA a9 aA n9 c9 nA cA w1 (v9.kept h) (fun h0 => (vA h0).kept h)).mono fun e w' ⟨he, hb⟩ => ⟨he, h.trans (hb.mono h.size)⟩
  have K4 : Hid (∀ w1, Below wx.heap.size wx w1 → Calls Tryz.prog 19 #[] w1 fun e w' => e = .returned (.bool true) ∧ Below wx.heap.size wx w') :=
    Lib.hid fun w1 h => (awake_any w1 ((ht.on hbw).on h)).mono fun e w' ⟨he, hb⟩ => ⟨he, h.trans (hb.mono h.size)⟩
  obtain ⟨i0, i1, i2⟩ := box_cells b5
  obtain ⟨i3, i4, i5⟩ := box_cells bF
  have HB7 := Lib.hid b7
  have HBT := Lib.hid bT
  have HB9 := Lib.hid b9
  have HBA := Lib.hid bA
  have HBW := Lib.hid hbw
  clear ht hM f5 f7 f9 hb8 hbw v5 v7 v9 vF vT vA b5 b7 b9 bF bT bA
  go_upto_region 13 with fail
  go_wp2_with (first
    | ((go_at_call_of 55 (Value.agg #[.int .i64 X5, .int .i64 Y5, .slice a5 n5 c5]); refine K1.out.mono ?_; rintro e w1 ⟨rfl, hb1⟩
        obtain ⟨j0, j1, j2⟩ := box_cells ((hb1.block _ (lt_of_blk HB7.out)).trans HB7.out)
        obtain ⟨j3, j4, j5⟩ := box_cells ((hb1.block _ (lt_of_blk HBT.out)).trans HBT.out)))
    | ((go_at_call_of 55 (Value.agg #[.int .i64 X7, .int .i64 Y7, .slice a7 n7 c7]); refine (K2.out _ hb1).mono ?_; rintro e w2 ⟨rfl, hb2⟩
        obtain ⟨k0, k1, k2⟩ := box_cells ((hb2.block _ (lt_of_blk HB9.out)).trans HB9.out)
        obtain ⟨k3, k4, k5⟩ := box_cells ((hb2.block _ (lt_of_blk HBA.out)).trans HBA.out)))
    | ((go_at_call_of 55 (Value.agg #[.int .i64 X9, .int .i64 Y9, .slice a9 n9 c9]); refine (K3.out _ hb2).mono ?_; rintro e w3 ⟨rfl, hb3⟩))
    | (go_at_call 19; refine (K4.out _ hb3).mono ?_; rintro e w4 ⟨rfl, hb4⟩))
  go_ret
  exact ⟨rfl, HBW.out.trans (hb4.mono HBW.out.size)⟩

end Go.Proofs.YtfdkmmllemkogaaGreatDoor

/-
  The contract of LightTurns: for all two maps it returns true.
-/
namespace Go.Proofs.YtfdkmmllemkogaaGreatDoor
open Go.RowKit Go.Shelf
set_option linter.unusedVariables false
set_option linter.unusedSimpArgs false

theorem turnsC (W H : Int) (a : Option Addr) (n c : Nat) (xs : List Nat) (W2 H2 : Int) (a2 : Option Addr) (m c2 : Nat) (ys : List Nat) (hn : n ≤ 100000) (hm : m ≤ 100000) :
    TurnsC W H a n c xs W2 H2 a2 m c2 ys (mapErr W H n xs) (mapErr W2 H2 m ys) (firstNZ [mapErr W H n xs, mapErr W2 H2 m ys]) (addErr W H n xs W2 H2 m ys) (flipL W.toNat n (xs.map kOf)) (turnL W.toNat H.toNat n (xs.map kOf)) (addL n (xs.map kOf) (ys.map kOf)) where
  owna := fun wx hM => own_of W H a n c xs hn wx hM
  ownb := fun wx hM => own_of W2 H2 a2 m c2 ys hm wx hM
  flip := fun wx g c' hM => flipped_res W H _ n c' xs wx hM
  turn := fun wx g c' hM => turned_res W H _ n c' xs wx hM
  add := fun wx g c' g2 c2' hM hM2 => added_res W H _ n c' xs W2 H2 _ m c2' ys wx hM hM2
  chka := fun wx hM => refCheckMap_map W H a n c xs wx hM
  chkb := fun wx hM => refCheckMap_map W2 H2 a2 m c2 ys wx hM
  rflip := fun h0 wx hM => refFlipped_res W H a n c xs wx hM h0
  rturn := fun h0 wx hM => refTurned_res W H a n c xs wx hM h0
  radd := fun h0 wx hM hM2 => refAdded_res W H a n c xs W2 H2 a2 m c2 ys wx hM hM2 h0
  two := rfl
  three := fun h => by unfold addErr; rw [if_neg h]

theorem turns3_all (w : World) (W H : Int) (a : Option Addr) (n c : Nat) (xs : List Nat) (W2 H2 : Int) (a2 : Option Addr) (m c2 : Nat) (ys : List Nat) (r rb r2 r3 : Int) (lF lT lA : List Int) (hC : TurnsC W H a n c xs W2 H2 a2 m c2 ys r rb r2 r3 lF lT lA) (ht : TabAt w) : Trn3 w W H a n c xs W2 H2 a2 m c2 ys r rb r2 r3 lF lT lA := by
  have h13 := turns13 w W H a n c xs W2 H2 a2 m c2 ys r rb r2 r3 lF lT lA ht
  have h11 : Trn11 w W H a n c xs W2 H2 a2 m c2 ys r rb r2 r3 lF lT lA := by
    by_cases h : r2 = 0
    · exact turns11_ok w W H a n c xs W2 H2 a2 m c2 ys r rb r2 r3 lF lT lA hC h h13
    · exact turns11_bad w W H a n c xs W2 H2 a2 m c2 ys r rb r2 r3 lF lT lA hC h h13
  have h9 : Trn9 w W H a n c xs W2 H2 a2 m c2 ys r rb r2 r3 lF lT lA := by
    by_cases h : r = 0
    · exact turns9_ok w W H a n c xs W2 H2 a2 m c2 ys r rb r2 r3 lF lT lA hC h h11
    · exact turns9_bad w W H a n c xs W2 H2 a2 m c2 ys r rb r2 r3 lF lT lA hC h h11
  exact turns3 w W H a n c xs W2 H2 a2 m c2 ys r rb r2 r3 lF lT lA hC (turns4 w W H a n c xs W2 H2 a2 m c2 ys r rb r2 r3 lF lT lA hC (turns5 w W H a n c xs W2 H2 a2 m c2 ys r rb r2 r3 lF lT lA hC (turns6 w W H a n c xs W2 H2 a2 m c2 ys r rb r2 r3 lF lT lA hC (turns7 w W H a n c xs W2 H2 a2 m c2 ys r rb r2 r3 lF lT lA hC (turns8 w W H a n c xs W2 H2 a2 m c2 ys r rb r2 r3 lF lT lA hC h9)))))

set_option maxRecDepth 1000000 in
set_option maxHeartbeats 12800000 in
/-- LightTurns, for all two maps. -/
theorem turns_all (w : World) (W H : Int) (a : Option Addr) (n c : Nat) (xs : List Nat) (W2 H2 : Int) (a2 : Option Addr) (m c2 : Nat) (ys : List Nat) (ht : TabAt w) (hM : AnyMap w a n c xs) (hM2 : AnyMap w a2 m c2 ys) :
    Calls Tryz.prog 6 #[.agg #[.int .i64 W, .int .i64 H, .slice a n c], .agg #[.int .i64 W2, .int .i64 H2, .slice a2 m c2]] w (TruePost w) := by
  obtain ⟨W0, hW0⟩ : ∃ W0, (w.alloc (.cells #[.int .i64 W, .int .i64 H, .slice a n c] 48)).alloc (.cells #[.int .i64 W2, .int .i64 H2, .slice a2 m c2] 48) = W0 := ⟨_, rfl⟩
  have hB0 : Below w.heap.size w W0 := by rw [← hW0]; exact ((Below.refl _ w).alloc (Nat.le_refl _) _).alloc (by simp) _
  have hm0 : TK w W H a n c xs W2 H2 a2 m c2 ys W0 w.heap.size (w.heap.size + 1) :=
    ⟨hB0, by rw [← hW0]; exact blk_alloc_other (blk_alloc_new _ _) _, by rw [← hW0]; exact blk_alloc_new1 _ _ _, hM.below hB0 (Nat.le_refl _), hM2.below hB0 (Nat.le_refl _)⟩
  obtain ⟨c0, c1, c2'⟩ := map_cells hm0.ba
  obtain ⟨d0, d1, d2'⟩ := map_cells hm0.bb
  by_cases hs : (decide (n ≤ 160) || decide (n = 4097)) = true
  · by_cases hs2 : (decide (m ≤ 160) || decide (m = 4097)) = true
    · have hT := turns3_all w _ _ _ _ _ _ _ _ _ _ _ _ _ _ _ _ _ _ _ (turnsC W H a n c xs W2 H2 a2 m c2 ys (by simp at hs; omega) (by simp at hs2; omega)) ht
      have KSA : Hid (Calls Tryz.prog 36 #[.agg #[.int .i64 W, .int .i64 H, .slice a n c]] W0 fun e w' => e = .returned (.bool true) ∧ Below W0.heap.size W0 w') := Lib.hid (by
      have h := shortMap_all W H a n c W0
      rwa [hs] at h)
      have KSB : Hid (∀ w1, Calls Tryz.prog 36 #[.agg #[.int .i64 W2, .int .i64 H2, .slice a2 m c2]] w1 fun e w' => e = .returned (.bool true) ∧ Below w1.heap.size w1 w') := Lib.hid (fun w1 => by
      have h := shortMap_all W2 H2 a2 m c2 w1
      rwa [hs2] at h)
      have HM0 := Lib.hid hm0
      have HTT := Lib.hid hT
      clear ht hM hM2 hm0 hB0 hs hs2 hT
      go_enter Tryz.func6, Tryz.ntmps6
      go_upto_region 1 with fail
      try rw [hW0]
      clear hW0
      go_cut [23] (fun s23 wr => s23 = .bool false ∧ Below W0.heap.size W0 wr)
      case first =>
        go_wp2_with (first
          | (go_at_call_of 36 (Value.agg #[.int .i64 W, .int .i64 H, .slice a n c]); refine KSA.out.mono ?_; rintro e w1 ⟨rfl, hb1⟩; obtain ⟨j0, j1, j2⟩ := map_cells (HM0.out.kept hb1).bb)
          | (go_at_call_of 36 (Value.agg #[.int .i64 W2, .int .i64 H2, .slice a2 m c2]); refine (KSB.out _).mono ?_; rintro e w2 ⟨rfl, hb2⟩; (have hb12 := hb1.trans (hb2.mono hb1.size))))
        go_meet
        exact ⟨rfl, hb12⟩
      case rest =>
        rename_i K1 hK1 K0 hK
        obtain ⟨rfl, hb⟩ := hcut
        refine hK _ _ ?_
        clear hK
        have HK1 := Lib.hid hK1
        clear hK1
        go_wp2_with fail
        refine HK1.out _ _ ?_
        have hT := HTT.out
        unfold Trn3 at hT
        exact hT _ _ _ _ _ _ _ _ _ _ _ _ _ _ _ _ _ _ _ _ _ _ _ _ _ _ _ _ _ _ _ _ _ _ _ _ _ _ _ _ _ _ _ _ _ _ _ _ _ _ _ _ _ _ _ _ _ _ _ _ _ _ _ _ _ _ _ _ _ _ _ _ _ _ _ _ _ _ _ _ _ _ _ _ _ _  (HM0.out.kept hb)
    · have KSA : Hid (Calls Tryz.prog 36 #[.agg #[.int .i64 W, .int .i64 H, .slice a n c]] W0 fun e w' => e = .returned (.bool true) ∧ Below W0.heap.size W0 w') := Lib.hid (by
      have h := shortMap_all W H a n c W0
      rwa [hs] at h)
      have KSB : Hid (∀ w1, Calls Tryz.prog 36 #[.agg #[.int .i64 W2, .int .i64 H2, .slice a2 m c2]] w1 fun e w' => e = .returned (.bool false) ∧ Below w1.heap.size w1 w') := Lib.hid (fun w1 => by
      have h := shortMap_all W2 H2 a2 m c2 w1
      rwa [Bool.eq_false_iff.2 hs2] at h)
      have HB0 := Lib.hid hB0
      have HM0 := Lib.hid hm0
      have KW : Hid (∀ w1, Below W0.heap.size W0 w1 → Calls Tryz.prog 19 #[] w1 fun e w' => e = .returned (.bool true) ∧ Below w1.heap.size w1 w') := Lib.hid (fun w1 h => awake_any w1 ((ht.on hB0).on h))
      clear ht hM hM2 hm0 hB0 hs hs2
      go_enter Tryz.func6, Tryz.ntmps6
      go_upto_region 1 with fail
      try rw [hW0]
      clear hW0
      go_wp2_with (first
        | (go_at_call_of 36 (Value.agg #[.int .i64 W, .int .i64 H, .slice a n c]); refine KSA.out.mono ?_; rintro e w1 ⟨rfl, hb1⟩; obtain ⟨j0, j1, j2⟩ := map_cells (HM0.out.kept hb1).bb)
        | (go_at_call_of 36 (Value.agg #[.int .i64 W2, .int .i64 H2, .slice a2 m c2]); refine (KSB.out _).mono ?_; rintro e w2 ⟨rfl, hb2⟩; (have hb12 := hb1.trans (hb2.mono hb1.size)))
        | (go_at_call 19; refine (KW.out _ hb12).mono ?_; rintro e w3 ⟨rfl, hb3⟩))
      go_ret
      exact ⟨rfl, (HB0.out.trans (hb12.mono HB0.out.size)).trans (hb3.mono (Nat.le_trans HB0.out.size hb12.size))⟩
  · have KSA : Hid (Calls Tryz.prog 36 #[.agg #[.int .i64 W, .int .i64 H, .slice a n c]] W0 fun e w' => e = .returned (.bool false) ∧ Below W0.heap.size W0 w') := Lib.hid (by
      have h := shortMap_all W H a n c W0
      rwa [Bool.eq_false_iff.2 hs] at h)
    have HB0 := Lib.hid hB0
    have HM0 := Lib.hid hm0
    have KW : Hid (∀ w1, Below W0.heap.size W0 w1 → Calls Tryz.prog 19 #[] w1 fun e w' => e = .returned (.bool true) ∧ Below w1.heap.size w1 w') := Lib.hid (fun w1 h => awake_any w1 ((ht.on hB0).on h))
    clear ht hM hM2 hm0 hB0 hs
    go_enter Tryz.func6, Tryz.ntmps6
    go_upto_region 1 with fail
    try rw [hW0]
    clear hW0
    go_wp2_with (first
      | (go_at_call_of 36 (Value.agg #[.int .i64 W, .int .i64 H, .slice a n c]); refine KSA.out.mono ?_; rintro e w1 ⟨rfl, hb1⟩; obtain ⟨j0, j1, j2⟩ := map_cells (HM0.out.kept hb1).bb)
      | (go_at_call 19; refine (KW.out _ hb1).mono ?_; rintro e w3 ⟨rfl, hb3⟩))
    go_ret
    exact ⟨rfl, (HB0.out.trans (hb1.mono HB0.out.size)).trans (hb3.mono (Nat.le_trans HB0.out.size hb1.size))⟩
end Go.Proofs.YtfdkmmllemkogaaGreatDoor
