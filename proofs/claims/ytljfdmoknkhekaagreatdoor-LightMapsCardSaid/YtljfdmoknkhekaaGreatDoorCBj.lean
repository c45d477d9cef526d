/-
  The walk of LightMaps for a right map, and the contract of LightMaps for every map and every place.
-/
import Derived.Test.YtljfdmoknkhekaaGreatDoorCBi
namespace Go.Proofs.YtljfdmoknkhekaaGreatDoor
open Go.RowKit Go.Shelf
set_option linter.unusedVariables false
set_option linter.unusedSimpArgs false

set_option maxRecDepth 1000000 in
set_option maxHeartbeats 12800000 in
theorem maps10_ok (w : World) (W H : Nat) (b o n c : Nat) (xs : List Nat) (X Y : Int) (v : Nat) (r2 t : Int) (pv pw : Nat) (px py : Int) (hR : RightMap w W H b o n xs (xs.map kOf)) (hb : b < w.heap.size) (hMW : AnyMap w (some ⟨b, o, none⟩) n c xs) (ht : t = (xs.map kOf).sum) (hpw : pw = xs[pkTo (xs.map kOf) n]?.getD 0) (hpx : px = ((pkTo (xs.map kOf) n % W : Nat) : Int)) (hpy : py = ((pkTo (xs.map kOf) n / W : Nat) : Int))
    (hr2 : r2 = if inPlace W H X Y then 0 else 10) (hpv : (FloatKind.f32.format.order pv pw == some .eq) = true) (hT : Mps14 w W H (some ⟨b, o, none⟩) n c xs X Y v r2 t 0 pv px py) : Mps10 w W H (some ⟨b, o, none⟩) n c xs X Y v r2 t 0 pv px py := by
  unfold Mps10
  intro wx Bm Bp B10 B17 u18 u19 u20 u21 u22 u23 u24 u25 u26 u27 u28 u29 u30 u31 u32 u33 u34 u35 u36 u37 u38 u39 u40 u41 u42 u43 u44 u45 u46 u47 u48 u49 u50 u51 u52 u53 u54 u55 u56 u57 u58 u59 u60 u61 u62 u63 u64 u65 u66 u67 u68 u69 u70 u71 u72 u73 u74 u75 u76 u77 u78 u79 u80 u81 u82 u83 u84 u85 u86 u87 u88 u89 u90 u91 u92 u93 u94 u95 u96 u97 u98 u99 u100 u101 u102 u103 u104 u105 u106 u107 u108 u109 u110 u111 u112 u113 u114 u115 u116 u117 u118 u119 u120 u121 u122 u123 u124 u125 u126 u127 u128 u129 u130 hM f10 f17 hne
  conv => arg 2; whnf
  dsimp only
  have KT : Hid (Calls Tryz.prog 17 #[.agg #[.int .i64 W, .int .i64 H, .slice (some ⟨b, o, none⟩) n c]] wx fun e w' => e = .returned (.int .i64 t) ∧ Below wx.heap.size wx w') :=
    Lib.hid (by rw [ht]; exact refTotal_any W H b o n c xs _ wx (hR.below hM.below hb) (by have := hM.below.size; omega))
  have KP : Hid (∀ w1 : World, Below wx.heap.size wx w1 → Calls Tryz.prog 18 #[.agg #[.int .i64 W, .int .i64 H, .slice (some ⟨b, o, none⟩) n c]] w1 fun e w' => e = .returned (.tuple #[.float .f32 pw, .agg #[.int .i64 px, .int .i64 py]]) ∧ Below w1.heap.size w1 w') :=
    Lib.hid (fun w1 h => by rw [hpw, hpx, hpy]; exact refPeak_any W H b o n c xs _ w1 (hR.below (hM.below.trans (h.mono hM.below.size)) hb) (by have := hM.below.size; have := h.size; omega))
  obtain ⟨c0, c1, c2⟩ := map_cells hM.bm
  obtain ⟨p0, p1⟩ := pt_cells hM.bp
  have HM := Lib.hid hM
  have H10 := Lib.hid f10
  have H17 := Lib.hid f17
  have HNE := Lib.hid hne
  have HPV := Lib.hid hpv
  have HTT := Lib.hid hT
  have HMW := Lib.hid hMW
  have HR2 := Lib.hid hr2
  clear hR hM f10 f17 hne hpv hT hMW hr2 ht hpw hpx hpy
  go_upto_region 10 with fail
  go_cut [47] (fun s47 wr => s47 = .bool true ∧ wr = wx)
  case first =>
    go_wp2_with fail
    go_meet
    exact ⟨rfl, rfl⟩
  case rest =>
    rename_i K1 hK1 K0 hK
    obtain ⟨rfl, rfl⟩ := hcut
    refine hK _ _ ?_
    clear hK
    have HK1 := Lib.hid hK1
    clear hK1
    have hr2 := HR2.out
    by_cases x1 : X < 0
    · rw [if_neg (by unfold inPlace; omega)] at hr2
      subst hr2
      go_wp2_with (first
      | (go_at_call 16; refine (when_any _ _ _).mono ?_; rintro e w0 ⟨rfl, rfl⟩)
      | ((go_at_call 17; refine KT.out.mono ?_; rintro e w1 ⟨rfl, hb1⟩
          have KP2 := Lib.hid (KP.out w1 hb1)
          obtain ⟨c0', c1', c2'⟩ := map_cells (HM.out.kept hb1).bm))
      | ((go_at_call 18; refine KP2.out.mono ?_; rintro e w2 ⟨rfl, hb2⟩
          have hb3 := hb1.trans (hb2.mono hb1.size)
          have bP := H17.out.kept hb3
          obtain ⟨y0, y1⟩ := pt_cells bP
          have q0 : w2.frozen? ⟨B17, 0, none⟩ = false := by have h := bP; unfold PtBox at h; simp [World.frozen?, h]
          have q1 : w2.frozen? ⟨B17, 1, none⟩ = false := by have h := bP; unfold PtBox at h; simp [World.frozen?, h]
          have HB3 := Lib.hid hb3
          have HBP := Lib.hid bP
          clear hb3 bP hb1 hb2)))
      obtain ⟨WF, hWF⟩ : ∃ WF, ((w2.setCell ⟨B17, 0, none⟩ (.int .i64 px)).setCell ⟨B17, 1, none⟩ (.int .i64 py)) = WF := ⟨_, rfl⟩
      have hm2 := HM.out.kept HB3.out
      have h102 := H10.out.kept HB3.out
      obtain ⟨n0, n1, n2, n3⟩ := HNE.out
      have ho : ∀ k, k ≠ B17 → WF.heap[k]? = w2.heap[k]? := fun k hk => by
        rw [← hWF]
        simp [World.setCell, Array.getElem?_modify, Ne.symm hk]
      have hbF : Below w.heap.size w WF := by
        rw [← hWF]
        exact (hm2.below.setCell (p := ⟨B17, 0, none⟩) n0 _).setCell (p := ⟨B17, 1, none⟩) n0 _
      have hmF : MK w W H (some ⟨b, o, none⟩) n c xs X Y WF Bm Bp := ⟨hbF, (ho _ n1).trans hm2.bm, (ho _ n2).trans hm2.bp, HMW.out.below hbF (Nat.le_refl _)⟩
      have h10F : PtBox WF B10 px py := (ho _ n3).trans h102
      have h17F : PtBox WF B17 px py := by rw [← hWF]; exact blk_set2 HBP.out _ _
      rw [hWF]
      refine HK1.out _ _ ?_
      have hT := HTT.out
      unfold Mps14 at hT
      exact hT _ _ _ _ _ pw _ _ _ _ _ _ _ _ _ _ _ _ _ _ _ _ _ _ _ _ _ _ _ _ _ _ _ _ _ _ _ _ _ _ _ _ _ _ _ _ _ _ _ _ _ _ _ _ _ _ _ _ _ _ _ _ _ _ _ _ _ _ _ _ _ _ _ _ _ _ _ _ _ _ _ _ _ _ _ _ _ _ _ _ _ _ _ _ _ _ _ _ _ _ _ _ _ _ _ _ _ _ _ _ _ _ _ _ _ _ _ _ _  hmF h10F h17F HPV.out
    by_cases x2 : (W : Int) ≤ X
    · rw [if_neg (by unfold inPlace; omega)] at hr2
      subst hr2
      go_wp2_with (first
      | (go_at_call 16; refine (when_any _ _ _).mono ?_; rintro e w0 ⟨rfl, rfl⟩)
      | ((go_at_call 17; refine KT.out.mono ?_; rintro e w1 ⟨rfl, hb1⟩
          have KP2 := Lib.hid (KP.out w1 hb1)
          obtain ⟨c0', c1', c2'⟩ := map_cells (HM.out.kept hb1).bm))
      | ((go_at_call 18; refine KP2.out.mono ?_; rintro e w2 ⟨rfl, hb2⟩
          have hb3 := hb1.trans (hb2.mono hb1.size)
          have bP := H17.out.kept hb3
          obtain ⟨y0, y1⟩ := pt_cells bP
          have q0 : w2.frozen? ⟨B17, 0, none⟩ = false := by have h := bP; unfold PtBox at h; simp [World.frozen?, h]
          have q1 : w2.frozen? ⟨B17, 1, none⟩ = false := by have h := bP; unfold PtBox at h; simp [World.frozen?, h]
          have HB3 := Lib.hid hb3
          have HBP := Lib.hid bP
          clear hb3 bP hb1 hb2)))
      obtain ⟨WF, hWF⟩ : ∃ WF, ((w2.setCell ⟨B17, 0, none⟩ (.int .i64 px)).setCell ⟨B17, 1, none⟩ (.int .i64 py)) = WF := ⟨_, rfl⟩
      have hm2 := HM.out.kept HB3.out
      have h102 := H10.out.kept HB3.out
      obtain ⟨n0, n1, n2, n3⟩ := HNE.out
      have ho : ∀ k, k ≠ B17 → WF.heap[k]? = w2.heap[k]? := fun k hk => by
        rw [← hWF]
        simp [World.setCell, Array.getElem?_modify, Ne.symm hk]
      have hbF : Below w.heap.size w WF := by
        rw [← hWF]
        exact (hm2.below.setCell (p := ⟨B17, 0, none⟩) n0 _).setCell (p := ⟨B17, 1, none⟩) n0 _
      have hmF : MK w W H (some ⟨b, o, none⟩) n c xs X Y WF Bm Bp := ⟨hbF, (ho _ n1).trans hm2.bm, (ho _ n2).trans hm2.bp, HMW.out.below hbF (Nat.le_refl _)⟩
      have h10F : PtBox WF B10 px py := (ho _ n3).trans h102
      have h17F : PtBox WF B17 px py := by rw [← hWF]; exact blk_set2 HBP.out _ _
      rw [hWF]
      refine HK1.out _ _ ?_
      have hT := HTT.out
      unfold Mps14 at hT
      exact hT _ _ _ _ _ pw _ _ _ _ _ _ _ _ _ _ _ _ _ _ _ _ _ _ _ _ _ _ _ _ _ _ _ _ _ _ _ _ _ _ _ _ _ _ _ _ _ _ _ _ _ _ _ _ _ _ _ _ _ _ _ _ _ _ _ _ _ _ _ _ _ _ _ _ _ _ _ _ _ _ _ _ _ _ _ _ _ _ _ _ _ _ _ _ _ _ _ _ _ _ _ _ _ _ _ _ _ _ _ _ _ _ _ _ _ _ _ _ _  hmF h10F h17F HPV.out
    by_cases x3 : Y < 0
    · rw [if_neg (by unfold inPlace; omega)] at hr2
      subst hr2
      go_wp2_with (first
      | (go_at_call 16; refine (when_any _ _ _).mono ?_; rintro e w0 ⟨rfl, rfl⟩)
      | ((go_at_call 17; refine KT.out.mono ?_; rintro e w1 ⟨rfl, hb1⟩
          have KP2 := Lib.hid (KP.out w1 hb1)
          obtain ⟨c0', c1', c2'⟩ := map_cells (HM.out.kept hb1).bm))
      | ((go_at_call 18; refine KP2.out.mono ?_; rintro e w2 ⟨rfl, hb2⟩
          have hb3 := hb1.trans (hb2.mono hb1.size)
          have bP := H17.out.kept hb3
          obtain ⟨y0, y1⟩ := pt_cells bP
          have q0 : w2.frozen? ⟨B17, 0, none⟩ = false := by have h := bP; unfold PtBox at h; simp [World.frozen?, h]
          have q1 : w2.frozen? ⟨B17, 1, none⟩ = false := by have h := bP; unfold PtBox at h; simp [World.frozen?, h]
          have HB3 := Lib.hid hb3
          have HBP := Lib.hid bP
          clear hb3 bP hb1 hb2)))
      obtain ⟨WF, hWF⟩ : ∃ WF, ((w2.setCell ⟨B17, 0, none⟩ (.int .i64 px)).setCell ⟨B17, 1, none⟩ (.int .i64 py)) = WF := ⟨_, rfl⟩
      have hm2 := HM.out.kept HB3.out
      have h102 := H10.out.kept HB3.out
      obtain ⟨n0, n1, n2, n3⟩ := HNE.out
      have ho : ∀ k, k ≠ B17 → WF.heap[k]? = w2.heap[k]? := fun k hk => by
        rw [← hWF]
        simp [World.setCell, Array.getElem?_modify, Ne.symm hk]
      have hbF : Below w.heap.size w WF := by
        rw [← hWF]
        exact (hm2.below.setCell (p := ⟨B17, 0, none⟩) n0 _).setCell (p := ⟨B17, 1, none⟩) n0 _
      have hmF : MK w W H (some ⟨b, o, none⟩) n c xs X Y WF Bm Bp := ⟨hbF, (ho _ n1).trans hm2.bm, (ho _ n2).trans hm2.bp, HMW.out.below hbF (Nat.le_refl _)⟩
      have h10F : PtBox WF B10 px py := (ho _ n3).trans h102
      have h17F : PtBox WF B17 px py := by rw [← hWF]; exact blk_set2 HBP.out _ _
      rw [hWF]
      refine HK1.out _ _ ?_
      have hT := HTT.out
      unfold Mps14 at hT
      exact hT _ _ _ _ _ pw _ _ _ _ _ _ _ _ _ _ _ _ _ _ _ _ _ _ _ _ _ _ _ _ _ _ _ _ _ _ _ _ _ _ _ _ _ _ _ _ _ _ _ _ _ _ _ _ _ _ _ _ _ _ _ _ _ _ _ _ _ _ _ _ _ _ _ _ _ _ _ _ _ _ _ _ _ _ _ _ _ _ _ _ _ _ _ _ _ _ _ _ _ _ _ _ _ _ _ _ _ _ _ _ _ _ _ _ _ _ _ _ _  hmF h10F h17F HPV.out
    by_cases x4 : (H : Int) ≤ Y
    · rw [if_neg (by unfold inPlace; omega)] at hr2
      subst hr2
      go_wp2_with (first
      | (go_at_call 16; refine (when_any _ _ _).mono ?_; rintro e w0 ⟨rfl, rfl⟩)
      | ((go_at_call 17; refine KT.out.mono ?_; rintro e w1 ⟨rfl, hb1⟩
          have KP2 := Lib.hid (KP.out w1 hb1)
          obtain ⟨c0', c1', c2'⟩ := map_cells (HM.out.kept hb1).bm))
      | ((go_at_call 18; refine KP2.out.mono ?_; rintro e w2 ⟨rfl, hb2⟩
          have hb3 := hb1.trans (hb2.mono hb1.size)
          have bP := H17.out.kept hb3
          obtain ⟨y0, y1⟩ := pt_cells bP
          have q0 : w2.frozen? ⟨B17, 0, none⟩ = false := by have h := bP; unfold PtBox at h; simp [World.frozen?, h]
          have q1 : w2.frozen? ⟨B17, 1, none⟩ = false := by have h := bP; unfold PtBox at h; simp [World.frozen?, h]
          have HB3 := Lib.hid hb3
          have HBP := Lib.hid bP
          clear hb3 bP hb1 hb2)))
      obtain ⟨WF, hWF⟩ : ∃ WF, ((w2.setCell ⟨B17, 0, none⟩ (.int .i64 px)).setCell ⟨B17, 1, none⟩ (.int .i64 py)) = WF := ⟨_, rfl⟩
      have hm2 := HM.out.kept HB3.out
      have h102 := H10.out.kept HB3.out
      obtain ⟨n0, n1, n2, n3⟩ := HNE.out
      have ho : ∀ k, k ≠ B17 → WF.heap[k]? = w2.heap[k]? := fun k hk => by
        rw [← hWF]
        simp [World.setCell, Array.getElem?_modify, Ne.symm hk]
      have hbF : Below w.heap.size w WF := by
        rw [← hWF]
        exact (hm2.below.setCell (p := ⟨B17, 0, none⟩) n0 _).setCell (p := ⟨B17, 1, none⟩) n0 _
      have hmF : MK w W H (some ⟨b, o, none⟩) n c xs X Y WF Bm Bp := ⟨hbF, (ho _ n1).trans hm2.bm, (ho _ n2).trans hm2.bp, HMW.out.below hbF (Nat.le_refl _)⟩
      have h10F : PtBox WF B10 px py := (ho _ n3).trans h102
      have h17F : PtBox WF B17 px py := by rw [← hWF]; exact blk_set2 HBP.out _ _
      rw [hWF]
      refine HK1.out _ _ ?_
      have hT := HTT.out
      unfold Mps14 at hT
      exact hT _ _ _ _ _ pw _ _ _ _ _ _ _ _ _ _ _ _ _ _ _ _ _ _ _ _ _ _ _ _ _ _ _ _ _ _ _ _ _ _ _ _ _ _ _ _ _ _ _ _ _ _ _ _ _ _ _ _ _ _ _ _ _ _ _ _ _ _ _ _ _ _ _ _ _ _ _ _ _ _ _ _ _ _ _ _ _ _ _ _ _ _ _ _ _ _ _ _ _ _ _ _ _ _ _ _ _ _ _ _ _ _ _ _ _ _ _ _ _  hmF h10F h17F HPV.out
    · rw [if_pos (by unfold inPlace; omega)] at hr2
      subst hr2
      go_wp2_with (first
      | (go_at_call 16; refine (when_any _ _ _).mono ?_; rintro e w0 ⟨rfl, rfl⟩)
      | ((go_at_call 17; refine KT.out.mono ?_; rintro e w1 ⟨rfl, hb1⟩
          have KP2 := Lib.hid (KP.out w1 hb1)
          obtain ⟨c0', c1', c2'⟩ := map_cells (HM.out.kept hb1).bm))
      | ((go_at_call 18; refine KP2.out.mono ?_; rintro e w2 ⟨rfl, hb2⟩
          have hb3 := hb1.trans (hb2.mono hb1.size)
          have bP := H17.out.kept hb3
          obtain ⟨y0, y1⟩ := pt_cells bP
          have q0 : w2.frozen? ⟨B17, 0, none⟩ = false := by have h := bP; unfold PtBox at h; simp [World.frozen?, h]
          have q1 : w2.frozen? ⟨B17, 1, none⟩ = false := by have h := bP; unfold PtBox at h; simp [World.frozen?, h]
          have HB3 := Lib.hid hb3
          have HBP := Lib.hid bP
          clear hb3 bP hb1 hb2)))
      obtain ⟨WF, hWF⟩ : ∃ WF, ((w2.setCell ⟨B17, 0, none⟩ (.int .i64 px)).setCell ⟨B17, 1, none⟩ (.int .i64 py)) = WF := ⟨_, rfl⟩
      have hm2 := HM.out.kept HB3.out
      have h102 := H10.out.kept HB3.out
      obtain ⟨n0, n1, n2, n3⟩ := HNE.out
      have ho : ∀ k, k ≠ B17 → WF.heap[k]? = w2.heap[k]? := fun k hk => by
        rw [← hWF]
        simp [World.setCell, Array.getElem?_modify, Ne.symm hk]
      have hbF : Below w.heap.size w WF := by
        rw [← hWF]
        exact (hm2.below.setCell (p := ⟨B17, 0, none⟩) n0 _).setCell (p := ⟨B17, 1, none⟩) n0 _
      have hmF : MK w W H (some ⟨b, o, none⟩) n c xs X Y WF Bm Bp := ⟨hbF, (ho _ n1).trans hm2.bm, (ho _ n2).trans hm2.bp, HMW.out.below hbF (Nat.le_refl _)⟩
      have h10F : PtBox WF B10 px py := (ho _ n3).trans h102
      have h17F : PtBox WF B17 px py := by rw [← hWF]; exact blk_set2 HBP.out _ _
      rw [hWF]
      refine HK1.out _ _ ?_
      have hT := HTT.out
      unfold Mps14 at hT
      exact hT _ _ _ _ _ pw _ _ _ _ _ _ _ _ _ _ _ _ _ _ _ _ _ _ _ _ _ _ _ _ _ _ _ _ _ _ _ _ _ _ _ _ _ _ _ _ _ _ _ _ _ _ _ _ _ _ _ _ _ _ _ _ _ _ _ _ _ _ _ _ _ _ _ _ _ _ _ _ _ _ _ _ _ _ _ _ _ _ _ _ _ _ _ _ _ _ _ _ _ _ _ _ _ _ _ _ _ _ _ _ _ _ _ _ _ _ _ _ _  hmF h10F h17F HPV.out

end Go.Proofs.YtljfdmoknkhekaaGreatDoor
