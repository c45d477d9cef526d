/-
  Contract of the reference's Decode for any 24 bytes.
-/
import Derived.Test.YthmaoeajbmfmaaaGreatDoorCXe
import Derived.Test.YthmaoeajbmfmaaaGreatDoorCWh
namespace Go.Proofs.YthmaoeajbmfmaaaGreatDoor
open Go.RowKit
set_option linter.unusedVariables false
set_option linter.unusedSimpArgs false

theorem tail_iff (s c o x y z a b c' d e f g : Int) (hd : 0 ≤ d ∧ d ≤ 255) (he : 0 ≤ e ∧ e ≤ 255) (hf : 0 ≤ f ∧ f ≤ 255) (hg : 0 ≤ g ∧ g ≤ 255) :
    [a, b, c', d, e, f, g] = tail7 s c o x y z ↔ (chkOf ((rawF s c o x y z [a, b, c', d, e, f, g]).take 20) = numOf [d, e, f, g] ∧ a = 255 - s ∧ b = 255 - byt c 1 ∧ c' = 255 - byt c 0) := by
  obtain ⟨q1, q2, q3, q4, q5, q6⟩ := num_byt4 d e f g hd he hf hg
  have hb := chk_bd (frame20 s c o x y z)
  constructor
  · intro h
    unfold tail7 at h
    simp only [List.cons.injEq, and_true] at h
    obtain ⟨rfl, rfl, rfl, rfl, rfl, rfl, rfl⟩ := h
    refine ⟨?_, rfl, rfl, rfl⟩
    rw [num4 _ hb.1 (by omega)]
    rfl
  · rintro ⟨h, rfl, rfl, rfl⟩
    have e1 : (rawF s c o x y z [255 - s, 255 - byt c 1, 255 - byt c 0, d, e, f, g]).take 20 = frame20 s c o x y z := rfl
    rw [e1] at h
    unfold tail7
    rw [h, q1, q2, q3, q4]
theorem telErr_fit {s c o x y z : Int} (h : FitT s c o x y z) : telErr s c o x y z = vectorErr x y z := by
  rw [← telErr_first, rangeErr_in h.st.1 h.st.2, rangeErr_in h.ct.1 h.ct.2, rangeErr_in h.od.1 h.od.2]
  simp only [firstNZ]
  rcases vectorErr_or x y z with ⟨_, _, _, h4⟩ | ⟨_, h4⟩ <;> rw [h4] <;> simp

set_option maxRecDepth 100000 in
set_option maxHeartbeats 3200000 in
theorem refDecode_form (F : List Int) (hF : F.length = 24) (h0 : F[0]?.getD 0 ≠ 77) (w : World) :
    Calls Tryz.prog 24 #[.agg (F.map (Value.int .u8)).toArray] w fun e w' => e = .returned (.tuple #[.agg #[.int .i64 0, .int .i64 0, .int .i64 0, .int .i64 0, .int .i64 0, .int .i64 0], .int .i64 1]) ∧ Below w.heap.size w w' := by
  obtain ⟨V, hV⟩ : ∃ V, F.map (Value.int .u8) = V := ⟨_, rfl⟩
  obtain ⟨u, hu⟩ : ∃ u, F[0]?.getD 0 = u := ⟨_, rfl⟩
  have V0 : V[0]? = some (.int .u8 u) := by rw [← hV, List.getElem?_map, List.getElem?_eq_getElem (by omega), ← hu, List.getElem?_eq_getElem (by omega)]; rfl
  have e0 : (u != 77) = true := by rw [← hu]; simp [h0]
  rw [hV]
  have r0 : ((w.alloc (.cells V.toArray 44)).alloc (.cells #[.int .i64 0, .int .i64 0, .int .i64 0, .int .i64 0, .int .i64 0, .int .i64 0] 43)).heap[w.heap.size]? = some (.cells V.toArray 44 (0, 0)) := by
    rw [Below.heap_alloc _ _ _ (by simp)]
    exact heap_alloc_new w _
  have r2 : ((w.alloc (.cells V.toArray 44)).alloc (.cells #[.int .i64 0, .int .i64 0, .int .i64 0, .int .i64 0, .int .i64 0, .int .i64 0] 43)).heap[w.heap.size + 1]? = some (.cells #[.int .i64 0, .int .i64 0, .int .i64 0, .int .i64 0, .int .i64 0, .int .i64 0] 43 (0, 0)) := heap_alloc2_new w _ _
  have hc0 : ((w.alloc (.cells V.toArray 44)).alloc (.cells #[.int .i64 0, .int .i64 0, .int .i64 0, .int .i64 0, .int .i64 0, .int .i64 0] 43)).cell? ⟨w.heap.size, 0, none⟩ = some (.int .u8 u) := by
    rw [cell_of_row _ _ 0 _ _ (0, 0) r0]; simpa using V0
  have HB : Hid (Below w.heap.size w ((w.alloc (.cells V.toArray 44)).alloc (.cells #[.int .i64 0, .int .i64 0, .int .i64 0, .int .i64 0, .int .i64 0, .int .i64 0] 43))) := Lib.hid (((Below.refl _ w).alloc (Nat.le_refl _) _).alloc (by simp) _)
  obtain ⟨W1, hW1⟩ : ∃ W1, ((w.alloc (.cells V.toArray 44)).alloc (.cells #[.int .i64 0, .int .i64 0, .int .i64 0, .int .i64 0, .int .i64 0, .int .i64 0] 43)) = W1 := ⟨_, rfl⟩
  rw [hW1] at r2 hc0 HB
  have R2 := Lib.hid r2
  clear r0 r2 V0 hV hu h0
  go_enter Tryz.func24, Tryz.ntmps24
  go_upto_region 1 with fail
  try rw [hW1]
  clear hW1
  go_wp2_with (refine wpList_store_row rfl 43 (.tmp 2) (.tmp 12) rfl (w.heap.size + 1) rfl _ rfl 43 _ R2.out ?i2 ?i3 ?i4 ?_)
  case i2 => rfl
  case i3 => kernel_rfl
  case i4 => first | exact ⟨rfl, rfl, rfl, rfl, rfl, rfl⟩ | exact rfl | simp
  go_wp2
  refine bodyPost_ret (results_row_tmp Tryz.results24 _ _ (w.heap.size + 1) 43 _ (0, 0) _ rfl (setRow_heap W1 _ _ _ _ _ R2.out) Tryz.underlying43 rfl (by kernel_rfl)) rfl ⟨rfl, ?_⟩
  exact HB.out.trans ((OnlyBlk.setRow W1 (w.heap.size + 1) _).below HB.out.size (by omega))

/-- What the walk of Decode knows of the frame's block. -/
structure FrameAt (W1 : World) (B : Nat) (F : List Int) : Prop where
  blk : HasBlk W1 B 44 F
  bytes : Bytes24 F
theorem FrameAt.cell {W1 : World} {B : Nat} {F : List Int} (h : FrameAt W1 B F) (j : Nat) (hj : j < 24) : W1.cell? ⟨B, j, none⟩ = some (.int .u8 (byteAt F j)) :=
  h.blk.cell (by unfold byteAt; rw [List.getElem?_eq_getElem (by rw [h.bytes.1]; exact hj)]; rfl)
theorem FrameAt.bd {W1 : World} {B : Nat} {F : List Int} (h : FrameAt W1 B F) (j : Nat) (hj : j < 24) : 0 ≤ byteAt F j ∧ byteAt F j ≤ 255 := by
  unfold byteAt
  rw [List.getElem?_eq_getElem (by rw [h.bytes.1]; exact hj)]
  exact h.bytes.2 _ (List.getElem_mem _)
theorem FrameAt.chk {W1 : World} {B : Nat} {F : List Int} (h : FrameAt W1 B F) (c : Nat) (w1 : World) (hw : w1.heap = W1.heap) :
    Calls Tryz.prog 86 #[.slice (some ⟨B, 0, none⟩) 20 c] w1 fun e w' => e = .returned (.int .i64 (chkOf (F.take 20))) ∧ w1 = w' :=
  refChecksum_any B 0 20 c (F.take 20) w1 (by rw [List.length_take, h.bytes.1]; rfl) (by omega) (fun j hj => by
    rw [List.getElem?_take_of_lt hj]; exact h.bd j (by omega)) (fun j hj => by
    rw [List.getElem?_take_of_lt hj, Nat.zero_add, World.cell?_of_block (w := W1) (by rw [hw])]; exact h.cell j (by omega))
theorem FrameAt.num {W1 : World} {B : Nat} {F : List Int} (h : FrameAt W1 B F) (c : Nat) (o n : Nat) (ho : o + n ≤ 24) (hn : n ≤ 4) (w1 : World) (hw : w1.heap = W1.heap) :
    Calls Tryz.prog 87 #[.slice (some ⟨B, o, none⟩) n c] w1 fun e w' => e = .returned (.int .i64 (numOf ((F.drop o).take n))) ∧ w1 = w' :=
  refNumber_any B o n c ((F.drop o).take n) w1 (by rw [List.length_take, List.length_drop, h.bytes.1]; omega) hn (fun j hj => by
    rw [List.getElem?_take_of_lt hj, List.getElem?_drop]; exact h.bd (o + j) (by omega)) (fun j hj => by
    rw [List.getElem?_take_of_lt hj, List.getElem?_drop, World.cell?_of_block (w := W1) (by rw [hw])]; exact h.cell (o + j) (by omega))

set_option maxRecDepth 100000 in
set_option maxHeartbeats 6400000 in
theorem refDecode_check (F : List Int) (hF : Bytes24 F) (h0 : byteAt F 0 = 77) (hT : ¬ (chkOf (F.take 20) = numOf ((F.drop 20).take 4) ∧ byteAt F 17 = 255 - byteAt F 1 ∧ byteAt F 18 = 255 - byteAt F 2 ∧ byteAt F 19 = 255 - byteAt F 3)) (w : World) :
    Calls Tryz.prog 24 #[.agg (F.map (Value.int .u8)).toArray] w fun e w' => e = .returned (.tuple #[.agg #[.int .i64 0, .int .i64 0, .int .i64 0, .int .i64 0, .int .i64 0, .int .i64 0], .int .i64 27]) ∧ Below w.heap.size w w' := by
  have V24 : (F.map (Value.int .u8)).length = 24 := by simp [hF.1]
  obtain ⟨V, hV⟩ : ∃ V, F.map (Value.int .u8) = V := ⟨_, rfl⟩
  have r0 : ((w.alloc (.cells (F.map (Value.int .u8)).toArray 44)).alloc (.cells #[.int .i64 0, .int .i64 0, .int .i64 0, .int .i64 0, .int .i64 0, .int .i64 0] 43)).heap[w.heap.size]? = some (.cells (F.map (Value.int .u8)).toArray 44 (0, 0)) := by
    rw [Below.heap_alloc _ _ _ (by simp)]
    exact heap_alloc_new w _
  have r2 : ((w.alloc (.cells (F.map (Value.int .u8)).toArray 44)).alloc (.cells #[.int .i64 0, .int .i64 0, .int .i64 0, .int .i64 0, .int .i64 0, .int .i64 0] 43)).heap[w.heap.size + 1]? = some (.cells #[.int .i64 0, .int .i64 0, .int .i64 0, .int .i64 0, .int .i64 0, .int .i64 0] 43 (0, 0)) := heap_alloc2_new w _ _
  have HB : Hid (Below w.heap.size w ((w.alloc (.cells (F.map (Value.int .u8)).toArray 44)).alloc (.cells #[.int .i64 0, .int .i64 0, .int .i64 0, .int .i64 0, .int .i64 0, .int .i64 0] 43))) := Lib.hid (((Below.refl _ w).alloc (Nat.le_refl _) _).alloc (by simp) _)
  have hs1 : ((w.alloc (.cells (F.map (Value.int .u8)).toArray 44)).alloc (.cells #[.int .i64 0, .int .i64 0, .int .i64 0, .int .i64 0, .int .i64 0, .int .i64 0] 43)).heap.size = w.heap.size + 2 := by simp
  rw [hV] at V24 r2 HB hs1
  obtain ⟨W1, hW1⟩ : ∃ W1, ((w.alloc (.cells V.toArray 44)).alloc (.cells #[.int .i64 0, .int .i64 0, .int .i64 0, .int .i64 0, .int .i64 0, .int .i64 0] 43)) = W1 := ⟨_, rfl⟩
  have fa : FrameAt W1 w.heap.size F := ⟨by rw [← hW1, ← hV]; exact r0, hF⟩
  rw [hW1] at r2 HB hs1
  rw [hV]
  have R2 := Lib.hid r2
  have HS1 := Lib.hid hs1
  have HFA := Lib.hid fa
  have c0 := fa.cell 0 (by omega)
  have c1 := fa.cell 1 (by omega)
  have c2 := fa.cell 2 (by omega)
  have c3 := fa.cell 3 (by omega)
  have c17 := fa.cell 17 (by omega)
  have c18 := fa.cell 18 (by omega)
  have c19 := fa.cell 19 (by omega)
  have d1 := fa.bd 1 (by omega)
  have d2 := fa.bd 2 (by omega)
  have d3 := fa.bd 3 (by omega)
  have KC := Lib.hid (fun (n c : Nat) => (fa.chk c (W1.drewN n) rfl).mono fun e w' (h : _ ∧ _) => (⟨h.1, h.2.symm⟩ : e = .returned (.int .i64 (chkOf (F.take 20))) ∧ w' = W1.drewN n))
  have KN := Lib.hid (fun (n c : Nat) => (fa.num c 20 4 (by omega) (by omega) (W1.drewN n) rfl).mono fun e w' (h : _ ∧ _) => (⟨h.1, h.2.symm⟩ : e = .returned (.int .i64 (numOf ((F.drop 20).take 4))) ∧ w' = W1.drewN n))
  obtain ⟨ck, hck⟩ : ∃ ck, chkOf (F.take 20) = ck := ⟨_, rfl⟩
  obtain ⟨nm, hnm⟩ : ∃ nm, numOf ((F.drop 20).take 4) = nm := ⟨_, rfl⟩
  rw [hck] at KC
  rw [hnm] at KN
  have e0 : (byteAt F 0 != 77) = false := by simp [h0]
  obtain ⟨f1, hf1⟩ : ∃ x, byteAt F 1 = x := ⟨_, rfl⟩
  obtain ⟨f2, hf2⟩ : ∃ x, byteAt F 2 = x := ⟨_, rfl⟩
  obtain ⟨f3, hf3⟩ : ∃ x, byteAt F 3 = x := ⟨_, rfl⟩
  obtain ⟨f17, hf17⟩ : ∃ x, byteAt F 17 = x := ⟨_, rfl⟩
  obtain ⟨f18, hf18⟩ : ∃ x, byteAt F 18 = x := ⟨_, rfl⟩
  obtain ⟨f19, hf19⟩ : ∃ x, byteAt F 19 = x := ⟨_, rfl⟩
  rw [hf1] at c1 d1
  rw [hf2] at c2 d2
  rw [hf3] at c3 d3
  rw [hf17] at c17
  rw [hf18] at c18
  rw [hf19] at c19
  rw [hck, hnm, hf1, hf2, hf3, hf17, hf18, hf19] at hT
  clear hck hnm hf1 hf2 hf3 hf17 hf18 hf19 fa r0 r2 hs1 hV h0 hF
  by_cases t0 : ck = nm
  rotate_left 1
  · have u0 : (ck != nm) = true := by simp [t0]
    clear t0 hT
    go_enter Tryz.func24, Tryz.ntmps24
    go_upto_region 1 with fail
    try rw [hW1]
    clear hW1
    go_upto_region 4 with fail
    go_quiet (first | (go_at_call 86; exact Calls.quiet_of_same (KC.out _ _)) | (go_at_call 87; exact Calls.quiet_of_same (KN.out _ _)))
    go_wp2_with (refine wpList_store_row rfl 43 (.tmp 2) (.tmp 50) rfl (w.heap.size + 1) rfl _ rfl 43 _ R2.out ?i2 ?i3 ?i4 ?_)
    case i2 => rfl
    case i3 => kernel_rfl
    case i4 => first | exact ⟨rfl, rfl, rfl, rfl, rfl, rfl⟩ | exact rfl | simp
    go_wp2
    refine bodyPost_ret (results_row_tmp Tryz.results24 _ _ (w.heap.size + 1) 43 _ (0, 0) _ rfl (setRow_heap _ _ _ _ _ _ R2.out) Tryz.underlying43 rfl (by kernel_rfl)) rfl ⟨rfl, ?_⟩
    exact (below_drewN HB.out _).trans ((OnlyBlk.setRow _ (w.heap.size + 1) _).below (below_drewN HB.out _).size (by omega))
  have u0 : (ck != nm) = false := by simp [t0]
  by_cases t1 : f17 = 255 - f1
  rotate_left 1
  · have u1 : (f17 != 255 - f1) = true := by simp [t1]
    clear t1 hT
    go_enter Tryz.func24, Tryz.ntmps24
    go_upto_region 1 with fail
    try rw [hW1]
    clear hW1
    go_upto_region 4 with fail
    go_quiet (first | (go_at_call 86; exact Calls.quiet_of_same (KC.out _ _)) | (go_at_call 87; exact Calls.quiet_of_same (KN.out _ _)))
    go_wp2_with (refine wpList_store_row rfl 43 (.tmp 2) (.tmp 50) rfl (w.heap.size + 1) rfl _ rfl 43 _ R2.out ?i2 ?i3 ?i4 ?_)
    case i2 => rfl
    case i3 => kernel_rfl
    case i4 => first | exact ⟨rfl, rfl, rfl, rfl, rfl, rfl⟩ | exact rfl | simp
    go_wp2
    refine bodyPost_ret (results_row_tmp Tryz.results24 _ _ (w.heap.size + 1) 43 _ (0, 0) _ rfl (setRow_heap _ _ _ _ _ _ R2.out) Tryz.underlying43 rfl (by kernel_rfl)) rfl ⟨rfl, ?_⟩
    exact (below_drewN HB.out _).trans ((OnlyBlk.setRow _ (w.heap.size + 1) _).below (below_drewN HB.out _).size (by omega))
  have u1 : (f17 != 255 - f1) = false := by simp [t1]
  by_cases t2 : f18 = 255 - f2
  rotate_left 1
  · have u2 : (f18 != 255 - f2) = true := by simp [t2]
    clear t2 hT
    go_enter Tryz.func24, Tryz.ntmps24
    go_upto_region 1 with fail
    try rw [hW1]
    clear hW1
    go_upto_region 4 with fail
    go_quiet (first | (go_at_call 86; exact Calls.quiet_of_same (KC.out _ _)) | (go_at_call 87; exact Calls.quiet_of_same (KN.out _ _)))
    go_wp2_with (refine wpList_store_row rfl 43 (.tmp 2) (.tmp 50) rfl (w.heap.size + 1) rfl _ rfl 43 _ R2.out ?i2 ?i3 ?i4 ?_)
    case i2 => rfl
    case i3 => kernel_rfl
    case i4 => first | exact ⟨rfl, rfl, rfl, rfl, rfl, rfl⟩ | exact rfl | simp
    go_wp2
    refine bodyPost_ret (results_row_tmp Tryz.results24 _ _ (w.heap.size + 1) 43 _ (0, 0) _ rfl (setRow_heap _ _ _ _ _ _ R2.out) Tryz.underlying43 rfl (by kernel_rfl)) rfl ⟨rfl, ?_⟩
    exact (below_drewN HB.out _).trans ((OnlyBlk.setRow _ (w.heap.size + 1) _).below (below_drewN HB.out _).size (by omega))
  have u2 : (f18 != 255 - f2) = false := by simp [t2]
  by_cases t3 : f19 = 255 - f3
  rotate_left 1
  · have u3 : (f19 != 255 - f3) = true := by simp [t3]
    clear t3 hT
    go_enter Tryz.func24, Tryz.ntmps24
    go_upto_region 1 with fail
    try rw [hW1]
    clear hW1
    go_upto_region 4 with fail
    go_quiet (first | (go_at_call 86; exact Calls.quiet_of_same (KC.out _ _)) | (go_at_call 87; exact Calls.quiet_of_same (KN.out _ _)))
    go_wp2_with (refine wpList_store_row rfl 43 (.tmp 2) (.tmp 50) rfl (w.heap.size + 1) rfl _ rfl 43 _ R2.out ?i2 ?i3 ?i4 ?_)
    case i2 => rfl
    case i3 => kernel_rfl
    case i4 => first | exact ⟨rfl, rfl, rfl, rfl, rfl, rfl⟩ | exact rfl | simp
    go_wp2
    refine bodyPost_ret (results_row_tmp Tryz.results24 _ _ (w.heap.size + 1) 43 _ (0, 0) _ rfl (setRow_heap _ _ _ _ _ _ R2.out) Tryz.underlying43 rfl (by kernel_rfl)) rfl ⟨rfl, ?_⟩
    exact (below_drewN HB.out _).trans ((OnlyBlk.setRow _ (w.heap.size + 1) _).below (below_drewN HB.out _).size (by omega))
  have u3 : (f19 != 255 - f3) = false := by simp [t3]
  exact absurd ⟨t0, t1, t2, t3⟩ hT

end Go.Proofs.YthmaoeajbmfmaaaGreatDoor
