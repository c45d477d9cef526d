/-
  Contract of the reference's Decode for any 24 bytes.
-/
import Derived.Test.YtfdkmmllemkogaaGreatDoorOHb
import Derived.Test.YtfdkmmllemkogaaGreatDoorOHf
import Derived.Test.YtfdkmmllemkogaaGreatDoorOFc
import Derived.Test.YtfdkmmllemkogaaGreatDoorOWv
import Derived.Test.YtfdkmmllemkogaaGreatDoorOGa
import Derived.Test.YtfdkmmllemkogaaGreatDoorOWp
import Derived.Deep.AppendLies
import Derived.Deep.RegionHeldLaw
import Derived.Test.YtfdkmmllemkogaaGreatDoorOGf
import Derived.Test.YtfdkmmllemkogaaGreatDoorOBd
import Derived.Deep.CutBlock
import Derived.Deep.DeepCutAuto
import Derived.Test.YtfdkmmllemkogaaGreatDoorOFl
namespace Go.Proofs.YtfdkmmllemkogaaGreatDoor
open Go.RowKit
set_option linter.unusedVariables false
set_option linter.unusedSimpArgs false

theorem tail_iff (s c o x y z a b c' d e f g : Int) (hd : 0 ≤ d ∧ d ≤ 255) (he : 0 ≤ e ∧ e ≤ 255) (hf : 0 ≤ f ∧ f ≤ 255) (hg : 0 ≤ g ∧ g ≤ 255) :
    [a, b, c', d, e, f, g] = tail7 s c o x y z ↔ (chkOf ((rawF s c o x y z [a, b, c', d, e, f, g]).take 20) = numOf [d, e, f, g] ∧ a = 255 - s ∧ b = 255 - byt c 1 ∧ c' = 255 - byt c 0) := by
  obtain ⟨q1, q2, q3, q4, q5, q6⟩ := num_byt4 d e f g hd he hf hg
  have hb := chk_bd (frame20 s c o x y z)
  constructor
  · intro h
    unfold tail7 at h
    simp only [List.cons.injEq, and_true] at h
    obtain ⟨rfl, rfl, rfl, rfl, rfl, rfl, rfl⟩ := h
    refine ⟨?_, rfl, rfl, rfl⟩
    rw [num4 _ hb.1 (by omega)]
    rfl
  · rintro ⟨h, rfl, rfl, rfl⟩
    have e1 : (rawF s c o x y z [255 - s, 255 - byt c 1, 255 - byt c 0, d, e, f, g]).take 20 = frame20 s c o x y z := rfl
    rw [e1] at h
    unfold tail7
    rw [h, q1, q2, q3, q4]
theorem telErr_fit {s c o x y z : Int} (h : FitT s c o x y z) : telErr s c o x y z = vectorErr x y z := by
  rw [← telErr_first, rangeErr_in h.st.1 h.st.2, rangeErr_in h.ct.1 h.ct.2, rangeErr_in h.od.1 h.od.2]
  simp only [firstNZ]
  rcases vectorErr_or x y z with ⟨_, _, _, h4⟩ | ⟨_, h4⟩ <;> rw [h4] <;> simp

set_option maxRecDepth 100000 in
set_option maxHeartbeats 3200000 in
theorem refDecode_form (F : List Int) (hF : F.length = 24) (h0 : F[0]?.getD 0 ≠ 77) (w : World) :
    Calls Tryz.prog 79 #[.agg (F.map (Value.int .u8)).toArray] w fun e w' => e = .returned (.tuple #[.agg #[.int .i64 0, .int .i64 0, .int .i64 0, .int .i64 0, .int .i64 0, .int .i64 0], .int .i64 1]) ∧ Below w.heap.size w w' := by
  obtain ⟨V, hV⟩ : ∃ V, F.map (Value.int .u8) = V := ⟨_, rfl⟩
  obtain ⟨u, hu⟩ : ∃ u, F[0]?.getD 0 = u := ⟨_, rfl⟩
  have V0 : V[0]? = some (.int .u8 u) := by rw [← hV, List.getElem?_map, List.getElem?_eq_getElem (by omega), ← hu, List.getElem?_eq_getElem (by omega)]; rfl
  have e0 : (u != 77) = true := by rw [← hu]; simp [h0]
  rw [hV]
  have r0 : ((w.alloc (.cells V.toArray 108)).alloc (.cells #[.int .i64 0, .int .i64 0, .int .i64 0, .int .i64 0, .int .i64 0, .int .i64 0] 107)).heap[w.heap.size]? = some (.cells V.toArray 108 (0, 0)) := by
    rw [Below.heap_alloc _ _ _ (by simp)]
    exact heap_alloc_new w _
  have r2 : ((w.alloc (.cells V.toArray 108)).alloc (.cells #[.int .i64 0, .int .i64 0, .int .i64 0, .int .i64 0, .int .i64 0, .int .i64 0] 107)).heap[w.heap.size + 1]? = some (.cells #[.int .i64 0, .int .i64 0, .int .i64 0, .int .i64 0, .int .i64 0, .int .i64 0] 107 (0, 0)) := heap_alloc2_new w _ _
  have hc0 : ((w.alloc (.cells V.toArray 108)).alloc (.cells #[.int .i64 0, .int .i64 0, .int .i64 0, .int .i64 0, .int .i64 0, .int .i64 0] 107)).cell? ⟨w.heap.size, 0, none⟩ = some (.int .u8 u) := by
    rw [cell_of_row _ _ 0 _ _ (0, 0) r0]; simpa using V0
  have HB : Hid (Below w.heap.size w ((w.alloc (.cells V.toArray 108)).alloc (.cells #[.int .i64 0, .int .i64 0, .int .i64 0, .int .i64 0, .int .i64 0, .int .i64 0] 107))) := Lib.hid (((Below.refl _ w).alloc (Nat.le_refl _) _).alloc (by simp) _)
  obtain ⟨W1, hW1⟩ : ∃ W1, ((w.alloc (.cells V.toArray 108)).alloc (.cells #[.int .i64 0, .int .i64 0, .int .i64 0, .int .i64 0, .int .i64 0, .int .i64 0] 107)) = W1 := ⟨_, rfl⟩
  rw [hW1] at r2 hc0 HB
  have R2 := Lib.hid r2
  clear r0 r2 V0 hV hu h0
  go_enter Tryz.func79, Tryz.ntmps79
  go_upto_region 1 with fail
  try rw [hW1]
  clear hW1
  go_wp2_with (refine wpList_store_row rfl 107 (.tmp 2) (.tmp 12) rfl (w.heap.size + 1) rfl _ rfl 107 _ R2.out ?i2 ?i3 ?i4 ?_)
  case i2 => rfl
  case i3 => kernel_rfl
  case i4 => first | exact ⟨rfl, rfl, rfl, rfl, rfl, rfl⟩ | exact rfl | simp
  go_wp2
  refine bodyPost_ret (results_row_tmp Tryz.results79 _ _ (w.heap.size + 1) 107 _ (0, 0) _ rfl (setRow_heap W1 _ _ _ _ _ R2.out) Tryz.underlying107 rfl (by kernel_rfl)) rfl ⟨rfl, ?_⟩
  exact HB.out.trans ((OnlyBlk.setRow W1 (w.heap.size + 1) _).below HB.out.size (by omega))

/-- What the walk of Decode knows of the frame's block. -/
structure FrameAt (W1 : World) (B : Nat) (F : List Int) : Prop where
  blk : HasBlk W1 B 108 F
  bytes : Bytes24 F
theorem FrameAt.cell {W1 : World} {B : Nat} {F : List Int} (h : FrameAt W1 B F) (j : Nat) (hj : j < 24) : W1.cell? ⟨B, j, none⟩ = some (.int .u8 (byteAt F j)) :=
  h.blk.cell (by unfold byteAt; rw [List.getElem?_eq_getElem (by rw [h.bytes.1]; exact hj)]; rfl)
theorem FrameAt.bd {W1 : World} {B : Nat} {F : List Int} (h : FrameAt W1 B F) (j : Nat) (hj : j < 24) : 0 ≤ byteAt F j ∧ byteAt F j ≤ 255 := by
  unfold byteAt
  rw [List.getElem?_eq_getElem (by rw [h.bytes.1]; exact hj)]
  exact h.bytes.2 _ (List.getElem_mem _)
theorem FrameAt.chk {W1 : World} {B : Nat} {F : List Int} (h : FrameAt W1 B F) (c : Nat) (w1 : World) (hw : w1.heap = W1.heap) :
    Calls Tryz.prog 169 #[.slice (some ⟨B, 0, none⟩) 20 c] w1 fun e w' => e = .returned (.int .i64 (chkOf (F.take 20))) ∧ w1 = w' :=
  refChecksum_any B 0 20 c (F.take 20) w1 (by rw [List.length_take, h.bytes.1]; rfl) (by omega) (fun j hj => by
    rw [List.getElem?_take_of_lt hj]; exact h.bd j (by omega)) (fun j hj => by
    rw [List.getElem?_take_of_lt hj, Nat.zero_add, World.cell?_of_block (w := W1) (by rw [hw])]; exact h.cell j (by omega))
theorem FrameAt.num {W1 : World} {B : Nat} {F : List Int} (h : FrameAt W1 B F) (c : Nat) (o n : Nat) (ho : o + n ≤ 24) (hn : n ≤ 4) (w1 : World) (hw : w1.heap = W1.heap) :
    Calls Tryz.prog 170 #[.slice (some ⟨B, o, none⟩) n c] w1 fun e w' => e = .returned (.int .i64 (numOf ((F.drop o).take n))) ∧ w1 = w' :=
  refNumber_any B o n c ((F.drop o).take n) w1 (by rw [List.length_take, List.length_drop, h.bytes.1]; omega) hn (fun j hj => by
    rw [List.getElem?_take_of_lt hj, List.getElem?_drop]; exact h.bd (o + j) (by omega)) (fun j hj => by
    rw [List.getElem?_take_of_lt hj, List.getElem?_drop, World.cell?_of_block (w := W1) (by rw [hw])]; exact h.cell (o + j) (by omega))

set_option maxRecDepth 100000 in
set_option maxHeartbeats 6400000 in
theorem refDecode_check (F : List Int) (hF : Bytes24 F) (h0 : byteAt F 0 = 77) (hT : ¬ (chkOf (F.take 20) = numOf ((F.drop 20).take 4) ∧ byteAt F 17 = 255 - byteAt F 1 ∧ byteAt F 18 = 255 - byteAt F 2 ∧ byteAt F 19 = 255 - byteAt F 3)) (w : World) :
    Calls Tryz.prog 79 #[.agg (F.map (Value.int .u8)).toArray] w fun e w' => e = .returned (.tuple #[.agg #[.int .i64 0, .int .i64 0, .int .i64 0, .int .i64 0, .int .i64 0, .int .i64 0], .int .i64 27]) ∧ Below w.heap.size w w' := by
  have V24 : (F.map (Value.int .u8)).length = 24 := by simp [hF.1]
  obtain ⟨V, hV⟩ : ∃ V, F.map (Value.int .u8) = V := ⟨_, rfl⟩
  have r0 : ((w.alloc (.cells (F.map (Value.int .u8)).toArray 108)).alloc (.cells #[.int .i64 0, .int .i64 0, .int .i64 0, .int .i64 0, .int .i64 0, .int .i64 0] 107)).heap[w.heap.size]? = some (.cells (F.map (Value.int .u8)).toArray 108 (0, 0)) := by
    rw [Below.heap_alloc _ _ _ (by simp)]
    exact heap_alloc_new w _
  have r2 : ((w.alloc (.cells (F.map (Value.int .u8)).toArray 108)).alloc (.cells #[.int .i64 0, .int .i64 0, .int .i64 0, .int .i64 0, .int .i64 0, .int .i64 0] 107)).heap[w.heap.size + 1]? = some (.cells #[.int .i64 0, .int .i64 0, .int .i64 0, .int .i64 0, .int .i64 0, .int .i64 0] 107 (0, 0)) := heap_alloc2_new w _ _
  have HB : Hid (Below w.heap.size w ((w.alloc (.cells (F.map (Value.int .u8)).toArray 108)).alloc (.cells #[.int .i64 0, .int .i64 0, .int .i64 0, .int .i64 0, .int .i64 0, .int .i64 0] 107))) := Lib.hid (((Below.refl _ w).alloc (Nat.le_refl _) _).alloc (by simp) _)
  have hs1 : ((w.alloc (.cells (F.map (Value.int .u8)).toArray 108)).alloc (.cells #[.int .i64 0, .int .i64 0, .int .i64 0, .int .i64 0, .int .i64 0, .int .i64 0] 107)).heap.size = w.heap.size + 2 := by simp
  rw [hV] at V24 r2 HB hs1
  obtain ⟨W1, hW1⟩ : ∃ W1, ((w.alloc (.cells V.toArray 108)).alloc (.cells #[.int .i64 0, .int .i64 0, .int .i64 0, .int .i64 0, .int .i64 0, .int .i64 0] 107)) = W1 := ⟨_, rfl⟩
  have fa : FrameAt W1 w.heap.size F := ⟨by rw [← hW1, ← hV]; exact r0, hF⟩
  rw [hW1] at r2 HB hs1
  rw [hV]
  have R2 := Lib.hid r2
  have HS1 := Lib.hid hs1
  have HFA := Lib.hid fa
  have c0 := fa.cell 0 (by omega)
  have c1 := fa.cell 1 (by omega)
  have c2 := fa.cell 2 (by omega)
  have c3 := fa.cell 3 (by omega)
  have c17 := fa.cell 17 (by omega)
  have c18 := fa.cell 18 (by omega)
  have c19 := fa.cell 19 (by omega)
  have d1 := fa.bd 1 (by omega)
  have d2 := fa.bd 2 (by omega)
  have d3 := fa.bd 3 (by omega)
  have KC := Lib.hid (fun (n c : Nat) => (fa.chk c (W1.drewN n) rfl).mono fun e w' (h : _ ∧ _) => (⟨h.1, h.2.symm⟩ : e = .returned (.int .i64 (chkOf (F.take 20))) ∧ w' = W1.drewN n))
  have KN := Lib.hid (fun (n c : Nat) => (fa.num c 20 4 (by omega) (by omega) (W1.drewN n) rfl).mono fun e w' (h : _ ∧ _) => (⟨h.1, h.2.symm⟩ : e = .returned (.int .i64 (numOf ((F.drop 20).take 4))) ∧ w' = W1.drewN n))
  obtain ⟨ck, hck⟩ : ∃ ck, chkOf (F.take 20) = ck := ⟨_, rfl⟩
  obtain ⟨nm, hnm⟩ : ∃ nm, numOf ((F.drop 20).take 4) = nm := ⟨_, rfl⟩
  rw [hck] at KC
  rw [hnm] at KN
  have e0 : (byteAt F 0 != 77) = false := by simp [h0]
  obtain ⟨f1, hf1⟩ : ∃ x, byteAt F 1 = x := ⟨_, rfl⟩
  obtain ⟨f2, hf2⟩ : ∃ x, byteAt F 2 = x := ⟨_, rfl⟩
  obtain ⟨f3, hf3⟩ : ∃ x, byteAt F 3 = x := ⟨_, rfl⟩
  obtain ⟨f17, hf17⟩ : ∃ x, byteAt F 17 = x := ⟨_, rfl⟩
  obtain ⟨f18, hf18⟩ : ∃ x, byteAt F 18 = x := ⟨_, rfl⟩
  obtain ⟨f19, hf19⟩ : ∃ x, byteAt F 19 = x := ⟨_, rfl⟩
  rw [hf1] at c1 d1
  rw [hf2] at c2 d2
  rw [hf3] at c3 d3
  rw [hf17] at c17
  rw [hf18] at c18
  rw [hf19] at c19
  rw [hck, hnm, hf1, hf2, hf3, hf17, hf18, hf19] at hT
  clear hck hnm hf1 hf2 hf3 hf17 hf18 hf19 fa r0 r2 hs1 hV h0 hF
  by_cases t0 : ck = nm
  rotate_left 1
  · have u0 : (ck != nm) = true := by simp [t0]
    clear t0 hT
    go_enter Tryz.func79, Tryz.ntmps79
    go_upto_region 1 with fail
    try rw [hW1]
    clear hW1
    go_upto_region 4 with fail
    go_quiet (first | (go_at_call 169; exact Calls.quiet_of_same (KC.out _ _)) | (go_at_call 170; exact Calls.quiet_of_same (KN.out _ _)))
    go_wp2_with (refine wpList_store_row rfl 107 (.tmp 2) (.tmp 50) rfl (w.heap.size + 1) rfl _ rfl 107 _ R2.out ?i2 ?i3 ?i4 ?_)
    case i2 => rfl
    case i3 => kernel_rfl
    case i4 => first | exact ⟨rfl, rfl, rfl, rfl, rfl, rfl⟩ | exact rfl | simp
    go_wp2
    refine bodyPost_ret (results_row_tmp Tryz.results79 _ _ (w.heap.size + 1) 107 _ (0, 0) _ rfl (setRow_heap _ _ _ _ _ _ R2.out) Tryz.underlying107 rfl (by kernel_rfl)) rfl ⟨rfl, ?_⟩
    exact (below_drewN HB.out _).trans ((OnlyBlk.setRow _ (w.heap.size + 1) _).below (below_drewN HB.out _).size (by omega))
  have u0 : (ck != nm) = false := by simp [t0]
  by_cases t1 : f17 = 255 - f1
  rotate_left 1
  · have u1 : (f17 != 255 - f1) = true := by simp [t1]
    clear t1 hT
    go_enter Tryz.func79, Tryz.ntmps79
    go_upto_region 1 with fail
    try rw [hW1]
    clear hW1
    go_upto_region 4 with fail
    go_quiet (first | (go_at_call 169; exact Calls.quiet_of_same (KC.out _ _)) | (go_at_call 170; exact Calls.quiet_of_same (KN.out _ _)))
    go_wp2_with (refine wpList_store_row rfl 107 (.tmp 2) (.tmp 50) rfl (w.heap.size + 1) rfl _ rfl 107 _ R2.out ?i2 ?i3 ?i4 ?_)
    case i2 => rfl
    case i3 => kernel_rfl
    case i4 => first | exact ⟨rfl, rfl, rfl, rfl, rfl, rfl⟩ | exact rfl | simp
    go_wp2
    refine bodyPost_ret (results_row_tmp Tryz.results79 _ _ (w.heap.size + 1) 107 _ (0, 0) _ rfl (setRow_heap _ _ _ _ _ _ R2.out) Tryz.underlying107 rfl (by kernel_rfl)) rfl ⟨rfl, ?_⟩
    exact (below_drewN HB.out _).trans ((OnlyBlk.setRow _ (w.heap.size + 1) _).below (below_drewN HB.out _).size (by omega))
  have u1 : (f17 != 255 - f1) = false := by simp [t1]
  by_cases t2 : f18 = 255 - f2
  rotate_left 1
  · have u2 : (f18 != 255 - f2) = true := by simp [t2]
    clear t2 hT
    go_enter Tryz.func79, Tryz.ntmps79
    go_upto_region 1 with fail
    try rw [hW1]
    clear hW1
    go_upto_region 4 with fail
    go_quiet (first | (go_at_call 169; exact Calls.quiet_of_same (KC.out _ _)) | (go_at_call 170; exact Calls.quiet_of_same (KN.out _ _)))
    go_wp2_with (refine wpList_store_row rfl 107 (.tmp 2) (.tmp 50) rfl (w.heap.size + 1) rfl _ rfl 107 _ R2.out ?i2 ?i3 ?i4 ?_)
    case i2 => rfl
    case i3 => kernel_rfl
    case i4 => first | exact ⟨rfl, rfl, rfl, rfl, rfl, rfl⟩ | exact rfl | simp
    go_wp2
    refine bodyPost_ret (results_row_tmp Tryz.results79 _ _ (w.heap.size + 1) 107 _ (0, 0) _ rfl (setRow_heap _ _ _ _ _ _ R2.out) Tryz.underlying107 rfl (by kernel_rfl)) rfl ⟨rfl, ?_⟩
    exact (below_drewN HB.out _).trans ((OnlyBlk.setRow _ (w.heap.size + 1) _).below (below_drewN HB.out _).size (by omega))
  have u2 : (f18 != 255 - f2) = false := by simp [t2]
  by_cases t3 : f19 = 255 - f3
  rotate_left 1
  · have u3 : (f19 != 255 - f3) = true := by simp [t3]
    clear t3 hT
    go_enter Tryz.func79, Tryz.ntmps79
    go_upto_region 1 with fail
    try rw [hW1]
    clear hW1
    go_upto_region 4 with fail
    go_quiet (first | (go_at_call 169; exact Calls.quiet_of_same (KC.out _ _)) | (go_at_call 170; exact Calls.quiet_of_same (KN.out _ _)))
    go_wp2_with (refine wpList_store_row rfl 107 (.tmp 2) (.tmp 50) rfl (w.heap.size + 1) rfl _ rfl 107 _ R2.out ?i2 ?i3 ?i4 ?_)
    case i2 => rfl
    case i3 => kernel_rfl
    case i4 => first | exact ⟨rfl, rfl, rfl, rfl, rfl, rfl⟩ | exact rfl | simp
    go_wp2
    refine bodyPost_ret (results_row_tmp Tryz.results79 _ _ (w.heap.size + 1) 107 _ (0, 0) _ rfl (setRow_heap _ _ _ _ _ _ R2.out) Tryz.underlying107 rfl (by kernel_rfl)) rfl ⟨rfl, ?_⟩
    exact (below_drewN HB.out _).trans ((OnlyBlk.setRow _ (w.heap.size + 1) _).below (below_drewN HB.out _).size (by omega))
  have u3 : (f19 != 255 - f3) = false := by simp [t3]
  exact absurd ⟨t0, t1, t2, t3⟩ hT

end Go.Proofs.YtfdkmmllemkogaaGreatDoor

/-
  Contract of the reference's Decode for 24 bytes that agree with one another; and for any 24 bytes.
-/
namespace Go.Proofs.YtfdkmmllemkogaaGreatDoor
open Go.RowKit
set_option linter.unusedVariables false
set_option linter.unusedSimpArgs false

theorem FrameAt.kept {W1 w1 : World} {B : Nat} {F : List Int} (h : FrameAt W1 B F) (hb : Below W1.heap.size W1 w1) : FrameAt w1 B F := ⟨h.blk.kept hb h.blk.lt, h.bytes⟩
def DecV (t : Tel) (r : Int) : Value := .tuple #[(if r = 0 then t else tel0).agg, .int .i64 r]
theorem DecV_bad {t : Tel} {r : Int} (h : r ≠ 0) : DecV t r = .tuple #[.agg #[.int .i64 0, .int .i64 0, .int .i64 0, .int .i64 0, .int .i64 0, .int .i64 0], .int .i64 r] := by
  unfold DecV; rw [if_neg h]; rfl
theorem tel_cells {w : World} {B : Nat} {T : TypeId} {s c o x y z : Value} (h : w.heap[B]? = some (.cells #[s, c, o, x, y, z] T (0, 0))) : w.cell? ⟨B, 0, none⟩ = some s ∧ w.cell? ⟨B, 1, none⟩ = some c ∧ w.cell? ⟨B, 2, none⟩ = some o ∧ w.cell? ⟨B, 3, none⟩ = some x ∧ w.cell? ⟨B, 4, none⟩ = some y ∧ w.cell? ⟨B, 5, none⟩ = some z :=
  ⟨by rw [cell_of_row w B 0 _ _ (0, 0) h]; rfl, by rw [cell_of_row w B 1 _ _ (0, 0) h]; rfl, by rw [cell_of_row w B 2 _ _ (0, 0) h]; rfl, by rw [cell_of_row w B 3 _ _ (0, 0) h]; rfl, by rw [cell_of_row w B 4 _ _ (0, 0) h]; rfl, by rw [cell_of_row w B 5 _ _ (0, 0) h]; rfl⟩
theorem tel_set3 {w : World} {B : Nat} {T : TypeId} {s c o x y z : Value} (h : w.heap[B]? = some (.cells #[s, c, o, x, y, z] T (0, 0))) (x' y' z' : Value) :
    (((w.setCell ⟨B, 3, none⟩ x').setCell ⟨B, 4, none⟩ y').setCell ⟨B, 5, none⟩ z').heap[B]? = some (.cells #[s, c, o, x', y', z'] T (0, 0)) := by
  simp only [World.setCell, Array.getElem?_modify, if_true, h, Option.map_some]
  simp
theorem seg_eq (F : List Int) (hF : F.length = 24) (o n : Nat) (ho : o + n ≤ 24) : (F.drop o).take n = (List.range n).map (fun j => byteAt F (o + j)) := by
  refine List.ext_getElem (by rw [List.length_take, List.length_drop, hF]; simp; omega) fun j h1 h2 => ?_
  simp only [List.getElem_take, List.getElem_drop, List.getElem_map, List.getElem_range, byteAt]
  rw [List.getElem?_eq_getElem (by simp at h2; omega)]
  rfl

set_option maxRecDepth 100000 in
set_option maxHeartbeats 12800000 in
theorem refDecode_ok (F : List Int) (hF : Bytes24 F) (h0 : byteAt F 0 = 77) (hT : chkOf (F.take 20) = numOf ((F.drop 20).take 4) ∧ byteAt F 17 = 255 - byteAt F 1 ∧ byteAt F 18 = 255 - byteAt F 2 ∧ byteAt F 19 = 255 - byteAt F 3) (w : World) :
    Calls Tryz.prog 79 #[.agg (F.map (Value.int .u8)).toArray] w fun e w' => e = .returned (DecV (telOf F) (vectorErr (telOf F).x (telOf F).y (telOf F).z)) ∧ Below w.heap.size w w' := by
  have hx : (telOf F).x = numOf ((F.drop 5).take 4) - 1048576 := by rw [seg_eq F hF.1 5 4 (by omega)]; rfl
  have hy : (telOf F).y = numOf ((F.drop 9).take 4) - 1048576 := by rw [seg_eq F hF.1 9 4 (by omega)]; rfl
  have hz : (telOf F).z = numOf ((F.drop 13).take 4) - 1048576 := by rw [seg_eq F hF.1 13 4 (by omega)]; rfl
  have hc : (telOf F).c = numOf ((F.drop 2).take 2) := by rw [seg_eq F hF.1 2 2 (by omega)]; rfl
  have hs : (telOf F).s = byteAt F 1 := rfl
  have ho : (telOf F).o = byteAt F 4 := rfl
  have hft := (raw_telOf F hF h0).2.2
  obtain ⟨t, ht⟩ : ∃ t, telOf F = t := ⟨_, rfl⟩
  rw [ht] at hx hy hz hc hs ho hft ⊢
  clear ht
  have V24 : (F.map (Value.int .u8)).length = 24 := by simp [hF.1]
  obtain ⟨V, hV⟩ : ∃ V, F.map (Value.int .u8) = V := ⟨_, rfl⟩
  have r0 : ((w.alloc (.cells (F.map (Value.int .u8)).toArray 108)).alloc (.cells #[.int .i64 0, .int .i64 0, .int .i64 0, .int .i64 0, .int .i64 0, .int .i64 0] 107)).heap[w.heap.size]? = some (.cells (F.map (Value.int .u8)).toArray 108 (0, 0)) := by
    rw [Below.heap_alloc _ _ _ (by simp)]
    exact heap_alloc_new w _
  have r2 : ((w.alloc (.cells (F.map (Value.int .u8)).toArray 108)).alloc (.cells #[.int .i64 0, .int .i64 0, .int .i64 0, .int .i64 0, .int .i64 0, .int .i64 0] 107)).heap[w.heap.size + 1]? = some (.cells #[.int .i64 0, .int .i64 0, .int .i64 0, .int .i64 0, .int .i64 0, .int .i64 0] 107 (0, 0)) := heap_alloc2_new w _ _
  have HB : Hid (Below w.heap.size w ((w.alloc (.cells (F.map (Value.int .u8)).toArray 108)).alloc (.cells #[.int .i64 0, .int .i64 0, .int .i64 0, .int .i64 0, .int .i64 0, .int .i64 0] 107))) := Lib.hid (((Below.refl _ w).alloc (Nat.le_refl _) _).alloc (by simp) _)
  have hs1 : ((w.alloc (.cells (F.map (Value.int .u8)).toArray 108)).alloc (.cells #[.int .i64 0, .int .i64 0, .int .i64 0, .int .i64 0, .int .i64 0, .int .i64 0] 107)).heap.size = w.heap.size + 2 := by simp
  rw [hV] at V24 r2 HB hs1
  obtain ⟨W1, hW1⟩ : ∃ W1, ((w.alloc (.cells V.toArray 108)).alloc (.cells #[.int .i64 0, .int .i64 0, .int .i64 0, .int .i64 0, .int .i64 0, .int .i64 0] 107)) = W1 := ⟨_, rfl⟩
  have fa : FrameAt W1 w.heap.size F := ⟨by rw [← hW1, ← hV]; exact r0, hF⟩
  rw [hW1] at r2 HB hs1
  rw [hV]
  have R2 := Lib.hid r2
  have HS1 := Lib.hid hs1
  have HFA := Lib.hid fa
  have c0 := fa.cell 0 (by omega)
  have c1 := fa.cell 1 (by omega)
  have c2 := fa.cell 2 (by omega)
  have c3 := fa.cell 3 (by omega)
  have c17 := fa.cell 17 (by omega)
  have c18 := fa.cell 18 (by omega)
  have c19 := fa.cell 19 (by omega)
  have d1 := fa.bd 1 (by omega)
  have d2 := fa.bd 2 (by omega)
  have d3 := fa.bd 3 (by omega)
  have KC := Lib.hid (fun (n c : Nat) => (fa.chk c (W1.drewN n) rfl).mono fun e w' (h : _ ∧ _) => (⟨h.1, h.2.symm⟩ : e = .returned (.int .i64 (chkOf (F.take 20))) ∧ w' = W1.drewN n))
  have KN := Lib.hid (fun (n c : Nat) => (fa.num c 20 4 (by omega) (by omega) (W1.drewN n) rfl).mono fun e w' (h : _ ∧ _) => (⟨h.1, h.2.symm⟩ : e = .returned (.int .i64 (numOf ((F.drop 20).take 4))) ∧ w' = W1.drewN n))
  obtain ⟨ck, hck⟩ : ∃ ck, chkOf (F.take 20) = ck := ⟨_, rfl⟩
  obtain ⟨nm, hnm⟩ : ∃ nm, numOf ((F.drop 20).take 4) = nm := ⟨_, rfl⟩
  rw [hck] at KC
  rw [hnm] at KN
  have e0 : (byteAt F 0 != 77) = false := by simp [h0]
  obtain ⟨f1, hf1⟩ : ∃ x, byteAt F 1 = x := ⟨_, rfl⟩
  obtain ⟨f2, hf2⟩ : ∃ x, byteAt F 2 = x := ⟨_, rfl⟩
  obtain ⟨f3, hf3⟩ : ∃ x, byteAt F 3 = x := ⟨_, rfl⟩
  obtain ⟨f17, hf17⟩ : ∃ x, byteAt F 17 = x := ⟨_, rfl⟩
  obtain ⟨f18, hf18⟩ : ∃ x, byteAt F 18 = x := ⟨_, rfl⟩
  obtain ⟨f19, hf19⟩ : ∃ x, byteAt F 19 = x := ⟨_, rfl⟩
  rw [hf1] at c1 d1
  rw [hf2] at c2 d2
  rw [hf3] at c3 d3
  rw [hf17] at c17
  rw [hf18] at c18
  rw [hf19] at c19
  have c4 := fa.cell 4 (by omega)
  rw [← hs] at hf1
  rw [← ho] at c4
  have K2 := Lib.hid (fun (w1 : World) (c : Nat) (h : Blw W1.heap.size W1 w1) => (fa.kept h).num c 2 2 (by omega) (by omega) w1 rfl)
  have K5 := Lib.hid (fun (w1 : World) (c : Nat) (h : Blw W1.heap.size W1 w1) => (fa.kept h).num c 5 4 (by omega) (by omega) w1 rfl)
  have K9 := Lib.hid (fun (w1 : World) (c : Nat) (h : Blw W1.heap.size W1 w1) => (fa.kept h).num c 9 4 (by omega) (by omega) w1 rfl)
  have K13 := Lib.hid (fun (w1 : World) (c : Nat) (h : Blw W1.heap.size W1 w1) => (fa.kept h).num c 13 4 (by omega) (by omega) w1 rfl)
  rw [← hc] at K2
  obtain ⟨x5, hx5⟩ : ∃ x, numOf ((F.drop 5).take 4) = x := ⟨_, rfl⟩
  obtain ⟨x9, hx9⟩ : ∃ x, numOf ((F.drop 9).take 4) = x := ⟨_, rfl⟩
  obtain ⟨x13, hx13⟩ : ∃ x, numOf ((F.drop 13).take 4) = x := ⟨_, rfl⟩
  rw [hx5] at K5 hx
  rw [hx9] at K9 hy
  rw [hx13] at K13 hz
  rw [hck, hnm, hf2, hf3, hf17, hf18, hf19] at hT
  obtain ⟨ss, cc, oo, xx, yy, zz⟩ := t
  simp only at hx hy hz hc hs ho hf1 K2 c4 hft ⊢
  rw [← hs, hf1] at hT
  subst hf1
  obtain ⟨r, hr⟩ : ∃ r, vectorErr xx yy zz = r := ⟨_, rfl⟩
  rw [hr]
  have HR := Lib.hid hr
  clear hr
  have u0 : (ck != nm) = false := by simp [hT.1]
  have u1 : (f17 != 255 - ss) = false := by simp [hT.2.1]
  have u2 : (f18 != 255 - f2) = false := by simp [hT.2.2.1]
  have u3 : (f19 != 255 - f3) = false := by simp [hT.2.2.2]
  have hR0 : Blw W1.heap.size W1 W1 := show Below _ _ _ from Below.refl _ _
  have g4 := fa.bd 4 (by omega)
  rw [← ho] at g4
  have bx : -1048576 ≤ xx ∧ xx ≤ 4293918719 := hft.vx
  have by' : -1048576 ≤ yy ∧ yy ≤ 4293918719 := hft.vy
  have bz : -1048576 ≤ zz ∧ zz ≤ 4293918719 := hft.vz
  have ex : x5 - 1048576 = xx := hx.symm
  have ey : x9 - 1048576 = yy := hy.symm
  have ez : x13 - 1048576 = zz := hz.symm
  clear hs1 hck hnm hf2 hf3 hf17 hf18 hf19 r0 hV h0 hF hT hx hy hz hc hs ho hx5 hx9 hx13 hft fa
  go_enter Tryz.func79, Tryz.ntmps79
  go_upto_region 1 with fail
  try rw [hW1]
  clear hW1
  go_upto_region 4 with fail
  go_quiet (first | (go_at_call 169; exact Calls.quiet_of_same (KC.out _ _)) | (go_at_call 170; exact Calls.quiet_of_same (KN.out _ _)))
  go_upto_region 6 with fail
  generalize hW2 : W1.drewN _ = W2
  have b2 : Below W1.heap.size W1 W2 := by rw [← hW2]; exact below_drewN (Below.refl _ _) _
  have z2 : W2.heap.size = W1.heap.size := by rw [← hW2]; rfl
  have e1 : W2.cell? ⟨w.heap.size, 1, none⟩ = some (.int .u8 ss) := by rw [← hW2]; exact c1
  have e4 : W2.cell? ⟨w.heap.size, 4, none⟩ = some (.int .u8 oo) := by rw [← hW2]; exact c4
  have R2' : Hid (W2.heap[w.heap.size + 1]? = some (.cells #[.int .i64 0, .int .i64 0, .int .i64 0, .int .i64 0, .int .i64 0, .int .i64 0] 107 (0, 0))) := Lib.hid (by rw [← hW2]; exact R2.out)
  have hR : Blw W1.heap.size W1 W2.drew := show Below _ _ _ from b2.drew
  have hRa : ∀ o : Obj, Blw W1.heap.size W1 ((W2.alloc o).drew) := fun o => show Below _ _ _ from (b2.alloc (by omega) o).drew
  have HB2 := Lib.hid b2
  have HZ2 := Lib.hid z2
  have hlt1 : w.heap.size < W2.heap.size := by have := HS1.out; omega
  have ws : IntKind.i64.wrap ss = ss := IntWalk.i64_in _ ⟨by omega, by omega⟩
  have wo : IntKind.i64.wrap oo = oo := IntWalk.i64_in _ ⟨by omega, by omega⟩
  have wx : IntKind.i64.wrap xx = xx := IntWalk.i64_in _ ⟨by omega, by omega⟩
  have wy : IntKind.i64.wrap yy = yy := IntWalk.i64_in _ ⟨by omega, by omega⟩
  have wz : IntKind.i64.wrap zz = zz := IntWalk.i64_in _ ⟨by omega, by omega⟩
  clear z2 hW2 c0 c1 c2 c3 c4 c17 c18 c19 b2 u0 u1 u2 u3 KC KN R2 hR0
  go_cut [5] (fun s5 wr => ∃ B W6, s5 = .pointer (some ⟨B, 0, none⟩) ∧ W6 = wr ∧ W1.heap.size ≤ B ∧ W6.heap[B]? = some (.cells #[.int .i64 ss, .int .i64 cc, .int .i64 oo, .int .i64 0, .int .i64 0, .int .i64 0] 107 (0, 0)) ∧ Below W1.heap.size W1 W6 ∧ W6.heap[w.heap.size + 1]? = some (.cells #[.int .i64 0, .int .i64 0, .int .i64 0, .int .i64 0, .int .i64 0, .int .i64 0] 107 (0, 0)))
  case first =>
    go_region_held3 (fun w' => w'.cell? ⟨w.heap.size, 1, none⟩ = some (.int .u8 ss) ∧ w'.cell? ⟨w.heap.size, 4, none⟩ = some (.int .u8 oo) ∧ Blw W1.heap.size W1 w')
      (first | go_keep | (go_split_ands; refine ⟨?_, ?_, ?_⟩ <;> first | (with_reducible assumption) | exact hRa _ | (simp [go_sem, *]; done)))
      ((go_at_call 170; refine (K2.out _ _ ?_).mono ?_; rotate_left 1; rintro e w9 ⟨rfl, rfl⟩; rotate_left 1; (first | assumption | exact hRa _)))
    all_goals go_wp2_with fail
    all_goals go_meet
    all_goals
      refine ⟨_, _, rfl, rfl, ?_, ?_, ?_, ?_⟩
      · have := HZ2.out; omega
      · exact blk_alloc_new W2 _
      · exact hRa _
      · exact blk_alloc_other R2'.out _
  case rest =>
    obtain ⟨B, W6, rfl, rfl, hB, hblk, hb6, hz6⟩ := hcut
    obtain ⟨p0, p1, p2, p3, p4, p5⟩ := tel_cells hblk
    have q3 : W6.frozen? ⟨B, 3, none⟩ = false := by simp [World.frozen?, hblk]
    have q4 : W6.frozen? ⟨B, 4, none⟩ = false := by simp [World.frozen?, hblk]
    have q5 : W6.frozen? ⟨B, 5, none⟩ = false := by simp [World.frozen?, hblk]
    have hR6 : Blw W1.heap.size W1 W6.drew := show Below _ _ _ from hb6.drew
    have hne : w.heap.size + 1 ≠ B := by have := HS1.out; omega
    have HBLK := Lib.hid hblk
    have HZ6 := Lib.hid hz6
    have HB6 := Lib.hid hb6
    clear e1 e4 hRa hR R2' K2 hblk hz6 hb6 hlt1
    go_upto_region 7 with fail
    go_region_held3 (fun _ => True) (trivial)
      (first
        | ((go_at_call 170; (with_reducible refine (K5.out _ _ hR6).mono ?_); rintro e w9 ⟨rfl, rfl⟩))
        | ((go_at_call 170; (with_reducible refine (K9.out _ _ hR6).mono ?_); rintro e w9 ⟨rfl, rfl⟩))
        | ((go_at_call 170; (with_reducible refine (K13.out _ _ hR6).mono ?_); rintro e w9 ⟨rfl, rfl⟩)))
    obtain ⟨W7, hW7⟩ : ∃ W7, (((W6.setCell ⟨B, 3, none⟩ (.int .i64 xx)).setCell ⟨B, 4, none⟩ (.int .i64 yy)).setCell ⟨B, 5, none⟩ (.int .i64 zz)).drew = W7 := ⟨_, rfl⟩
    have hblk : W7.heap[B]? = some (.cells #[.int .i64 ss, .int .i64 cc, .int .i64 oo, .int .i64 xx, .int .i64 yy, .int .i64 zz] 107 (0, 0)) := by
      rw [← hW7]; exact tel_set3 HBLK.out _ _ _
    have hz7 : W7.heap[w.heap.size + 1]? = some (.cells #[.int .i64 0, .int .i64 0, .int .i64 0, .int .i64 0, .int .i64 0, .int .i64 0] 107 (0, 0)) := by
      rw [← hW7]
      exact (Below.heap_setCell _ _ _ _ (by simp; omega)).trans ((Below.heap_setCell _ _ _ _ (by simp; omega)).trans ((Below.heap_setCell _ _ _ _ (by simp; omega)).trans HZ6.out))
    have hb7 : Below W1.heap.size W1 W7 := by
      rw [← hW7]
      exact (((HB6.out.setCell (p := ⟨B, 3, none⟩) hB _).setCell (p := ⟨B, 4, none⟩) hB _).setCell (p := ⟨B, 5, none⟩) hB _).drew
    rw [hW7]
    clear hW7 p0 p1 p2 p3 p4 p5 q3 q4 q5 K5 K9 K13 hR6 ws wo wx wy wz ex ey ez
    obtain ⟨p0, p1, p2, p3, p4, p5⟩ := tel_cells hblk
    have hlB := lt_of_blk hblk
    have hl1 := lt_of_blk hz7
    have KV := Lib.hid (refCheckVector_all xx yy zz W7)
    rw [HR.out] at KV
    have HZ7 := Lib.hid hz7
    have HB7 := Lib.hid (HB.out.trans (hb7.mono HB.out.size))
    clear hblk hz7 hb7
    by_cases hr0 : r = 0
    · subst hr0
      go_wp2_with (first
        | (go_at_call 33; refine KV.out.mono ?_; rintro e w8 ⟨rfl, hb8⟩
           have d0 : w8.cell? ⟨B, 0, none⟩ = some (.int .i64 ss) := (hb8.cell (p := ⟨B, 0, none⟩) hlB).trans p0
           have d1 : w8.cell? ⟨B, 1, none⟩ = some (.int .i64 cc) := (hb8.cell (p := ⟨B, 1, none⟩) hlB).trans p1
           have d2 : w8.cell? ⟨B, 2, none⟩ = some (.int .i64 oo) := (hb8.cell (p := ⟨B, 2, none⟩) hlB).trans p2
           have d3 : w8.cell? ⟨B, 3, none⟩ = some (.int .i64 xx) := (hb8.cell (p := ⟨B, 3, none⟩) hlB).trans p3
           have d4 : w8.cell? ⟨B, 4, none⟩ = some (.int .i64 yy) := (hb8.cell (p := ⟨B, 4, none⟩) hlB).trans p4
           have d5 : w8.cell? ⟨B, 5, none⟩ = some (.int .i64 zz) := (hb8.cell (p := ⟨B, 5, none⟩) hlB).trans p5
           have HZ8 := Lib.hid ((hb8.block _ hl1).trans HZ7.out)
           have HB8 := Lib.hid (HB7.out.trans (hb8.mono HB7.out.size))
           clear hb8 p0 p1 p2 p3 p4 p5)
        | (refine wpList_store_row rfl 107 (.tmp 2) (.tmp 84) rfl (w.heap.size + 1) rfl _ rfl 107 _ HZ8.out ?i2 ?i3 ?i4 ?_))
      case i2 => rfl
      case i3 => kernel_rfl
      case i4 => first | exact ⟨rfl, rfl, rfl, rfl, rfl, rfl⟩ | exact rfl | simp
      go_wp2
      refine bodyPost_ret (results_row_tmp Tryz.results79 _ _ (w.heap.size + 1) 107 _ (0, 0) _ rfl (setRow_heap w8 _ _ _ _ _ HZ8.out) Tryz.underlying107 rfl (by kernel_rfl)) rfl ⟨rfl, ?_⟩
      exact HB8.out.trans ((OnlyBlk.setRow w8 (w.heap.size + 1) _).below HB8.out.size (by omega))
    · have e0 : (r != 0) = true := by simp [hr0]
      have HR0 := Lib.hid hr0
      clear hr0
      go_wp2_with (first
        | (go_at_call 33; refine KV.out.mono ?_; rintro e w8 ⟨rfl, hb8⟩
           have HZ8 := Lib.hid ((hb8.block _ hl1).trans HZ7.out)
           have HB8 := Lib.hid (HB7.out.trans (hb8.mono HB7.out.size))
           clear hb8 p0 p1 p2 p3 p4 p5)
        | (refine wpList_store_row rfl 107 (.tmp 2) (.tmp 82) rfl (w.heap.size + 1) rfl _ rfl 107 _ HZ8.out ?i2 ?i3 ?i4 ?_))
      case i2 => rfl
      case i3 => kernel_rfl
      case i4 => first | exact ⟨rfl, rfl, rfl, rfl, rfl, rfl⟩ | exact rfl | simp
      go_wp2
      refine bodyPost_ret (results_row_tmp Tryz.results79 _ _ (w.heap.size + 1) 107 _ (0, 0) _ rfl (setRow_heap w8 _ _ _ _ _ HZ8.out) Tryz.underlying107 rfl (by kernel_rfl)) rfl ⟨by rw [DecV_bad HR0.out]; rfl, ?_⟩
      exact HB8.out.trans ((OnlyBlk.setRow w8 (w.heap.size + 1) _).below HB8.out.size (by omega))

end Go.Proofs.YtfdkmmllemkogaaGreatDoor

/-
  Contract of the reference's Decode for any 24 bytes: it answers as the program's.
-/
namespace Go.Proofs.YtfdkmmllemkogaaGreatDoor
open Go.RowKit
set_option linter.unusedVariables false
set_option linter.unusedSimpArgs false

theorem checks_iff (F : List Int) (h : Bytes24 F) (h0 : byteAt F 0 = 77) : F.drop 17 = (telOf F).tail ↔ (chkOf (F.take 20) = numOf ((F.drop 20).take 4) ∧ byteAt F 17 = 255 - byteAt F 1 ∧ byteAt F 18 = 255 - byteAt F 2 ∧ byteAt F 19 = 255 - byteAt F 3) := by
  have bd : ∀ j, j < 24 → 0 ≤ byteAt F j ∧ byteAt F j ≤ 255 := fun j hj => by
    unfold byteAt
    rw [List.getElem?_eq_getElem (by rw [h.1]; exact hj)]
    exact h.2 _ (List.getElem_mem _)
  obtain ⟨e1, hR, hf⟩ := raw_telOf F h h0
  have e17 : F.drop 17 = [byteAt F 17, byteAt F 18, byteAt F 19, byteAt F 20, byteAt F 21, byteAt F 22, byteAt F 23] := by
    have h := seg_eq F h.1 17 7 (by omega)
    rw [List.take_of_length_le (by omega)] at h
    exact h
  have e20 : (F.drop 20).take 4 = [byteAt F 20, byteAt F 21, byteAt F 22, byteAt F 23] := seg_eq F h.1 20 4 (by omega)
  obtain ⟨p1, p2, _, _⟩ := num_byt2 (byteAt F 2) (byteAt F 3) (bd 2 (by omega)) (bd 3 (by omega))
  have hs : (telOf F).s = byteAt F 1 := rfl
  have hc1 : byt (telOf F).c 1 = byteAt F 2 := p1
  have hc0 : byt (telOf F).c 0 = byteAt F 3 := p2
  have hi := tail_iff (telOf F).s (telOf F).c (telOf F).o (telOf F).x (telOf F).y (telOf F).z (byteAt F 17) (byteAt F 18) (byteAt F 19) (byteAt F 20) (byteAt F 21) (byteAt F 22) (byteAt F 23) (bd 20 (by omega)) (bd 21 (by omega)) (bd 22 (by omega)) (bd 23 (by omega))
  rw [← e17, ← e1, ← e20, hs, hc1, hc0] at hi
  exact hi

theorem refDecode_all (F : List Int) (h : Bytes24 F) (w : World) :
    Calls Tryz.prog 79 #[.agg (F.map (Value.int .u8)).toArray] w fun e w' => e = .returned (.tuple #[(decTel F).agg, .int .i64 (decErr F)]) ∧ Below w.heap.size w w' := by
  by_cases h0 : byteAt F 0 = 77
  · have hi := checks_iff F h h0
    by_cases hT : F.drop 17 = (telOf F).tail
    · have hE : decErr F = vectorErr (telOf F).x (telOf F).y (telOf F).z := by
        unfold decErr
        rw [if_neg (by simp [h0]), if_neg (by simp [hT])]
        exact telErr_fit (raw_telOf F h h0).2.2
      unfold decTel
      rw [hE]
      exact refDecode_ok F h h0 (hi.1 hT) w
    · have hE : decErr F = 27 := by unfold decErr; rw [if_neg (by simp [h0]), if_pos hT]
      unfold decTel
      rw [hE, if_neg (by decide)]
      exact refDecode_check F h h0 (fun hh => hT (hi.2 hh)) w
  · have hE : decErr F = 1 := by unfold decErr; rw [if_pos h0]
    unfold decTel
    rw [hE, if_neg (by decide)]
    exact refDecode_form F h.1 h0 w
end Go.Proofs.YtfdkmmllemkogaaGreatDoor

/-
  Contract of the reference's Received for any stream.
-/
namespace Go.Proofs.YtfdkmmllemkogaaGreatDoor
open Go.RowKit
set_option linter.unusedVariables false
set_option linter.unusedSimpArgs false

/-- A frame while its first bytes are copied. -/
def cpy (F : List Int) (j : Nat) : List Int := F.take j ++ List.replicate (24 - j) 0
theorem cpy_len {F : List Int} (h : F.length = 24) {j : Nat} (hj : j ≤ 24) : (cpy F j).length = 24 := by simp [cpy, h]; omega
theorem cpy_set {F : List Int} (h : F.length = 24) {j : Nat} (hj : j < 24) : (cpy F j).set j (byteAt F j) = cpy F (j + 1) := by
  have hl : (F.take j).length = j := by rw [List.length_take, h]; omega
  unfold cpy
  obtain ⟨d, hd⟩ : ∃ d, 24 - j = d + 1 := ⟨24 - j - 1, by omega⟩
  rw [hd, List.replicate_succ, List.set_append_right _ _ (by omega), hl, Nat.sub_self, List.set_cons_zero, show 24 - (j + 1) = d by omega]
  unfold byteAt
  rw [List.getElem?_eq_getElem (by omega), List.take_succ_eq_append_getElem (show j < F.length by omega), List.append_assoc]
  rfl
theorem cpy_24 {F : List Int} (h : F.length = 24) : cpy F 24 = F := by simp [cpy, List.take_of_length_le, h]
theorem Tryz.infoRefTel : (Tryz.prog.info? 107).map (fun i => (i.zero, i.size, i.bytes)) = some (some (.agg #[.int .i64 0, .int .i64 0, .int .i64 0, .int .i64 0, .int .i64 0, .int .i64 0]), 6, 48) := by kernel_rfl

set_option maxRecDepth 100000 in
set_option maxHeartbeats 12800000 in
theorem refReceived_all (S : List Int) (a : Option Addr) (n cp : Nat) (hm : n ≤ 12288) (w : World) (hA : AnyBytes w a n S) :
    Calls Tryz.prog 80 #[.slice a n cp] w fun e w' =>
      ∃ v1 v2, e = .returned (.tuple #[v1, v2, .int .i64 0]) ∧ w'.ownsRow w.heap.size 107 6 v1 (rcvL S n).length ((rcvL S n).flatMap Tel.val) ∧ w'.ownsRow w.heap.size 70 2 v2 (rcvP S n).length ((rcvP S n).flatMap qval) ∧ Below w.heap.size w w' := by
  obtain ⟨i0, hi, hz0, hz1, hz2⟩ := info_parts Tryz.infoRefTel
  obtain ⟨j0, hj, hy0, hy1, hy2⟩ := info_parts Tryz.infoSpan
  have HA := Lib.hid hA
  have i1 : ((n : Int) ≤ 12288) := by omega
  have hi36 : (Tryz.prog.info? 108).map (·.size) = some 24 := size24
  clear hA
  go_enter Tryz.func80, Tryz.ntmps80
  go_wp2
  go_loopw [5, 6, 7] (fun out sk i wr => ∃ (k : Nat) (ts : List Tel) (sp : List (Int × Int)), i = .int .i64 k ∧ k ≤ n + 23 ∧ ts.length ≤ k ∧ sp.length ≤ k ∧ Hid (rcv S n n k ts sp = rcv S n n 0 [] []) ∧
      wr.ownsRow w.heap.size 107 6 out ts.length (ts.flatMap Tel.val) ∧ wr.ownsRow w.heap.size 70 2 sk sp.length (sp.flatMap qval) ∧ Below w.heap.size w wr)
    (fun _ _ i _ => n - (intOf i).toNat)
  case atStart => exact ⟨0, [], [], rfl, by omega, by simp, by simp, Lib.hid rfl, World.ownsRow_nil _ _ _ _, World.ownsRow_nil _ _ _ _, Below.refl _ _⟩
  case round =>
    obtain ⟨k, ts, sp, rfl, hk, hts, hsp, hr, hown, hsk, hnx⟩ := hrel
    have hsz : w.heap.size ≤ wr.heap.size := hnx.size
    by_cases hlt : k < n
    · have h4 : (k : Int) < (n : Int) := by omega
      have h5 : k ≤ 12311 := by omega
      have h6 : (k : Int) ≤ 12311 := by omega
      obtain ⟨b, q, rfl, hb, hc⟩ := HA.out.2 k hlt
      have hS := HA.out.1
      have hb2 : b < wr.heap.size := by omega
      have hc2 : wr.rangeAt b q (S.map (Value.int .u8)) := fun i v hv => by rw [hnx.cell (by exact hb)]; exact hc i v hv
      by_cases ho : okAt S n k = true
      · have h24 : k + 24 ≤ n := by
          unfold okAt at ho
          split at ho
          · assumption
          · cases ho
        have hF := streamAt_bytes hS h24
        have hE : decErr (streamAt S k) = 0 := by
          unfold okAt at ho
          rw [if_pos h24] at ho
          simpa using ho
        have ht : telAt S n k = decTel (streamAt S k) := by unfold telAt; rw [if_pos h24]
        have hstep := rcv_hit (ts := ts) (sp := sp) hlt ho
        have KD := Lib.hid (fun w1 => refDecode_all (streamAt S k) hF w1)
        obtain ⟨t, ht2⟩ : ∃ t, decTel (streamAt S k) = t := ⟨_, rfl⟩
        rw [ht, ht2] at hstep
        rw [hE, ht2] at KD
        unfold Tel.agg at KD
        have hcell : ∀ j, j < 24 → wr.cell? ⟨b, q + (k + j), none⟩ = some (.int .u8 (byteAt (streamAt S k) j)) := fun j hj => by
          refine hc2 (k + j) _ ?_
          have hj2 : k + j < S.length := by rw [hS.1]; omega
          unfold byteAt streamAt
          rw [List.getElem?_map, List.getElem?_take_of_lt hj, List.getElem?_drop, List.getElem?_eq_getElem hj2]; rfl
        obtain ⟨F, hFF⟩ : ∃ F, streamAt S k = F := ⟨_, rfl⟩
        rw [hFF] at hF hcell KD
        have hl := hF.1
        have HST : Hid (rcv S n n (k + 24) (ts ++ [t]) sp = rcv S n n 0 [] []) := Lib.hid (hstep.symm.trans hr.out)
        have HFL := Lib.hid (flat_snoc ts t)
        obtain ⟨Ft, hFt⟩ : ∃ F, ts.flatMap Tel.val = F := ⟨_, rfl⟩
        obtain ⟨G, hG⟩ : ∃ G, sp.flatMap qval = G := ⟨_, rfl⟩
        obtain ⟨m1, hm1⟩ : ∃ m, ts.length = m := ⟨_, rfl⟩
        obtain ⟨m2, hm2⟩ : ∃ m, sp.length = m := ⟨_, rfl⟩
        rw [hFt] at HFL
        rw [hFt, hm1] at hown
        rw [hG, hm2] at hsk
        rw [hm1] at hts
        rw [hm2] at hsp
        have HM := Lib.hid (And.intro hm1 (And.intro hm2 hG))
        have HSK := Lib.hid hsk
        have HOWN := Lib.hid hown
        have HNX := Lib.hid hnx
        have HCELL := Lib.hid hcell
        have HL := Lib.hid hl
        have hn24 : (k : Int) + 24 ≤ (n : Int) := by omega
        clear ho ht ht2 hE hstep hr hc hc2 hS hF hFF hFt hG hm1 hm2 hsk hown hnx HA hcell hl
        go_wp2_with fail
        obtain ⟨W0, hW0⟩ : ∃ W0, wr.alloc (.cells ((List.replicate 24 (Value.int .u8 0)).toArray) 108) = W0 := ⟨_, rfl⟩
        have hk0 : HasBlk W0 wr.heap.size 108 (cpy F 0) := by
          rw [← hW0]
          have h := heap_alloc_new wr (.cells ((List.replicate 24 (Value.int .u8 0)).toArray) 108)
          simpa [HasBlk, cpy, List.replicate] using h
        have hB0 : Below wr.heap.size wr W0 := by rw [← hW0]; exact (Below.refl _ wr).alloc (Nat.le_refl _) _
        have hz00 : W0.heap.size = wr.heap.size + 1 := by rw [← hW0]; simp
        simp only [List.replicate] at hW0
        rw [hW0]
        have HZ0 := Lib.hid hz00
        have HB0 := Lib.hid hB0
        have HK0 := Lib.hid hk0
        clear hW0 hz00 hB0 hk0
        obtain ⟨wo, hwo⟩ : ∃ wo : World, wo = wr := ⟨_, rfl⟩
        subst hwo
        go_loopw [9] (fun i wI => ∃ j : Nat, j ≤ 24 ∧ i = .int .i64 j ∧ HasBlk wI wo.heap.size 108 (cpy F j) ∧ OnlyBlk W0 wI wo.heap.size)
          (fun i _ => 24 - (intOf i).toNat)
        case atStart => exact ⟨0, Nat.zero_le _, rfl, HK0.out, ⟨⟨rfl, rfl, rfl, Nat.le_refl _, fun _ _ _ => rfl⟩, rfl⟩⟩
        case round =>
          obtain ⟨j, hj, rfl, hkj, hoj⟩ := hrel
          by_cases hj24 : j < 24
          · have hs := cpy_set HL.out hj24
            have hc1 : wr.cell? ⟨b, q + (k + j), none⟩ = some (.int .u8 (byteAt F j)) := hoj.cell ((HB0.out.cell (p := ⟨b, q + (k + j), none⟩) hb2).trans (HCELL.out j hj24)) (by omega)
            have hc3 := hkj.cell (j := j) (v := (cpy F j)[j]?.getD 0) (by rw [List.getElem?_eq_getElem (by rw [cpy_len HL.out hj]; exact hj24)]; rfl)
            have hf3 := hkj.frozen j
            have HKN : Hid (HasBlk (wr.setCell ⟨wo.heap.size, j, none⟩ (.int .u8 (byteAt F j))) wo.heap.size 108 (cpy F (j + 1))) := Lib.hid (by rw [← hs]; exact hkj.set _ _)
            have HON := Lib.hid (hoj.trans (OnlyBlk.set wr wo.heap.size j (.int .u8 (byteAt F j))))
            obtain ⟨x, hx⟩ : ∃ x, byteAt F j = x := ⟨_, rfl⟩
            rw [hx] at hc1 HKN HON
            have g1 : (j : Int) < 24 := by omega
            have g2 : (k : Int) + (j : Int) < (n : Int) := by omega
            have g3 : (0 : Int) ≤ (k : Int) + (j : Int) := by omega
            have g4 : ((k : Int) + (j : Int)).toNat = k + j := by omega
            clear hs hkj hoj hx
            go_wp2_with fail
            go_roundw
            case rel => exact ⟨j + 1, by omega, by go_num, HKN.out, HON.out⟩
            case measure => simp [intOf]; omega
          · obtain rfl : j = 24 := by omega
            rw [cpy_24 HL.out] at hkj
            obtain ⟨V, hV⟩ : ∃ V, F.map (Value.int .u8) = V := ⟨_, rfl⟩
            have HKJ : Hid (wr.heap[wo.heap.size]? = some (.cells V.toArray 108 (0, 0))) := Lib.hid (by rw [← hV]; exact hkj)
            have V24 : V.length = 24 := by rw [← hV, List.length_map]; exact HL.out
            rw [hV] at KD
            have ho1 := (owns_kept HOWN.out HB0.out (Nat.le_refl _)).kept hoj.1 (.inr fun e => absurd (HOWN.out.lt _ e).2 (Nat.lt_irrefl _))
            have hs1 := (owns_kept HSK.out HB0.out (Nat.le_refl _)).kept hoj.1 (.inr fun e => absurd (HSK.out.lt _ e).2 (Nat.lt_irrefl _))
            have hB1 : Below w.heap.size w wr := (HNX.out.trans (HB0.out.mono hsz)).trans (hoj.below (by have := HZ0.out; omega) hsz)
            have hsz1 := hB1.size
            have HO1 := Lib.hid ho1
            have HS1 := Lib.hid hs1
            have HB1 := Lib.hid hB1
            have hiV : (Tryz.prog.info? 108).map (·.size) = some V.toArray.size := by rw [size24]; simp [V24]
            clear hkj hoj hV V24 ho1 hs1 hB1 HCELL hi36
            go_wp2_with (first
              | (refine wpList_load_row rfl 108 (.tmp 8) rfl wo.heap.size rfl 108 _ (0, 0) _ HKJ.out Tryz.underlying108 rfl hiV ?_)
              | (go_at_call 79; refine (KD.out _).mono ?_; rintro e w2 ⟨rfl, hbd⟩
                 have hown2 := owns_kept HO1.out hbd (Nat.le_refl _)
                 have hsk2 := owns_kept HS1.out hbd (Nat.le_refl _)
                 have HSK2 := Lib.hid hsk2
                 have hs2 := hbd.size
                 clear hsk2)
              | (at_builtin; refine wpList_append_own _ rfl (.tmp 44) (.tmp 46) 123 rfl w.heap.size 107 i0 (.agg #[.int .i64 0, .int .i64 0, .int .i64 0, .int .i64 0, .int .i64 0, .int .i64 0]) 6 48 Tryz.underlying123 hi hz0 hz1 hz2 rfl (by decide) _ m1 _ rfl ((hown2.alloc _).alloc _) ⟨w2.heap.size + 1, 0, none⟩ 1 1 t.val rfl rfl (cells_new6' _ _ _ _ _ _ _ _ _) (by intro u hu; simp [Tel.val] at hu; rcases hu with rfl | rfl | rfl | rfl | rfl | rfl <;> rfl) (by unfold maxLen; omega) (by omega) (by simp; omega) ?_; intro v' w3 hown3 hgrow3 _))
            have hlt' := hown2.lt
            have hB2 : Below w.heap.size w w2 := HB1.out.trans (hbd.mono hsz1)
            have hskE := ((HSK2.out.alloc (.cells #[.int .i64 t.s, .int .i64 t.c, .int .i64 t.o, .int .i64 t.x, .int .i64 t.y, .int .i64 t.z] 107)).alloc (.cells #[.int .i64 t.s, .int .i64 t.c, .int .i64 t.o, .int .i64 t.x, .int .i64 t.y, .int .i64 t.z] 107)).kept hgrow3 (own_ne HSK2.out hown2 (by decide))
            go_roundw
            case rel => exact ⟨k + 24, ts ++ [t], sp, by go_num, by omega, by rw [List.length_append, HM.out.1]; simp; omega, by rw [HM.out.2.1]; omega, HST, by rw [List.length_append, HM.out.1, HFL.out]; exact hown3, by rw [HM.out.2.1, HM.out.2.2]; exact hskE, ((hB2.alloc (by omega) _).alloc (by simp; omega) _).grown hgrow3 (by simp; omega) (fun j hj => (hlt' j hj).1)⟩
            case measure => simp [intOf]; omega
      · have ho := Bool.eq_false_iff.2 ho
        have hstep := rcv_miss (ts := ts) (sp := sp) hlt ho
        have HST : Hid (rcv S n n (k + 1) ts (extL sp k) = rcv S n n 0 [] []) := Lib.hid (hstep.symm.trans hr.out)
        have hD : Hid (k + 24 ≤ n → Bytes24 (streamAt S k) ∧ decErr (streamAt S k) ≠ 0 ∧ ∀ j, j < 24 → wr.cell? ⟨b, q + (k + j), none⟩ = some (.int .u8 (byteAt (streamAt S k) j))) := Lib.hid fun h24 => by
          refine ⟨streamAt_bytes hS h24, ?_, fun j hj => ?_⟩
          · unfold okAt at ho
            rw [if_pos h24] at ho
            simpa using ho
          · refine hc2 (k + j) _ ?_
            have hj2 : k + j < S.length := by rw [hS.1]; omega
            unfold byteAt streamAt
            rw [List.getElem?_map, List.getElem?_take_of_lt hj, List.getElem?_drop, List.getElem?_eq_getElem hj2]; rfl
        obtain ⟨Ft, hFt⟩ : ∃ F, ts.flatMap Tel.val = F := ⟨_, rfl⟩
        obtain ⟨m1, hm1⟩ : ∃ m, ts.length = m := ⟨_, rfl⟩
        rw [hFt, hm1] at hown
        rw [hm1] at hts
        have HM := Lib.hid (And.intro hm1 hFt)
        have HSK := Lib.hid hsk
        have HOWN := Lib.hid hown
        have HNX := Lib.hid hnx
        clear ho hstep hr hc hc2 hS hFt hm1 hsk hown hnx HA
        go_upto_if 24 with fail
        go_cut [5, 7] (fun s5 s7 wc => s7 = .int .i64 k ∧ ∃ W2, W2 = wc ∧ wc.ownsRow w.heap.size 107 6 s5 m1 Ft ∧ wc.ownsRow w.heap.size 70 2 u6 sp.length (sp.flatMap qval) ∧ Below w.heap.size w wc)
        case first =>
          by_cases h24 : k + 24 ≤ n
          · obtain ⟨hF, hE, hcell⟩ := hD.out h24
            have KD := Lib.hid (fun w1 => refDecode_all (streamAt S k) hF w1)
            obtain ⟨F, hFF⟩ : ∃ F, streamAt S k = F := ⟨_, rfl⟩
            rw [hFF] at hF hcell KD hE
            obtain ⟨t, ht2⟩ : ∃ t, decTel F = t := ⟨_, rfl⟩
            obtain ⟨r, hrr⟩ : ∃ r, decErr F = r := ⟨_, rfl⟩
            rw [hrr] at hE KD
            rw [ht2] at KD
            unfold Tel.agg at KD
            have e0 : (r == 0) = false := by simp [hE]
            have hl := hF.1
            obtain ⟨m2, hm2⟩ : ∃ m, sp.length = m := ⟨_, rfl⟩
            have HCELL := Lib.hid hcell
            have HL := Lib.hid hl
            have hn24 : (k : Int) + 24 ≤ (n : Int) := by omega
            clear hF hE hFF ht2 hrr hcell hl hD
            go_wp2_with fail
            obtain ⟨W0, hW0⟩ : ∃ W0, wr.alloc (.cells ((List.replicate 24 (Value.int .u8 0)).toArray) 108) = W0 := ⟨_, rfl⟩
            have hk0 : HasBlk W0 wr.heap.size 108 (cpy F 0) := by
              rw [← hW0]
              have h := heap_alloc_new wr (.cells ((List.replicate 24 (Value.int .u8 0)).toArray) 108)
              simpa [HasBlk, cpy, List.replicate] using h
            have hB0 : Below wr.heap.size wr W0 := by rw [← hW0]; exact (Below.refl _ wr).alloc (Nat.le_refl _) _
            have hz00 : W0.heap.size = wr.heap.size + 1 := by rw [← hW0]; simp
            simp only [List.replicate] at hW0
            rw [hW0]
            have HZ0 := Lib.hid hz00
            have HB0 := Lib.hid hB0
            have HK0 := Lib.hid hk0
            clear hW0 hz00 hB0 hk0
            obtain ⟨wo, hwo⟩ : ∃ wo : World, wo = wr := ⟨_, rfl⟩
            subst hwo
            go_loopw [9] (fun i wI => ∃ j : Nat, j ≤ 24 ∧ i = .int .i64 j ∧ HasBlk wI wo.heap.size 108 (cpy F j) ∧ OnlyBlk W0 wI wo.heap.size)
              (fun i _ => 24 - (intOf i).toNat)
            case atStart => exact ⟨0, Nat.zero_le _, rfl, HK0.out, ⟨⟨rfl, rfl, rfl, Nat.le_refl _, fun _ _ _ => rfl⟩, rfl⟩⟩
            case round =>
              obtain ⟨j, hj, rfl, hkj, hoj⟩ := hrel
              by_cases hj24 : j < 24
              · have hs := cpy_set HL.out hj24
                have hc1 : wr.cell? ⟨b, q + (k + j), none⟩ = some (.int .u8 (byteAt F j)) := hoj.cell ((HB0.out.cell (p := ⟨b, q + (k + j), none⟩) hb2).trans (HCELL.out j hj24)) (by omega)
                have hc3 := hkj.cell (j := j) (v := (cpy F j)[j]?.getD 0) (by rw [List.getElem?_eq_getElem (by rw [cpy_len HL.out hj]; exact hj24)]; rfl)
                have hf3 := hkj.frozen j
                have HKN : Hid (HasBlk (wr.setCell ⟨wo.heap.size, j, none⟩ (.int .u8 (byteAt F j))) wo.heap.size 108 (cpy F (j + 1))) := Lib.hid (by rw [← hs]; exact hkj.set _ _)
                have HON := Lib.hid (hoj.trans (OnlyBlk.set wr wo.heap.size j (.int .u8 (byteAt F j))))
                obtain ⟨x, hx⟩ : ∃ x, byteAt F j = x := ⟨_, rfl⟩
                rw [hx] at hc1 HKN HON
                have g1 : (j : Int) < 24 := by omega
                have g2 : (k : Int) + (j : Int) < (n : Int) := by omega
                have g3 : (0 : Int) ≤ (k : Int) + (j : Int) := by omega
                have g4 : ((k : Int) + (j : Int)).toNat = k + j := by omega
                clear hs hkj hoj hx
                go_wp2_with fail
                go_roundw
                case rel => exact ⟨j + 1, by omega, by go_num, HKN.out, HON.out⟩
                case measure => simp [intOf]; omega
              · obtain rfl : j = 24 := by omega
                rw [cpy_24 HL.out] at hkj
                obtain ⟨V, hV⟩ : ∃ V, F.map (Value.int .u8) = V := ⟨_, rfl⟩
                have HKJ : Hid (wr.heap[wo.heap.size]? = some (.cells V.toArray 108 (0, 0))) := Lib.hid (by rw [← hV]; exact hkj)
                have V24 : V.length = 24 := by rw [← hV, List.length_map]; exact HL.out
                rw [hV] at KD
                have ho1 := (owns_kept HOWN.out HB0.out (Nat.le_refl _)).kept hoj.1 (.inr fun e => absurd (HOWN.out.lt _ e).2 (Nat.lt_irrefl _))
                have hs1 := (owns_kept HSK.out HB0.out (Nat.le_refl _)).kept hoj.1 (.inr fun e => absurd (HSK.out.lt _ e).2 (Nat.lt_irrefl _))
                have hB1 : Below w.heap.size w wr := (HNX.out.trans (HB0.out.mono hsz)).trans (hoj.below (by have := HZ0.out; omega) hsz)
                have hsz1 := hB1.size
                have HO1 := Lib.hid ho1
                have HS1 := Lib.hid hs1
                have HB1 := Lib.hid hB1
                have hiV : (Tryz.prog.info? 108).map (·.size) = some V.toArray.size := by rw [size24]; simp [V24]
                clear hkj hoj hV V24 ho1 hs1 hB1 HCELL hi36
                go_wp2_with (first
                  | (refine wpList_load_row rfl 108 (.tmp 8) rfl wo.heap.size rfl 108 _ (0, 0) _ HKJ.out Tryz.underlying108 rfl hiV ?_)
                  | (go_at_call 79; refine (KD.out _).mono ?_; rintro e w2 ⟨rfl, hbd⟩
                     have HOWN2 := Lib.hid (owns_kept HO1.out hbd (Nat.le_refl _))
                     have HSK2 := Lib.hid (owns_kept HS1.out hbd (Nat.le_refl _))
                     have hs2 := hbd.size))
                have hB2 : Below w.heap.size w w2 := HB1.out.trans (hbd.mono hsz1)
                go_meet
                exact ⟨rfl, _, rfl, HOWN2.out.alloc _, HSK2.out.alloc _, hB2.alloc (by omega) _⟩
          · have hn24 : ¬ ((k : Int) + 24 ≤ (n : Int)) := by omega
            clear hD
            go_wp2_with fail
            go_meet
            exact ⟨rfl, _, rfl, HOWN.out, HSK.out, HNX.out⟩
        case rest =>
          obtain ⟨rfl, W2, rfl, hO2, hS2, hB2⟩ := hcut
          have hlen2 : sp.length ≤ 12311 := by omega
          have HNE := Lib.hid (own_ne hO2 hS2 (by decide))
          have HO2 := Lib.hid hO2
          have HB2 := Lib.hid hB2
          have hsz2 := hB2.size
          have hxl := extL_len sp k
          have hltS := hS2.lt
          by_cases h : sp.length ≠ 0 ∧ (sp[sp.length - 1]?.getD (0, 0)).2 = k
          · have hX : extL sp k = sp.set (sp.length - 1) ((sp[sp.length - 1]?.getD (0, 0)).1, (k : Int) + 1) := by unfold extL; rw [if_pos h]
            obtain ⟨g, c, rfl, hgl, hgB⟩ := owns_some hS2 (by omega)
            obtain ⟨m, hm'⟩ : ∃ m, sp.length = m + 1 := ⟨sp.length - 1, by omega⟩
            have hc1 := (flat_at2 sp m (by omega)).2
            have hs := flat_set2 sp m ((k : Int) + 1) (by omega)
            have e2 : (sp[m]?.getD (0, 0)).2 = k := by have := h.2; rwa [hm', Nat.add_sub_cancel] at this
            rw [e2] at hc1
            have c1 : W2.cell? ⟨g, m * 2 + 1, none⟩ = some (.int .i64 k) := by
              have h := hS2.cells (g := g) rfl (m * 2 + 1) _ hc1
              rwa [Addr.add_mid, Nat.zero_add] at h
            have f1 := hS2.frozenAt (m * 2 + 1)
            have hst := (hS2.stored (m * 2 + 1) (.int .i64 ((k : Int) + 1))).1
            rw [hs] at hst
            have hXl : (extL sp k).length = m + 1 := by rw [hX, List.length_set, hm']
            rw [hm', Nat.add_sub_cancel] at hX
            rw [← hX, hm'] at hst
            have HXL := Lib.hid hXl
            have HST2 := Lib.hid hst
            have HOE := Lib.hid (HO2.out.kept (OnlyBlk.set W2 g (m * 2 + 1) (.int .i64 ((k : Int) + 1))).1 HNE.out)
            have HBE := Lib.hid (HB2.out.setCell (p := ⟨g, m * 2 + 1, none⟩) hgB (.int .i64 ((k : Int) + 1)))
            have k0 : (0 : Int) ≤ (m : Int) := by omega
            have k1 : (m : Int) < (m : Int) + 1 := by omega
            have k2 : ((k : Int) == k) = true := by simp
            have k3 : (m : Int) ≤ 13000 := by omega
            rw [hm'] at hxl hsp
            obtain ⟨X, hXX⟩ : ∃ X, extL sp k = X := ⟨_, rfl⟩
            rw [hXX] at HXL HST2 HST hxl
            rw [hm']
            clear h hX hS2 hc1 hs e2 hst hm' hXX hXl hlen2 hltS hO2 hB2 HNE HSK HOWN hD hxl
            go_wp2_with fail
            go_roundw
            case rel => exact ⟨k + 1, ts, X, by go_num, by omega, by rw [HM.out.1]; omega, by rw [HXL.out]; omega, HST, by rw [HM.out.1, HM.out.2]; exact HOE.out, by rw [HXL.out]; exact HST2.out, HBE.out⟩
            case measure => simp [intOf]; omega
          · have hX : extL sp k = sp ++ [((k : Int), (k : Int) + 1)] := by unfold extL; rw [if_neg h]
            have hF : (extL sp k).flatMap qval = sp.flatMap qval ++ [.int .i64 (k : Int), .int .i64 ((k : Int) + 1)] := by rw [hX]; simp [qval]
            have hL : (extL sp k).length = sp.length + 1 := by rw [hX]; simp
            obtain ⟨X, hXX⟩ : ∃ X, extL sp k = X := ⟨_, rfl⟩
            rw [hXX] at hF hL HST
            by_cases h0 : sp.length = 0
            · obtain ⟨Fs, hFl⟩ : ∃ F, sp.flatMap qval = F := ⟨_, rfl⟩
              rw [hFl, h0] at hS2
              rw [hFl] at hF
              rw [h0] at hL
              obtain ⟨aa, c, rfl⟩ := nil_slice hS2
              have HF := Lib.hid hF
              have HL2 := Lib.hid hL
              clear h h0 hX hXX hFl hF hL hO2 hB2 hlen2 hltS HSK HOWN hD hxl
              go_wp2_with (at_builtin; refine wpList_append_own _ rfl (.tmp 71) (.tmp 76) 116 rfl w.heap.size 70 j0 (.agg #[.int .i64 0, .int .i64 0]) 2 16 Tryz.underlying116 hj hy0 hy1 hy2 rfl (by decide) _ 0 _ rfl (hS2.alloc _) ⟨W2.heap.size, 0, none⟩ 1 1 [.int .i64 (k : Int), .int .i64 ((k : Int) + 1)] rfl rfl (cells_newQ _ _ _ _) (by intro u hu; simp at hu; rcases hu with rfl | rfl <;> rfl) (by unfold maxLen; omega) (by omega) (by simp; omega) ?_; intro v' w3 hown3 hgrow3 _)
              have hlt' := hS2.lt
              have hoE := (HO2.out.alloc (.cells #[.int .i64 (k : Int), .int .i64 ((k : Int) + 1)] 70)).kept hgrow3 HNE.out
              go_roundw
              case rel => exact ⟨k + 1, ts, X, by go_num, by omega, by rw [HM.out.1]; omega, by rw [HL2.out]; omega, HST, by rw [HM.out.1, HM.out.2]; exact hoE, by rw [HL2.out, HF.out]; exact hown3, (HB2.out.alloc (by omega) _).grown hgrow3 (by simp; omega) (fun j hj => (hlt' j hj).1)⟩
              case measure => simp [intOf]; omega
            · obtain ⟨g, c, rfl, hgl, hgB⟩ := owns_some hS2 (by omega)
              obtain ⟨m, hm'⟩ : ∃ m, sp.length = m + 1 := ⟨sp.length - 1, by omega⟩
              have hc1 := (flat_at2 sp m (by omega)).2
              obtain ⟨x, hx⟩ : ∃ x, (sp[m]?.getD (0, 0)).2 = x := ⟨_, rfl⟩
              have e2 : x ≠ k := fun e => h ⟨h0, by rw [hm', Nat.add_sub_cancel, hx]; exact e⟩
              rw [hx] at hc1
              have c1 : W2.cell? ⟨g, m * 2 + 1, none⟩ = some (.int .i64 x) := by
                have h := hS2.cells (g := g) rfl (m * 2 + 1) _ hc1
                rwa [Addr.add_mid, Nat.zero_add] at h
              obtain ⟨Fs, hFl⟩ : ∃ F, sp.flatMap qval = F := ⟨_, rfl⟩
              rw [hFl, hm'] at hS2
              rw [hFl] at hF
              rw [hm'] at hL hsp
              have HF := Lib.hid hF
              have HL2 := Lib.hid hL
              have k0 : (0 : Int) ≤ (m : Int) := by omega
              have k1 : (m : Int) < (m : Int) + 1 := by omega
              have k2 : (x == (k : Int)) = false := by simp [e2]
              have k3 : (m : Int) ≤ 13000 := by omega
              have k5 : m ≤ 13000 := by omega
              have HS2 := Lib.hid hS2
              rw [hm']
              clear h h0 hX hXX hFl hF hL hO2 hB2 hlen2 hltS HSK HOWN hD hxl hm' hc1 hx e2 hS2
              go_wp2_with (at_builtin; refine wpList_append_own _ rfl (.tmp 71) (.tmp 76) 116 rfl w.heap.size 70 j0 (.agg #[.int .i64 0, .int .i64 0]) 2 16 Tryz.underlying116 hj hy0 hy1 hy2 rfl (by decide) _ (m + 1) _ rfl (HS2.out.alloc _) ⟨W2.heap.size, 0, none⟩ 1 1 [.int .i64 (k : Int), .int .i64 ((k : Int) + 1)] rfl rfl (cells_newQ _ _ _ _) (by intro u hu; simp at hu; rcases hu with rfl | rfl <;> rfl) (by unfold maxLen; omega) (by omega) (by simp; omega) ?_; intro v' w3 hown3 hgrow3 _)
              have hlt' := HS2.out.lt
              have hoE := (HO2.out.alloc (.cells #[.int .i64 (k : Int), .int .i64 ((k : Int) + 1)] 70)).kept hgrow3 HNE.out
              go_roundw
              case rel => exact ⟨k + 1, ts, X, by go_num, by omega, by rw [HM.out.1]; omega, by rw [HL2.out]; omega, HST, by rw [HM.out.1, HM.out.2]; exact hoE, by rw [HL2.out, HF.out]; exact hown3, (HB2.out.alloc (by omega) _).grown hgrow3 (by simp; omega) (fun j hj => (hlt' j hj).1)⟩
              case measure => simp [intOf]; omega
    · have h4 : ¬ ((k : Int) < (n : Int)) := by omega
      have he := rcv_end (S := S) (ts := ts) (sp := sp) (show n ≤ k by omega)
      have e1 : rcvL S n = ts := by unfold rcvL; rw [← hr.out, he]
      have e2 : rcvP S n = sp := by unfold rcvP; rw [← hr.out, he]
      rw [← e1] at hown
      rw [← e2] at hsk
      have HO := Lib.hid hown
      have HK := Lib.hid hsk
      have HX := Lib.hid hnx
      clear he e1 e2 hown hsk hnx hr
      go_wp2
      refine bodyPost_ret (v := .tuple #[u5, u6, .int .i64 0]) (by simp [results, Tryz.results80, go_sem]) rfl ⟨_, _, rfl, HO.out, HK.out, HX.out⟩
end Go.Proofs.YtfdkmmllemkogaaGreatDoor

/-
  Contract of Encode for every telegram.
-/
namespace Go.Proofs.YtfdkmmllemkogaaGreatDoor
open Go.RowKit
set_option linter.unusedVariables false
set_option linter.unusedSimpArgs false

def zero24 : List Int := List.replicate 24 0
theorem zero24_len : zero24.length = 24 := rfl

set_option maxRecDepth 100000 in
set_option maxHeartbeats 3200000 in
theorem encode_bad (s c o x y z : Int) (h : ¬ GoodT s c o x y z) (w : World) :
    Calls Tryz.prog 74 #[.agg #[.int .i64 s, .int .i64 c, .int .i64 o, .int .i64 x, .int .i64 y, .int .i64 z]] w fun e w' =>
      e = .returned (.tuple #[.agg (zero24.map (Value.int .u8)).toArray, .int .i64 3]) ∧ Below w.heap.size w w' := by
  have K1 := Lib.hid (checkTelegram_all s c o x y z)
  rw [telErr_bad h] at K1
  clear h
  go_enter Tryz.func74, Tryz.ntmps74
  go_wp2_with fail
  refine (K1.out _).mono ?_
  rintro e w1 ⟨rfl, hb1⟩
  have b0 : w1.cell? ⟨w.heap.size, 0, none⟩ = some (.int .i64 s) := by rw [hb1.cell (by simp; try omega)]; simp [go_sem]
  have b1 : w1.cell? ⟨w.heap.size, 1, none⟩ = some (.int .i64 c) := by rw [hb1.cell (by simp; try omega)]; simp [go_sem]
  have b2 : w1.cell? ⟨w.heap.size, 2, none⟩ = some (.int .i64 o) := by rw [hb1.cell (by simp; try omega)]; simp [go_sem]
  have b3 : w1.cell? ⟨w.heap.size, 3, none⟩ = some (.int .i64 x) := by rw [hb1.cell (by simp; try omega)]; simp [go_sem]
  have b4 : w1.cell? ⟨w.heap.size, 4, none⟩ = some (.int .i64 y) := by rw [hb1.cell (by simp; try omega)]; simp [go_sem]
  have b5 : w1.cell? ⟨w.heap.size, 5, none⟩ = some (.int .i64 z) := by rw [hb1.cell (by simp; try omega)]; simp [go_sem]
  have r1 : w1.heap[w.heap.size + 1]? = some (.cells ((List.replicate 24 (Value.int .u8 0)).toArray) 108 (0, 0)) := by
    refine (hb1.block _ (by simp)).trans ?_
    exact heap_alloc2_new w _ _
  have hB : Below w.heap.size w w1 := (((Below.refl _ w).alloc (Nat.le_refl _) _).alloc (by simp) _).trans (hb1.mono (by simp; omega))
  have hs : w.heap.size + 1 < w1.heap.size := (Array.getElem?_eq_some_iff.1 r1).1
  have R1 := Lib.hid r1
  have HB := Lib.hid hB
  clear hb1 r1 hB
  clear b0 b1 b2 b3 b4 b5
  go_wp2_with (refine wpList_store_row rfl 108 (.tmp 2) (.tmp 9) rfl (w.heap.size + 1) rfl _ rfl 108 _ R1.out ?i2 ?i3 ?i4 ?_)
  case i2 => simp [frame_len]
  case i3 => rw [size24]; simp [frame_len]
  case i4 => first | (intro v hv; rfl) | rfl
  go_wp2
  refine bodyPost_ret (results_row_tmp Tryz.results74 _ _ (w.heap.size + 1) 108 _ (0, 0) _ rfl (setRow_heap w1 _ _ _ _ _ R1.out) Tryz.underlying108 rfl (by rw [size24]; simp [frame_len])) rfl ⟨rfl, ?_⟩
  exact HB.out.trans ((OnlyBlk.setRow w1 (w.heap.size + 1) _).below HB.out.size (by omega))

open Classical in
/-- What Encode returns. -/
noncomputable def encL (t : Tel) : List Int := if t.Good then frame t.s t.c t.o t.x t.y t.z else zero24
theorem encL_good {t : Tel} (h : t.Good) : encL t = frame t.s t.c t.o t.x t.y t.z := by unfold encL; simp [h]
theorem encL_bad {t : Tel} (h : ¬ t.Good) : encL t = zero24 := by unfold encL; simp [h]
theorem encL_len (t : Tel) : (encL t).length = 24 := by
  by_cases h : t.Good
  · rw [encL_good h]; rfl
  · rw [encL_bad h]; rfl
theorem encode_all (t : Tel) (w : World) :
    Calls Tryz.prog 74 #[.agg #[.int .i64 t.s, .int .i64 t.c, .int .i64 t.o, .int .i64 t.x, .int .i64 t.y, .int .i64 t.z]] w fun e w' => e = .returned (.tuple #[.agg ((encL t).map (Value.int .u8)).toArray, .int .i64 t.err]) ∧ Below w.heap.size w w' := by
  by_cases h : t.Good
  · have he : t.err = 0 := telErr_good h
    rw [encL_good h, he]
    exact encode_any _ _ _ _ _ _ h w
  · have he : t.err = 3 := telErr_bad h
    rw [encL_bad h, he]
    exact encode_bad _ _ _ _ _ _ h w
end Go.Proofs.YtfdkmmllemkogaaGreatDoor

/-
  Contract of the reference's Encode, for right telegrams.
-/
namespace Go.Proofs.YtfdkmmllemkogaaGreatDoor
open Go.RowKit
set_option linter.unusedVariables false
set_option linter.unusedSimpArgs false

/-- A value owns these bytes. -/
def Bts (w : World) (B : Nat) (v : Value) (L : List Int) : Prop := w.ownsRow B 5 1 v L.length (L.map (Value.int .u8))
theorem Bts.lit (w : World) (B : Nat) (hB : B ≤ w.heap.size) (a b : Int) : Bts (w.alloc (.cells #[.int .u8 a, .int .u8 b] 5)) B (.slice (some ⟨w.heap.size, 0, none⟩) 2 2) [a, b] :=
  ⟨rfl, .inr ⟨w.heap.size, 2, #[.int .u8 a, .int .u8 b], rfl, hB, blk_alloc_new _ _, Nat.le_refl 2, by unfold maxLen; omega, rfl, rfl⟩⟩
theorem Bts.news {w : World} {B : Nat} {g c n : Nat} {L : List Int} (h : w.ownsRow B 5 1 (.slice (some ⟨g, 0, none⟩) n c) n (L.map (Value.int .u8))) : ∀ j u, (L.map (Value.int .u8))[j]? = some u → w.cell? ((⟨g, 0, none⟩ : Addr).add j) = some u := h.cells (g := g) rfl
theorem one_u8 (L : List Int) : ∀ u ∈ L.map (Value.int .u8), u.oneCell' = true := by
  intro u hu
  obtain ⟨x, _, rfl⟩ := List.mem_map.1 hu
  rfl

theorem refParts_any (x y z : Int) (w : World) :
    Calls Tryz.prog 168 #[.agg #[.int .i64 x, .int .i64 y, .int .i64 z]] w fun e w' => ∃ g, e = .returned (.slice (some ⟨g, 0, none⟩) 3 3) ∧ w'.ownsRow w.heap.size 3 1 (.slice (some ⟨g, 0, none⟩) 3 3) 3 [.int .i64 x, .int .i64 y, .int .i64 z] ∧ Below w.heap.size w w' := by
  go_enter Tryz.func168, Tryz.ntmps168
  go_wp2
  go_ret
  refine ⟨w.heap.size + 1, rfl, ⟨rfl, .inr ⟨w.heap.size + 1, 3, #[.int .i64 x, .int .i64 y, .int .i64 z], rfl, by omega, heap_alloc2_new w _ _, Nat.le_refl 3, by unfold maxLen; omega, rfl, rfl⟩⟩, ((Below.refl _ w).alloc (Nat.le_refl _) _).alloc (by simp) _⟩

/-- One of the three parts of a telegram's vector, and the bytes that it lays. -/
theorem part_step (s c o x y z : Int) (k : Nat) (hk : k < 3) : ∃ v, [Value.int .i64 x, .int .i64 y, .int .i64 z][k]? = some (.int .i64 v) ∧ (v = x ∨ v = y ∨ v = z) ∧
    ((frame20 s c o x y z).take (5 + 4 * (k + 1))).map (Value.int .u8) = ((frame20 s c o x y z).take (5 + 4 * k)).map (Value.int .u8) ++ (bytesL (v + 1048576) 4 4).map (Value.int .u8) := by
  obtain rfl | rfl | rfl : k = 0 ∨ k = 1 ∨ k = 2 := by omega
  · exact ⟨x, rfl, .inl rfl, rfl⟩
  · exact ⟨y, rfl, .inr (.inl rfl), rfl⟩
  · exact ⟨z, rfl, .inr (.inr rfl), rfl⟩
theorem flip_step (s c o x y z : Int) (hs : 0 ≤ s ∧ s ≤ 255) (j : Nat) (h1 : 1 ≤ j) (hj : j < 4) : ∃ b, (((frame20 s c o x y z).take (16 + j)).map (Value.int .u8))[j]? = some (.int .u8 b) ∧ (0 ≤ b ∧ b ≤ 255) ∧
    ((frame20 s c o x y z).take (16 + (j + 1))).map (Value.int .u8) = ((frame20 s c o x y z).take (16 + j)).map (Value.int .u8) ++ [.int .u8 (255 - b)] := by
  obtain rfl | rfl | rfl : j = 1 ∨ j = 2 ∨ j = 3 := by omega
  · exact ⟨s, rfl, hs, rfl⟩
  · exact ⟨byt c 1, rfl, byt_bd _ _, rfl⟩
  · exact ⟨byt c 0, rfl, byt_bd _ _, rfl⟩
theorem frame_step (s c o x y z : Int) (j : Nat) (hj : j = 4) : (frame s c o x y z).map (Value.int .u8) = ((frame20 s c o x y z).take (16 + j)).map (Value.int .u8) ++ (bytesL (chkOf (frame20 s c o x y z)) 4 4).map (Value.int .u8) := by subst hj; rfl

set_option maxRecDepth 100000 in
set_option maxHeartbeats 12800000 in
theorem refEncode_any (s c o x y z : Int) (h : GoodT s c o x y z) (w : World) :
    Calls Tryz.prog 78 #[.agg #[.int .i64 s, .int .i64 c, .int .i64 o, .int .i64 x, .int .i64 y, .int .i64 z]] w fun e w' => e = .returned (.agg ((frame s c o x y z).map (Value.int .u8)).toArray) ∧ Below w.heap.size w w' := by
  obtain ⟨i0, hi, hz0, hz1, hz2⟩ := info_parts Tryz.infoByteH
  obtain ⟨h1, h2, h3, h4, h5, h6⟩ := h
  obtain ⟨W0, hW0⟩ : ∃ W0, (w.alloc (.cells #[.int .i64 s, .int .i64 c, .int .i64 o, .int .i64 x, .int .i64 y, .int .i64 z] 107)).alloc (.cells (List.replicate 24 (Value.int .u8 0)).toArray 108) = W0 := ⟨_, rfl⟩
  have hB0 : Below w.heap.size w W0 := by rw [← hW0]; exact ((Below.refl _ w).alloc (Nat.le_refl _) _).alloc (by simp) _
  have hz00 : W0.heap.size = w.heap.size + 2 := by rw [← hW0]; simp
  have bT : W0.heap[w.heap.size]? = some (.cells #[.int .i64 s, .int .i64 c, .int .i64 o, .int .i64 x, .int .i64 y, .int .i64 z] 107 (0, 0)) := by rw [← hW0]; exact blk_alloc_other (blk_alloc_new _ _) _
  have bR : W0.heap[w.heap.size + 1]? = some (.cells (List.replicate 24 (Value.int .u8 0)).toArray 108 (0, 0)) := by rw [← hW0]; exact heap_alloc2_new w _ _
  simp only [List.replicate] at hW0
  have a0 : W0.cell? ⟨w.heap.size, 0, none⟩ = some (.int .i64 s) := by rw [cell_of_row W0 _ 0 _ _ (0, 0) bT]; rfl
  have a2 : W0.cell? ⟨w.heap.size, 2, none⟩ = some (.int .i64 o) := by rw [cell_of_row W0 _ 2 _ _ (0, 0) bT]; rfl
  have a3 : W0.cell? ⟨w.heap.size, 3, none⟩ = some (.int .i64 x) := by rw [cell_of_row W0 _ 3 _ _ (0, 0) bT]; rfl
  have a4 : W0.cell? ⟨w.heap.size, 4, none⟩ = some (.int .i64 y) := by rw [cell_of_row W0 _ 4 _ _ (0, 0) bT]; rfl
  have a5 : W0.cell? ⟨w.heap.size, 5, none⟩ = some (.int .i64 z) := by rw [cell_of_row W0 _ 5 _ _ (0, 0) bT]; rfl
  have a1 : W0.cell? ⟨w.heap.size, 1, none⟩ = some (.int .i64 c) := by rw [cell_of_row W0 _ 1 _ _ (0, 0) bT]; rfl
  have HBT := Lib.hid bT
  have HBR := Lib.hid bR
  have HB0 := Lib.hid hB0
  have HZ0 := Lib.hid hz00
  have hlt0 : w.heap.size < W0.heap.size := by omega
  clear bT bR hB0 hz00
  have hR : Blw W0.heap.size W0 W0.drew := show Below _ _ _ from (Below.refl W0.heap.size W0).drew
  have hRa : ∀ ob : Obj, Blw W0.heap.size W0 ((W0.alloc ob).drew) := fun ob => show Below _ _ _ from ((Below.refl W0.heap.size W0).alloc (Nat.le_refl _) ob).drew
  have HS : Hid (∀ w1 : World, Below W0.heap.size W0 w1 → w1.cell? ⟨w.heap.size, 0, none⟩ = some (.int .i64 s) ∧ w1.cell? ⟨w.heap.size, 1, none⟩ = some (.int .i64 c) ∧ Blw W0.heap.size W0 w1) :=
    Lib.hid fun w1 hb => ⟨by rw [hb.cell (by show _ < W0.heap.size; omega)]; exact a0, by rw [hb.cell (by show _ < W0.heap.size; omega)]; exact a1, hb⟩
  have H4 : Hid (∀ w1 : World, Below W0.heap.size W0 w1 → w1.cell? ⟨w.heap.size, 2, none⟩ = some (.int .i64 o) ∧ w1.cell? ⟨w.heap.size, 3, none⟩ = some (.int .i64 x) ∧ w1.cell? ⟨w.heap.size, 4, none⟩ = some (.int .i64 y) ∧ w1.cell? ⟨w.heap.size, 5, none⟩ = some (.int .i64 z)) :=
    Lib.hid fun w1 hb => ⟨by rw [hb.cell (by show _ < W0.heap.size; omega)]; exact a2, by rw [hb.cell (by show _ < W0.heap.size; omega)]; exact a3, by rw [hb.cell (by show _ < W0.heap.size; omega)]; exact a4, by rw [hb.cell (by show _ < W0.heap.size; omega)]; exact a5⟩
  have HWS : Hid (IntKind.u8.wrap s = s) := Lib.hid (IntWalk.u8_in _ ⟨by omega, by omega⟩)
  clear a2 a3 a4 a5
  have KB : Hid (∀ w1 : World, Blw W0.heap.size W0 w1 → Calls Tryz.prog 167 #[.int .i64 c, .int .i64 2] w1 fun e w' => ∃ g cp, e = .returned (.slice (some ⟨g, 0, none⟩) 2 cp) ∧ w'.ownsRow w1.heap.size 5 1 (.slice (some ⟨g, 0, none⟩) 2 cp) 2 ([byt c 1, byt c 0].map (Value.int .u8)) ∧ Below w1.heap.size w1 w' ∧ Below W0.heap.size W0 w') :=
    Lib.hid fun w1 (hb : Below W0.heap.size W0 w1) => (refBytes_any c 2 h2.1 (by omega) (by omega) w1).mono fun e w' ⟨u, he, ho, hw⟩ => by
      obtain ⟨g, cp, rfl, _, _⟩ := owns_some ho (by omega)
      exact ⟨g, cp, he, ho, hw, hb.trans (hw.mono hb.size)⟩
  go_enter Tryz.func78, Tryz.ntmps78
  go_upto_region 1 with fail
  try rw [hW0]
  clear hW0
  go_cut [3] (fun s3 wr => ∃ v W1, v = s3 ∧ W1 = wr ∧ W1.ownsRow W0.heap.size 5 1 v 4 ([77, s, byt c 1, byt c 0].map (Value.int .u8)) ∧ Below W0.heap.size W0 W1)
  case first =>
    go_region_held3 (fun w' => w'.cell? ⟨w.heap.size, 0, none⟩ = some (.int .i64 s) ∧ w'.cell? ⟨w.heap.size, 1, none⟩ = some (.int .i64 c) ∧ Blw W0.heap.size W0 w')
      (first
        | exact HS.out _ hb3
        | exact HS.out _ (hb2.alloc hb2.size _)
        | exact HS.out _ hb2
        | (go_keep; done)
        | (go_split_ands; refine ⟨?_, ?_, ?_⟩ <;> first | (with_reducible assumption) | exact hRa _ | (simp [go_sem, *]; done)))
      (first
        | (go_at_call 167; refine (KB.out _ (by first | assumption | exact hRa _)).mono ?_; rintro e w2 ⟨g2, cp2, rfl, ho2, hbA, hb2⟩)
        | (refine step_append_lies _ (by rfl) (.tmp 13) (.tmp 16) 109 (by rfl) W0.heap.size 5 i0 (.int .u8 0) 1 1 Tryz.underlying109 hi hz0 hz1 hz2 (by rfl) (by omega) (.slice (some ⟨W0.heap.size, 0, none⟩) 2 2) 2 _ (by rfl) (owns_kept (Bts.lit W0 W0.heap.size (Nat.le_refl _) 77 (IntKind.u8.wrap s)).drew hbA (Nat.le_refl _)) ⟨g2, 0, none⟩ 2 cp2 ([byt c 1, byt c 0].map (Value.int .u8)) (by rfl) (by rfl) (Bts.news ho2) (one_u8 _) (by omega) (by unfold maxLen; omega) (by omega) hb2.size w2.heap.size (by rfl) ?_; intro g3 cp3 w3 ho3 hgr3 _ _; (have hb3 := hb2.grown hgr3 hb2.size (fun k hk => by cases hk; exact Nat.le_refl _)))
        | (refine step_append_lies _ (by rfl) (.tmp 13) (.tmp 16) 109 (by rfl) W0.heap.size 5 i0 (.int .u8 0) 1 1 Tryz.underlying109 hi hz0 hz1 hz2 (by rfl) (by omega) (.slice (some ⟨w2.heap.size, 0, none⟩) 2 2) 2 _ (by rfl) (Bts.lit w2 W0.heap.size hb2.size 77 (IntKind.u8.wrap s)) ⟨g2, 0, none⟩ 2 cp2 ([byt c 1, byt c 0].map (Value.int .u8)) (by rfl) (by rfl) (Bts.news (ho2.alloc _)) (one_u8 _) (by omega) (by unfold maxLen; omega) (by omega) (hb2.alloc hb2.size (.cells #[.int .u8 77, .int .u8 (IntKind.u8.wrap s)] 5)).size (w2.heap.size + 1) (by simp) ?_; intro g3 cp3 w3 ho3 hgr3 _ _; (have hb3 := (hb2.alloc hb2.size (.cells #[.int .u8 77, .int .u8 (IntKind.u8.wrap s)] 5)).grown hgr3 (hb2.alloc hb2.size (.cells #[.int .u8 77, .int .u8 (IntKind.u8.wrap s)] 5)).size (fun k hk => by cases hk; exact hb2.size))))
    all_goals go_wp2_with fail
    all_goals (go_meet; exact ⟨_, _, rfl, rfl, by rw [HWS.out] at ho3; exact ho3, hb3⟩)
  case rest =>
    obtain ⟨v1, W1, rfl, rfl, hO1, hB1⟩ := hcut
    clear KB HS hR hRa a0 a1
    have hsz1 := hB1.size
    have hlt1 := hO1.lt
    obtain ⟨c2, _, _, _⟩ := H4.out _ hB1
    obtain ⟨h3a, h3b⟩ := h3
    have KP := Lib.hid (refParts_any x y z)
    go_wp2_with (first
      | (at_builtin; (refine wpList_append_own _ rfl (.tmp 18) (.tmp 22) 109 rfl W0.heap.size 5 i0 (.int .u8 0) 1 1 Tryz.underlying109 hi hz0 hz1 hz2 rfl (by decide) _ 4 _ rfl (hO1.alloc _) ⟨W1.heap.size, 0, none⟩ 1 1 [.int .u8 o] rfl rfl (cell_one_new _ _ _) (by intro u hu; simp at hu; subst hu; rfl) (by unfold maxLen; omega) (by omega) (by simp; omega) ?_); intro v2 w2 hO2 hG2 _
         have hB2 := (hB1.alloc hsz1 (.cells #[.int .u8 o] 5)).grown hG2 (by simp; omega) (fun q hq => (hlt1 q hq).1)
         obtain ⟨_, c3, c4, c5⟩ := H4.out _ hB2)
      | (go_at_call 168; refine (KP.out _).mono ?_; rintro e w3 ⟨g3, rfl, hP3, hb3⟩))
    have hO3 := owns_kept hO2 hb3 (Nat.le_refl _)
    have hsz2 := hB2.size
    have hB3 : Below W0.heap.size W0 w3 := hB2.trans (hb3.mono hsz2)
    have HO3 := Lib.hid hO3
    have HP3 := Lib.hid hP3
    have HB3 := Lib.hid hB3
    have HZ2 := Lib.hid hsz2
    clear hO3 hP3 hB3 hb3 hO2 hG2 hB2 hO1 hlt1 c2 hB1 hsz1 hsz2 c3 c4 c5 KP H4 HWS
    go_loopw [3, 5] (fun v i wr => ∃ k : Nat, k ≤ 3 ∧ i = .int .i64 k ∧ wr.ownsRow W0.heap.size 5 1 v (5 + 4 * k) (((frame20 s c o x y z).take (5 + 4 * k)).map (Value.int .u8)) ∧ wr.ownsRow w2.heap.size 3 1 (.slice (some ⟨g3, 0, none⟩) 3 3) 3 [.int .i64 x, .int .i64 y, .int .i64 z] ∧ Below W0.heap.size W0 wr)
      (fun _ i _ => 3 - (intOf i).toNat)
    case atStart => exact ⟨0, by omega, rfl, HO3.out, HP3.out, HB3.out⟩
    case round =>
      obtain ⟨k, hk, rfl, hOk, hPk, hBk⟩ := hrel
      have hszk := hBk.size
      by_cases hlt : k < 3
      · obtain ⟨v, hv1, hv2, hv3⟩ := part_step s c o x y z k hlt
        have hvb : -1048576 ≤ v ∧ v ≤ 1048576 := by rcases hv2 with rfl | rfl | rfl <;> assumption
        obtain ⟨hva, hvb⟩ := hvb
        have hcell : wr.cell? ⟨g3, k, none⟩ = some (.int .i64 v) := by
          have h := hPk.cells (g := g3) rfl k _ hv1
          rwa [Addr.add_mid, Nat.zero_add] at h
        have KB := Lib.hid (refBytes_any (v + 1048576) 4 (by omega) (by omega) (by omega))
        have HV3 := Lib.hid hv3
        have HPK := Lib.hid hPk
        have HOK := Lib.hid hOk
        have hltk := hOk.lt
        have HLTK := Lib.hid hltk
        have HBK := Lib.hid hBk
        have hk3 : (k : Int) < 3 := by omega
        clear hv1 hv2 hv3 hPk hOk hBk hltk
        go_wp2_with (first
          | (go_at_call 167; refine (KB.out _).mono ?_; rintro e w4 ⟨u, rfl, hOu, hbu⟩; obtain ⟨gu, cu, rfl, _, _⟩ := owns_some hOu (by omega))
          | (at_builtin; (refine wpList_append_own _ rfl (.tmp 31) (.tmp 37) 109 rfl W0.heap.size 5 i0 (.int .u8 0) 1 1 Tryz.underlying109 hi hz0 hz1 hz2 rfl (by decide) _ (5 + 4 * k) _ rfl (owns_kept HOK.out hbu (Nat.le_refl _)) ⟨gu, 0, none⟩ 4 cu _ rfl (by rfl) (Bts.news hOu) (one_u8 _) (by unfold maxLen; omega) (by omega) (by have := hbu.size; omega) ?_); intro v5 w5 hO5 hG5 _))
        have hz4 := hbu.size
        have hB4 : Below W0.heap.size W0 w4 := HBK.out.trans (hbu.mono hszk)
        have hO4 := owns_kept HOK.out hbu (Nat.le_refl _)
        have hP4 := owns_kept HPK.out hbu (Nat.le_refl _)
        have hB5 := hB4.grown hG5 (by omega) (fun q hq => (HLTK.out q hq).1)
        have e5 : 5 + 4 * (k + 1) = 5 + 4 * k + 4 := by omega
        go_roundw
        case rel => exact ⟨k + 1, by omega, by go_num, by rw [HV3.out, e5]; exact hO5, hP4.kept hG5 (own_ne hP4 hO4 (by decide)), hB5⟩
        case measure => simp [intOf]; omega
      · have ek : k = 3 := by omega
        rw [ek] at hOk
        have HEK := Lib.hid ek
        have hnk : ¬ ((k : Int) < 3) := by omega
        clear ek hlt
        have HOK := Lib.hid hOk
        have HBK := Lib.hid hBk
        clear hOk hPk hBk
        go_wp2_with fail
        go_loopw [3, 6] (fun v i wr => ∃ j : Nat, 1 ≤ j ∧ j ≤ 4 ∧ i = .int .i64 j ∧ wr.ownsRow W0.heap.size 5 1 v (16 + j) (((frame20 s c o x y z).take (16 + j)).map (Value.int .u8)) ∧ Below W0.heap.size W0 wr)
          (fun _ i _ => 4 - (intOf i).toNat)
        case atStart => exact ⟨1, by omega, by omega, rfl, HOK.out, HBK.out⟩
        case round =>
          obtain ⟨j, hj1, hj, rfl, hOj, hBj⟩ := hrel
          have hszj := hBj.size
          obtain ⟨gj, cj, rfl, _, _⟩ := owns_some hOj (by omega)
          by_cases hlt : j < 4
          · obtain ⟨b, hb1, ⟨hba, hbb⟩, hb3⟩ := flip_step s c o x y z h1 j hj1 hlt
            have hcell : wr.cell? ⟨gj, j, none⟩ = some (.int .u8 b) := by
              have h := hOj.cells (g := gj) rfl j _ hb1
              rwa [Addr.add_mid, Nat.zero_add] at h
            have HV3 := Lib.hid hb3
            have HOJ := Lib.hid hOj
            have hltj := hOj.lt
            have HLTJ := Lib.hid hltj
            have HBJ := Lib.hid hBj
            have hj3 : (j : Int) ≤ 3 := by omega
            have hj0 : (0 : Int) ≤ (j : Int) := by omega
            have hjl : (j : Int) < ((16 + j : Nat) : Int) := by omega
            clear hb1 hb3 hOj hBj hltj HOK HBK HO3 HP3 HB3
            go_wp2_with (at_builtin; (refine wpList_append_own _ rfl (.tmp 43) (.tmp 49) 109 rfl W0.heap.size 5 i0 (.int .u8 0) 1 1 Tryz.underlying109 hi hz0 hz1 hz2 rfl (by decide) _ (16 + j) _ rfl (HOJ.out.alloc _) ⟨wr.heap.size, 0, none⟩ 1 1 [.int .u8 (255 - b)] rfl rfl (cell_one_new _ _ _) (by intro u hu; simp at hu; subst hu; rfl) (by unfold maxLen; omega) (by omega) (by simp; omega) ?_); intro v5 w5 hO5 hG5 _)
            have hB5 := (HBJ.out.alloc hszj _).grown hG5 (by simp; omega) (fun q hq => (HLTJ.out q hq).1)
            have e5 : 16 + (j + 1) = 16 + j + 1 := by omega
            go_roundw
            case rel => exact ⟨j + 1, by omega, by omega, by go_num, by rw [HV3.out, e5]; exact hO5, hB5⟩
            case measure => simp [intOf]; omega
          · have ej : j = 4 := by omega
            have hnj : ¬ ((j : Int) ≤ 3) := by omega
            have hcells : ∀ i, i < 16 + j → wr.cell? ⟨gj, 0 + i, none⟩ = some (.int .u8 ((frame20 s c o x y z)[i]?.getD 0)) := by
              intro i hi20
              have h := hOj.cells (g := gj) rfl i (.int .u8 ((frame20 s c o x y z)[i]?.getD 0)) (by
                rw [List.getElem?_map, List.getElem?_take_of_lt (by omega), List.getElem?_eq_getElem (by rw [frame20_len]; omega)]; rfl)
              rwa [Addr.add_mid] at h
            have hfit : FitT s c o x y z := by constructor <;> omega
            have KC := Lib.hid (refChecksum_any gj 0 (16 + j) cj (frame20 s c o x y z) wr (by rw [frame20_len]; omega) (by omega) (fun i hi => frame20_fit hfit i (by omega)) hcells)
            have hcb := chk_bd (frame20 s c o x y z)
            have HFS := Lib.hid (frame_step s c o x y z j ej)
            have hFL : (frame s c o x y z).length = 24 := frame_len s c o x y z
            obtain ⟨q, hq⟩ : ∃ q, chkOf (frame20 s c o x y z) = q := ⟨_, rfl⟩
            rw [hq] at KC hcb HFS
            obtain ⟨hc0, hc1⟩ := hcb
            have KB := Lib.hid (refBytes_any q 4 hc0 (by omega) (by omega))
            obtain ⟨F, hFF⟩ : ∃ F, frame s c o x y z = F := ⟨_, rfl⟩
            rw [hFF] at HFS hFL
            have HFF := Lib.hid hFF
            have HFL := Lib.hid hFL
            have HOJ := Lib.hid hOj
            have hltj := hOj.lt
            have HLTJ := Lib.hid hltj
            have HBJ := Lib.hid hBj
            clear hcells hfit hq hFF hFL ej hlt hOj hBj hltj HOK HBK HO3 HP3 HB3
            go_wp2_with (first
              | (go_at_call 169; refine KC.out.mono ?_; rintro e w4 ⟨rfl, rfl⟩)
              | (go_at_call 167; refine (KB.out _).mono ?_; rintro e w4 ⟨u, rfl, hOu, hbu⟩; obtain ⟨gu, cu, rfl, _, _⟩ := owns_some hOu (by omega))
              | (at_builtin; (refine wpList_append_own _ rfl (.tmp 53) (.tmp 55) 109 rfl W0.heap.size 5 i0 (.int .u8 0) 1 1 Tryz.underlying109 hi hz0 hz1 hz2 rfl (by decide) _ (16 + j) _ rfl (owns_kept HOJ.out hbu (Nat.le_refl _)) ⟨gu, 0, none⟩ 4 cu _ rfl (by rfl) (Bts.news hOu) (one_u8 _) (by unfold maxLen; omega) (by omega) (by have := hbu.size; omega) ?_); intro v5 w5 hO5 hG5 _))
            have e24 : 16 + j + 4 = 24 := by omega
            rw [e24, ← HFS.out] at hO5
            have hB5 : Below W0.heap.size W0 w5 := (HBJ.out.trans (hbu.mono hszj)).grown hG5 (by have := hbu.size; omega) (fun q hq => (HLTJ.out q hq).1)
            obtain ⟨gF, cF, rfl, hgF, _⟩ := owns_some hO5 (by omega)
            have hcF : ∀ i, i < 24 → w5.cell? ⟨gF, i, none⟩ = some (.int .u8 (byteAt F i)) := by
              intro i hi24
              have h := hO5.cells (g := gF) rfl i (.int .u8 (byteAt F i)) (by
                rw [List.getElem?_map]
                unfold byteAt
                rw [List.getElem?_eq_getElem (by rw [HFL.out]; exact hi24)]; rfl)
              rwa [Addr.add_mid, Nat.zero_add] at h
            have HCF := Lib.hid hcF
            have HB5 := Lib.hid hB5
            have hsz5 := hB5.size
            obtain ⟨X0, hX0⟩ : ∃ X0, w5.alloc (.cells ((List.replicate 24 (Value.int .u8 0)).toArray) 108) = X0 := ⟨_, rfl⟩
            have hk0 : HasBlk X0 w5.heap.size 108 (cpy F 0) := by
              rw [← hX0]
              have h := heap_alloc_new w5 (.cells ((List.replicate 24 (Value.int .u8 0)).toArray) 108)
              simpa [HasBlk, cpy, List.replicate] using h
            have hBx : Below w5.heap.size w5 X0 := by rw [← hX0]; exact (Below.refl _ w5).alloc (Nat.le_refl _) _
            have hzx : X0.heap.size = w5.heap.size + 1 := by rw [← hX0]; simp
            simp only [List.replicate] at hX0
            rw [hX0]
            have HZX := Lib.hid hzx
            have HBX := Lib.hid hBx
            have HK0 := Lib.hid hk0
            clear hX0 hzx hBx hk0 hcF hB5 hO5 hG5 HOJ HLTJ HBJ HFS KB KC e24
            go_loopw [9] (fun i wI => ∃ m : Nat, m ≤ 24 ∧ i = .int .i64 m ∧ HasBlk wI w5.heap.size 108 (cpy F m) ∧ OnlyBlk X0 wI w5.heap.size)
              (fun i _ => 24 - (intOf i).toNat)
            case atStart => exact ⟨0, Nat.zero_le _, rfl, HK0.out, ⟨⟨rfl, rfl, rfl, Nat.le_refl _, fun _ _ _ => rfl⟩, rfl⟩⟩
            case round =>
              obtain ⟨m, hm, rfl, hkm, hom⟩ := hrel
              by_cases hm24 : m < 24
              · have hs := cpy_set HFL.out hm24
                have hc1 : wr.cell? ⟨gF, m, none⟩ = some (.int .u8 (byteAt F m)) := hom.cell ((HBX.out.cell (p := ⟨gF, m, none⟩) hgF).trans (HCF.out m hm24)) (by omega)
                have hc3 := hkm.cell (j := m) (v := (cpy F m)[m]?.getD 0) (by rw [List.getElem?_eq_getElem (by rw [cpy_len HFL.out hm]; exact hm24)]; rfl)
                have hf3 := hkm.frozen m
                have HKN : Hid (HasBlk (wr.setCell ⟨w5.heap.size, m, none⟩ (.int .u8 (byteAt F m))) w5.heap.size 108 (cpy F (m + 1))) := Lib.hid (by rw [← hs]; exact hkm.set _ _)
                have HON := Lib.hid (hom.trans (OnlyBlk.set wr w5.heap.size m (.int .u8 (byteAt F m))))
                obtain ⟨v, hv⟩ : ∃ v, byteAt F m = v := ⟨_, rfl⟩
                rw [hv] at hc1 HKN HON
                have g1 : (m : Int) < 24 := by omega
                have g3 : (0 : Int) ≤ (m : Int) := by omega
                clear hs hkm hom hv
                go_wp2_with fail
                go_roundw
                case rel => exact ⟨m + 1, by omega, by go_num, HKN.out, HON.out⟩
                case measure => simp [intOf]; omega
              · obtain rfl : m = 24 := by omega
                rw [cpy_24 HFL.out] at hkm
                obtain ⟨V, hV⟩ : ∃ V, F.map (Value.int .u8) = V := ⟨_, rfl⟩
                have HKM : Hid (wr.heap[w5.heap.size]? = some (.cells V.toArray 108 (0, 0))) := Lib.hid (by rw [← hV]; exact hkm)
                have V24 : V.length = 24 := by rw [← hV, List.length_map]; exact HFL.out
                have HV : Hid ((frame s c o x y z).map (Value.int .u8) = V) := Lib.hid (by rw [HFF.out]; exact hV)
                have hBw : Below W0.heap.size W0 wr := (HB5.out.trans (HBX.out.mono hsz5)).trans (hom.below (by have := HZX.out; omega) hsz5)
                have hrb : w.heap.size + 1 < W0.heap.size := by have := HZ0.out; omega
                have HR1 : Hid (wr.heap[w.heap.size + 1]? = some (.cells (List.replicate 24 (Value.int .u8 0)).toArray 108 (0, 0))) := Lib.hid ((hBw.block _ hrb).trans HBR.out)
                have HBW := Lib.hid (HB0.out.trans (hBw.mono (by omega)))
                have hiV : (Tryz.prog.info? 108).map (·.size) = some V.toArray.size := by rw [size24]; simp [V24]
                have HV1 : Hid (∀ u ∈ V, u.oneCell' = true) := Lib.hid (by rw [← hV]; exact one_u8 F)
                clear hkm hom hV hBw
                go_wp2_with (first
                  | (refine wpList_load_row rfl 108 (.tmp 8) rfl w5.heap.size rfl 108 _ (0, 0) _ HKM.out Tryz.underlying108 rfl hiV ?_)
                  | (refine wpList_store_row rfl 108 (.tmp 2) (.tmp 67) rfl (w.heap.size + 1) rfl V.toArray rfl 108 _ HR1.out ?i2 hiV ?i4 ?_))
                case i2 => simp [V24]
                case i4 => exact HV1.out
                go_wp2
                refine bodyPost_ret (v := .agg V.toArray) (results_cell_row Tryz.results78 _ _ (w.heap.size + 1) 108 _ (0, 0) _ rfl (setRow_heap wr _ _ _ _ _ HR1.out) Tryz.underlying108 rfl hiV) rfl ⟨by rw [HV.out], ?_⟩
                exact HBW.out.trans ((OnlyBlk.setRow wr (w.heap.size + 1) _).below HBW.out.size (by omega))
end Go.Proofs.YtfdkmmllemkogaaGreatDoor

/-
  The reference's Received of too much; the worlds of the walk of LightTelegrams.
-/
namespace Go.Proofs.YtfdkmmllemkogaaGreatDoor
open Go.RowKit
set_option linter.unusedVariables false
set_option linter.unusedSimpArgs false

set_option maxRecDepth 100000 in
theorem refReceived_long (a : Option Addr) (n cp : Nat) (hm : 12288 < n) (hl : n ≤ 100000) (w : World) :
    Calls Tryz.prog 80 #[.slice a n cp] w fun e w' => e = .returned (.tuple #[.slice none 0 0, .slice none 0 0, .int .i64 26]) ∧ w = w' := by
  have i1 : (12288 : Int) < (n : Int) := by omega
  have i2 : (n : Int) ≤ 100000 := by omega
  go_enter Tryz.func80, Tryz.ntmps80
  go_wp2
  refine bodyPost_ret (v := .tuple #[.slice none 0 0, .slice none 0 0, .int .i64 26]) (by simp [results, Tryz.results80, go_sem]) rfl ⟨rfl, rfl⟩

end Go.Proofs.YtfdkmmllemkogaaGreatDoor

/-
  What both Receiveds give, in one contract.
-/
namespace Go.Proofs.YtfdkmmllemkogaaGreatDoor
open Go.RowKit
set_option linter.unusedVariables false
set_option linter.unusedSimpArgs false

theorem rcv_len (S : List Int) (n : Nat) : ∀ (f k : Nat) (ts : List Tel) (sp : List (Int × Int)), (rcv S n f k ts sp).1.length ≤ ts.length + f ∧ (rcv S n f k ts sp).2.length ≤ sp.length + f
  | 0, _, _, _ => ⟨Nat.le_refl _, Nat.le_refl _⟩
  | f + 1, k, ts, sp => by
    rw [rcv]
    by_cases h : k < n
    · rw [if_pos h]
      by_cases ho : okAt S n k = true
      · rw [if_pos ho]
        have h1 := rcv_len S n f (k + 24) (ts ++ [telAt S n k]) sp
        rw [List.length_append] at h1
        simp only [List.length_cons, List.length_nil] at h1
        omega
      · rw [if_neg ho]
        have h1 := rcv_len S n f (k + 1) ts (extL sp k)
        have h2 := extL_len sp k
        omega
    · rw [if_neg h]
      exact ⟨Nat.le_add_right _ _, Nat.le_add_right _ _⟩

/-- Telegrams, spans and an error. -/
def RP (w1 : World) (L : List Tel) (P : List (Int × Int)) (E : Int) (e : Ending) (w' : World) : Prop :=
  ∃ a1 c1 a2 c2, e = .returned (.tuple #[.slice a1 L.length c1, .slice a2 P.length c2, .int .i64 E]) ∧ AnyTels w' a1 L.length L ∧ AnySpans w' a2 P.length P ∧ Below w1.heap.size w1 w'
theorem RP.long (w1 : World) : RP w1 [] [] 26 (.returned (.tuple #[.slice none 0 0, .slice none 0 0, .int .i64 26])) w1 :=
  ⟨none, 0, none, 0, rfl, ⟨rfl, fun j hj => absurd hj (Nat.not_lt_zero j)⟩, ⟨rfl, fun j hj => absurd hj (Nat.not_lt_zero j)⟩, Below.refl _ _⟩

theorem receiveds (S : List Int) (n : Nat) (hn : n ≤ 400 ∨ n = 12289) : ∃ (L : List Tel) (P : List (Int × Int)) (E : Int), L.length ≤ 13000 ∧ P.length ≤ 13000 ∧
    (∀ (a : Option Addr) (c : Nat), n ≤ c → c ≤ 9223372036854775807 → ∀ w1 : World, AnyBytes w1 a n S → Calls Tryz.prog 76 #[.slice a n c] w1 (RP w1 L P E)) ∧
    (∀ (a : Option Addr) (c : Nat) (w1 : World), AnyBytes w1 a n S → Calls Tryz.prog 80 #[.slice a n c] w1 (RP w1 L P E)) := by
  rcases hn with hn | rfl
  · have hl := rcv_len S n n 0 [] []
    refine ⟨rcvL S n, rcvP S n, 0, ?_, ?_, ?_, ?_⟩
    · have h : (rcvL S n).length ≤ 0 + n := hl.1
      omega
    · have h : (rcvP S n).length ≤ 0 + n := hl.2
      omega
    · intro a c h1 h2 w1 hA
      refine (received_all S a n c (by omega) h1 h2 w1 hA).mono ?_
      rintro e w' ⟨v1, v2, rfl, ho1, ho2, hb⟩
      obtain ⟨a1, c1, rfl, hT⟩ := AnyTels.of_row rfl ho1
      obtain ⟨a2, c2, rfl, hP⟩ := AnySpans.of_row ho2
      exact ⟨a1, c1, a2, c2, rfl, hT, hP, hb⟩
    · intro a c w1 hA
      refine (refReceived_all S a n c (by omega) w1 hA).mono ?_
      rintro e w' ⟨v1, v2, rfl, ho1, ho2, hb⟩
      obtain ⟨a1, c1, rfl, hT⟩ := AnyTels.of_rowR rfl ho1
      obtain ⟨a2, c2, rfl, hP⟩ := AnySpans.of_row ho2
      exact ⟨a1, c1, a2, c2, rfl, hT, hP, hb⟩
  · refine ⟨[], [], 26, by simp, by simp, ?_, ?_⟩
    · intro a c h1 h2 w1 hA
      refine (received_long a 12289 c (by omega) (by omega) w1).mono ?_
      rintro e w' ⟨rfl, rfl⟩
      exact RP.long _
    · intro a c w1 hA
      refine (refReceived_long a 12289 c (by omega) (by omega) w1).mono ?_
      rintro e w' ⟨rfl, rfl⟩
      exact RP.long _
end Go.Proofs.YtfdkmmllemkogaaGreatDoor

/-
  The walk of LightTelegrams.
-/
namespace Go.Proofs.YtfdkmmllemkogaaGreatDoor
open Go.RowKit Go.Shelf
set_option linter.unusedVariables false
set_option linter.unusedSimpArgs false

theorem run_eql_bytes {P : Program} (w : World) (t e : TypeId) (n : Nat) (ht : P.underlying t = some (.array n e)) (he : P.underlying e = some (.int .u8)) (hsz : ∀ w, (sizeOf e).run P w = .ok 1 w) (xs : List Int) (hx : xs.length = n) :
    (binOp .eql t (.agg (xs.map (Value.int .u8)).toArray) (.agg (xs.map (Value.int .u8)).toArray)).run P w = .ok (.bool true) w := by
  rw [run_eql_struct, run_equalIn_bytes w 9998 t e n ht he hsz xs xs hx hx]
  simp

theorem tel_cells6 {W : World} {B : Nat} {T : TypeId} {s c o x y z : Int} (h : W.heap[B]? = some (.cells #[.int .i64 s, .int .i64 c, .int .i64 o, .int .i64 x, .int .i64 y, .int .i64 z] T (0, 0))) :
    W.cell? ⟨B, 0, none⟩ = some (.int .i64 s) ∧ W.cell? ⟨B, 1, none⟩ = some (.int .i64 c) ∧ W.cell? ⟨B, 2, none⟩ = some (.int .i64 o) ∧ W.cell? ⟨B, 3, none⟩ = some (.int .i64 x) ∧ W.cell? ⟨B, 4, none⟩ = some (.int .i64 y) ∧ W.cell? ⟨B, 5, none⟩ = some (.int .i64 z) :=
  ⟨by rw [cell_of_row W B 0 _ _ (0, 0) h]; rfl, by rw [cell_of_row W B 1 _ _ (0, 0) h]; rfl, by rw [cell_of_row W B 2 _ _ (0, 0) h]; rfl, by rw [cell_of_row W B 3 _ _ (0, 0) h]; rfl, by rw [cell_of_row W B 4 _ _ (0, 0) h]; rfl, by rw [cell_of_row W B 5 _ _ (0, 0) h]; rfl⟩

set_option maxRecDepth 100000 in
set_option maxHeartbeats 12800000 in
theorem telegrams_walk (w : World) (s c o x y z : Int) (F : List Int) (hF : Bytes24 F) (S : List Int) (a : Option Addr) (n cp : Nat) (hn : n ≤ 400 ∨ n = 12289) (hA : AnyBytes w a n S) (ht : TabAt w) :
    Calls Tryz.prog 9 #[.agg #[.int .i64 s, .int .i64 c, .int .i64 o, .int .i64 x, .int .i64 y, .int .i64 z], .agg (F.map (Value.int .u8)).toArray, .slice a n cp] w (TruePost w) := by
  obtain ⟨i0, hi, hz0, hz1, hz2⟩ := info_parts Tryz.infoByte
  obtain ⟨L, P, E, hL, hP, kR, kQ⟩ := receiveds S n hn
  have KR := Lib.hid kR
  have KQ := Lib.hid (kQ a cp)
  have HA := Lib.hid hA
  have KW : Hid (∀ w1 : World, Below w.heap.size w w1 → Calls Tryz.prog 19 #[] w1 fun e w' => e = .returned (.bool true) ∧ Below w.heap.size w w') :=
    Lib.hid fun w1 h => (awake_any w1 (ht.on h)).mono fun e w' ⟨he, hb⟩ => ⟨he, h.trans (hb.mono h.size)⟩
  have KE := Lib.hid (encode_all ⟨s, c, o, x, y, z⟩)
  have KC := Lib.hid (refCheckTelegram_all s c o x y z)
  have KD := Lib.hid (decode_all F hF)
  have KG := Lib.hid (refDecode_all F hF)
  have hel := encL_len ⟨s, c, o, x, y, z⟩
  have e108 : ∀ w1, (binOp .eql 108 (.agg ((encL ⟨s, c, o, x, y, z⟩).map (Value.int .u8)).toArray) (.agg ((encL ⟨s, c, o, x, y, z⟩).map (Value.int .u8)).toArray)).run Tryz.prog w1 = .ok (.bool true) w1 :=
    fun w1 => run_eql_bytes w1 _ _ 24 Tryz.underlying108 Tryz.underlying5 (fun _ => by kernel_rfl) _ hel
  have hRr : (telErr s c o x y z = 0 ∧ GoodT s c o x y z ∧ encL ⟨s, c, o, x, y, z⟩ = frame s c o x y z) ∨ (telErr s c o x y z = 3 ∧ encL ⟨s, c, o, x, y, z⟩ = zero24) := by
    by_cases h : GoodT s c o x y z
    · exact .inl ⟨telErr_good h, h, encL_good (t := ⟨s, c, o, x, y, z⟩) h⟩
    · exact .inr ⟨telErr_bad h, encL_bad (t := ⟨s, c, o, x, y, z⟩) h⟩
  have kX : telErr s c o x y z = 0 → ∀ w1 : World, Calls Tryz.prog 78 #[.agg #[.int .i64 s, .int .i64 c, .int .i64 o, .int .i64 x, .int .i64 y, .int .i64 z]] w1 fun e w' => e = .returned (.agg ((encL ⟨s, c, o, x, y, z⟩).map (Value.int .u8)).toArray) ∧ Below w1.heap.size w1 w' := by
    intro h w1
    rcases hRr with ⟨_, hg, he⟩ | ⟨h3, _⟩
    · rw [he]; exact refEncode_any s c o x y z hg w1
    · omega
  have kZ : telErr s c o x y z ≠ 0 → (encL ⟨s, c, o, x, y, z⟩).map (Value.int .u8) = List.replicate 24 (Value.int .u8 0) := by
    intro h
    rcases hRr with ⟨h0, _, _⟩ | ⟨_, he⟩
    · exact absurd h0 h
    · rw [he]; rfl
  have hR03 : telErr s c o x y z = 0 ∨ telErr s c o x y z = 3 := hRr.elim (fun h => .inl h.1) (fun h => .inr h.1)
  clear hRr
  have one1 : ∀ u ∈ (encL ⟨s, c, o, x, y, z⟩).map (Value.int .u8), u.oneCell' = true := one_u8 _
  have VE24 : ((encL ⟨s, c, o, x, y, z⟩).map (Value.int .u8)).length = 24 := by rw [List.length_map]; exact hel
  have VF24 : (F.map (Value.int .u8)).length = 24 := by rw [List.length_map]; exact hF.1
  unfold Tel.err at KE
  simp only at KE
  obtain ⟨r, hr⟩ : ∃ r, telErr s c o x y z = r := ⟨_, rfl⟩
  obtain ⟨VE, hVE⟩ : ∃ V, (encL ⟨s, c, o, x, y, z⟩).map (Value.int .u8) = V := ⟨_, rfl⟩
  obtain ⟨VF, hVF⟩ : ∃ V, F.map (Value.int .u8) = V := ⟨_, rfl⟩
  obtain ⟨q, hq⟩ : ∃ q, decErr F = q := ⟨_, rfl⟩
  obtain ⟨d, hd⟩ : ∃ d, decTel F = d := ⟨_, rfl⟩
  obtain ⟨ds, dc, dd, dx, dy, dz⟩ := d
  rw [hr] at KE KC kX kZ hR03
  rw [hVE] at KE e108 kX kZ one1 VE24
  rw [hVF] at KD KG VF24 ⊢
  rw [hq, hd] at KD KG
  unfold Tel.agg at KD KG
  simp only at KD KG
  have KX := Lib.hid kX
  have KZ := Lib.hid kZ
  have H1 := Lib.hid one1
  have hiE : (Tryz.prog.info? 108).map (·.size) = some VE.toArray.size := by rw [size24]; simp [VE24]
  have hiF : (Tryz.prog.info? 108).map (·.size) = some VF.toArray.size := by rw [size24]; simp [VF24]
  have hiF2 : (Tryz.prog.info? 108).map (·.size) = some VF.length := by rw [size24, VF24]
  have HnN : n ≤ 100000 := by omega
  clear kX kZ one1 hr hVE hVF hq hd hel kR kQ hA hF ht
  have K0 : Kp w ((w.alloc (.cells #[.int .i64 s, .int .i64 c, .int .i64 o, .int .i64 x, .int .i64 y, .int .i64 z] 107)).alloc (.cells VF.toArray 108))
      [(w.heap.size + 1, .cells VF.toArray 108), (w.heap.size, .cells #[.int .i64 s, .int .i64 c, .int .i64 o, .int .i64 x, .int .i64 y, .int .i64 z] 107)] := by
    have h := ((Kp.none w).alloc (.cells #[.int .i64 s, .int .i64 c, .int .i64 o, .int .i64 x, .int .i64 y, .int .i64 z] 107)).alloc (.cells VF.toArray 108)
    simpa using h
  go_enter Tryz.func9, Tryz.ntmps9
  go_upto_region 1 with fail
  obtain ⟨W0, hW0⟩ : ∃ W0, (w.alloc (.cells #[.int .i64 s, .int .i64 c, .int .i64 o, .int .i64 x, .int .i64 y, .int .i64 z] 107)).alloc (.cells VF.toArray 108) = W0 := ⟨_, rfl⟩
  rw [hW0] at K0
  rw [hW0]
  have HK0 := Lib.hid K0
  clear hW0 K0
  have hg : (¬ ((400 : Int) < (n : Int))) ∨ ((400 : Int) < (n : Int) ∧ ((n : Int) != 12289) = false) := by
    rcases hn with h | h
    · exact .inl (by omega)
    · exact .inr ⟨by omega, by simp; omega⟩
  clear hn
  rcases hg with g1 | ⟨g1, g2⟩
  all_goals
    go_upto_region 5 with (first
      | (refine wpList_load_row rfl 107 (.tmp 3) rfl w.heap.size rfl 107 _ (0, 0) _ (HK0.out.2 _ (.tail _ (.head _))) Tryz.underlying107 rfl (by kernel_rfl) ?_)
      | (go_at_call 74; refine (KE.out _).mono ?_; rintro e w1 ⟨rfl, hb1⟩;
         have K1 := Lib.hid ((HK0.out.call hb1).alloc (.cells (List.replicate 24 (Value.int .u8 0)).toArray 108));
         have K2 := Lib.hid ((HK0.out.call hb1).stored (List.replicate 24 (Value.int .u8 0)).toArray VE.toArray 108); clear hb1)
      | (refine wpList_store_row rfl 108 (.tmp 7) (.tmp 33) rfl w1.heap.size rfl VE.toArray rfl 108 (List.replicate 24 (Value.int .u8 0)).toArray (K1.out.2 _ (.head _)) (by simp [VE24]) hiE (fun v hv => H1.out v hv) ?_)
      | (refine wpList_load_row rfl 108 (.tmp 4) rfl (w.heap.size + 1) rfl 108 _ (0, 0) _ (K2.out.2 _ (.tail _ (.head _))) Tryz.underlying108 rfl hiF ?_)
      | (go_at_call 75; refine (KD.out _).mono ?_; rintro e w2 ⟨rfl, hb2⟩;
         have K3 := Lib.hid ((K2.out.call hb2).alloc (.cells #[.int .i64 0, .int .i64 0, .int .i64 0, .int .i64 0, .int .i64 0, .int .i64 0] 112));
         have K4 := Lib.hid ((K2.out.call hb2).stored #[.int .i64 0, .int .i64 0, .int .i64 0, .int .i64 0, .int .i64 0, .int .i64 0] #[.int .i64 ds, .int .i64 dc, .int .i64 dd, .int .i64 dx, .int .i64 dy, .int .i64 dz] 112); clear hb2)
      | (refine wpList_store_row rfl 112 (.tmp 9) (.tmp 38) rfl w2.heap.size rfl #[.int .i64 ds, .int .i64 dc, .int .i64 dd, .int .i64 dx, .int .i64 dy, .int .i64 dz] rfl 112 #[.int .i64 0, .int .i64 0, .int .i64 0, .int .i64 0, .int .i64 0, .int .i64 0] (K3.out.2 _ (.head _)) (by rfl) (by kernel_rfl) (by simp [Value.oneCell']) ?_))
    obtain ⟨W5, hW5⟩ : ∃ W5, (w2.alloc (.cells #[.int .i64 0, .int .i64 0, .int .i64 0, .int .i64 0, .int .i64 0, .int .i64 0] 112)).setRow w2.heap.size #[.int .i64 ds, .int .i64 dc, .int .i64 dd, .int .i64 dx, .int .i64 dy, .int .i64 dz] = W5 := ⟨_, rfl⟩
    have K5 := K4.out
    rw [hW5] at K5 ⊢
    obtain ⟨l4, hl4⟩ : ∃ l, [(w2.heap.size, Obj.cells #[.int .i64 ds, .int .i64 dc, .int .i64 dd, .int .i64 dx, .int .i64 dy, .int .i64 dz] 112 (0, 0)), (w1.heap.size, .cells VE.toArray 108 (0, 0)), (w.heap.size + 1, .cells VF.toArray 108 (0, 0)), (w.heap.size, .cells #[.int .i64 s, .int .i64 c, .int .i64 o, .int .i64 x, .int .i64 y, .int .i64 z] 107 (0, 0))] = l := ⟨_, rfl⟩
    rw [hl4] at K5
    have HL4 := Lib.hid hl4
    have HK5 := Lib.hid K5
    have HA5 := Lib.hid (HA.out.kept K5.1)
    clear hW5 K5 hl4 K1 K2 K3 K4 HK0 KE KD
    go_cut [11, 12, 13] (fun s11 s12 s13 wc => ∃ a1 c1 a2 c2, s11 = .slice a1 L.length c1 ∧ s12 = .slice a2 P.length c2 ∧ s13 = .int .i64 E ∧ ∃ W6, W6 = wc ∧ AnyTels W6 a1 L.length L ∧ AnySpans W6 a2 P.length P ∧ Kp w W6 l4)
    case first =>
      have hC0 : (W5.alloc (.cells #[] 5)).ownsRow W5.heap.size 5 1 (.slice (some ⟨W5.heap.size, 0, none⟩) 0 0) 0 [] := by
        have h := World.ownsRow_made (base := W5.heap.size) (e := 5) (size := 1) W5 #[] 0 (by simp) (by unfold maxLen; omega) rfl
        simpa using h
      have HC0 := Lib.hid hC0
      have hB6 : Below W5.heap.size W5 (W5.alloc (.cells #[] 5)) := (Below.refl W5.heap.size W5).alloc (Nat.le_refl _) _
      have HB6 := Lib.hid hB6
      clear hC0 hB6
      cases a with
      | none =>
        obtain rfl : n = 0 := by
          rcases Nat.eq_zero_or_pos n with h | h
          · exact h
          · obtain ⟨b, q', e, _⟩ := HA5.out.2 0 h
            exact absurd e (by simp)
        have hAB : AnyBytes (W5.alloc (.cells #[] 5)) (some ⟨W5.heap.size, 0, none⟩) 0 S := ⟨HA5.out.1, fun j hj => absurd hj (Nat.not_lt_zero j)⟩
        have HAB := Lib.hid hAB
        clear hAB
        go_wp2_with (first
          | (at_builtin; (refine wpList_append_own_none rfl (.tmp 41) (.tmp 42) 109 rfl W5.heap.size 5 i0 1 Tryz.underlying109 hi (.slice (some ⟨W5.heap.size, 0, none⟩) 0 0) 0 [] rfl HC0.out rfl ?_))
          | (go_at_call 76; (refine (KR.out _ _ (Nat.le_refl _) (by omega) _ HAB.out).mono ?_); rintro e w7 ⟨a1, c1, a2, c2, rfl, hT, hQ, hb7⟩))
        go_meet
        exact ⟨a1, c1, a2, c2, rfl, rfl, rfl, _, rfl, hT, hQ, (HK5.out.call HB6.out).call hb7⟩
      | some ad =>
        have hln : (S.map (Value.int .u8)).length = n * 1 := by rw [List.length_map, HA5.out.1.1, Nat.mul_one]
        have hnw : ∀ j u, (S.map (Value.int .u8))[j]? = some u → (W5.alloc (.cells #[] 5)).cell? (ad.add j) = some u := by
          intro j u hu
          have hj : j < n := by have := (List.getElem?_eq_some_iff.1 hu).1; rw [hln] at this; omega
          obtain ⟨b, q', e, hb, hc⟩ := HA5.out.2 j hj
          cases e
          rw [Addr.add_mid]
          rw [HB6.out.cell (by exact hb)]
          exact hc j u hu
        have HLN := Lib.hid hln
        have HNW := Lib.hid hnw
        clear hln hnw
        go_wp2_with (first
          | (at_builtin; (refine wpList_append_own _ rfl (.tmp 41) (.tmp 42) 109 rfl W5.heap.size 5 i0 (.int .u8 0) 1 1 Tryz.underlying109 hi hz0 hz1 hz2 rfl (by decide) (.slice (some ⟨W5.heap.size, 0, none⟩) 0 0) 0 [] rfl HC0.out ad n cp (S.map (Value.int .u8)) rfl HLN.out HNW.out (one_u8 S) (by unfold maxLen; omega) (by omega) (by simp) ?_); intro v6 w6 hO6 hG6 _;
             have hb6 := HB6.out.grown hG6 (by simp) (fun q hq => by cases hq; exact Nat.le_refl _);
             rw [Nat.zero_add, List.nil_append] at hO6;
             obtain ⟨a6, c6, rfl, h6a, h6b, hA6⟩ := AnyBytes.of_row HA5.out.1 hO6)
          | (go_at_call 76; (refine (KR.out _ _ h6a h6b _ hA6).mono ?_); rintro e w7 ⟨a1, c1, a2, c2, rfl, hT, hQ, hb7⟩))
        go_meet
        exact ⟨a1, c1, a2, c2, rfl, rfl, rfl, _, rfl, hT, hQ, (HK5.out.call hb6).call hb7⟩
    case rest =>
      obtain ⟨a1, c1, a2, c2, rfl, rfl, rfl, W6, rfl, hT, hQ, hK6⟩ := hcut
      rw [← HL4.out] at hK6
      have HK6 := Lib.hid hK6
      have HT := Lib.hid hT
      have HQ := Lib.hid hQ
      clear hK6 hT hQ HK5 HL4 HA5 KR
      go_upto_if 51 with (first
        | (refine wpList_load_row rfl 107 (.tmp 3) rfl w.heap.size rfl 107 _ (0, 0) _ (HK6.out.2 _ (.tail _ (.tail _ (.tail _ (.head _))))) Tryz.underlying107 rfl (by kernel_rfl) ?_)
        | (go_at_call 77; refine (KC.out _).mono ?_; rintro e w8 ⟨rfl, hb8⟩;
           have hT8 := HT.out.kept hb8;
           have hQ8 := HQ.out.kept hb8;
           have hB9 := (Below.refl w8.heap.size w8).alloc (Nat.le_refl _) (.cells (List.replicate 24 (Value.int .u8 0)).toArray 108);
           have hK8 := (HK6.out.call hb8).alloc (.cells (List.replicate 24 (Value.int .u8 0)).toArray 108)))
      obtain ⟨W9, hW9⟩ : ∃ W9, w8.alloc (.cells (List.replicate 24 (Value.int .u8 0)).toArray 108) = W9 := ⟨_, rfl⟩
      rw [hW9] at hB9 hK8
      simp only [List.replicate] at hW9
      rw [hW9]
      have HG8 : Hid (w.heap.size ≤ w8.heap.size) := Lib.hid (Nat.le_trans HK6.out.1.size hb8.size)
      have HN8 : Hid (∀ p ∈ [(w2.heap.size, Obj.cells #[.int .i64 ds, .int .i64 dc, .int .i64 dd, .int .i64 dx, .int .i64 dy, .int .i64 dz] 112 (0, 0)), (w1.heap.size, .cells VE.toArray 108 (0, 0)), (w.heap.size + 1, .cells VF.toArray 108 (0, 0)), (w.heap.size, .cells #[.int .i64 s, .int .i64 c, .int .i64 o, .int .i64 x, .int .i64 y, .int .i64 z] 107 (0, 0))], p.1 ≠ w8.heap.size) :=
        Lib.hid fun p hp => Nat.ne_of_lt (lt_of_blk ((HK6.out.call hb8).2 p hp))
      have hz9 := hB9.size
      have HB9 := Lib.hid hB9
      have HT8 := Lib.hid hT8
      have HQ8 := Lib.hid hQ8
      have HK8 := Lib.hid hK8
      clear hW9 hT8 hQ8 hK8 hB9 hb8 HT HQ HK6 KC
      go_cut [14] (fun s14 wc => s14 = .int .i64 r ∧ ∃ W10, W10 = wc ∧ AnyTels W10 a1 L.length L ∧ AnySpans W10 a2 P.length P ∧ Kp w W10 ((w8.heap.size, .cells VE.toArray 108 (0, 0)) :: [(w2.heap.size, Obj.cells #[.int .i64 ds, .int .i64 dc, .int .i64 dd, .int .i64 dx, .int .i64 dy, .int .i64 dz] 112 (0, 0)), (w1.heap.size, .cells VE.toArray 108 (0, 0)), (w.heap.size + 1, .cells VF.toArray 108 (0, 0)), (w.heap.size, .cells #[.int .i64 s, .int .i64 c, .int .i64 o, .int .i64 x, .int .i64 y, .int .i64 z] 107 (0, 0))]))
      case first =>
        rcases hR03 with rfl | rfl
        · have KX0 := Lib.hid (KX.out rfl)
          go_wp2_with (first
            | (refine wpList_load_row rfl 107 (.tmp 3) rfl w.heap.size rfl 107 _ (0, 0) _ (HK8.out.2 _ (.tail _ (.tail _ (.tail _ (.tail _ (.head _)))))) Tryz.underlying107 rfl (by kernel_rfl) ?_)
            | (go_at_call 78; refine (KX0.out _).mono ?_; rintro e w10 ⟨rfl, hb10⟩; have K10 := Lib.hid (HK8.out.call hb10))
            | (refine wpList_store_row rfl 108 (.tmp 15) (.tmp 53) rfl w8.heap.size rfl VE.toArray rfl 108 (List.replicate 24 (Value.int .u8 0)).toArray (K10.out.2 _ (.head _)) (by simp [VE24]) hiE (fun v hv => H1.out v hv) ?_))
          go_meet
          have hz10 := hb10.size
          have hBX : Below w8.heap.size w8 (w10.setRow w8.heap.size VE.toArray) := (HB9.out.trans (hb10.mono hz9)).trans ((OnlyBlk.setRow w10 w8.heap.size VE.toArray).below (by omega) (Nat.le_refl _))
          exact ⟨rfl, _, rfl, HT8.out.kept hBX, HQ8.out.kept hBX, K10.out.setHead VE.toArray HG8.out HN8.out⟩
        · go_wp2_with fail
          go_meet
          have hk := HK8.out
          rw [← KZ.out (by decide)] at hk
          exact ⟨rfl, _, rfl, HT8.out.kept HB9.out, HQ8.out.kept HB9.out, hk⟩
      case rest =>
        obtain ⟨rfl, W10, rfl, hT, hQ, hK⟩ := hcut
        have HK := Lib.hid hK
        have HT := Lib.hid hT
        have HQ := Lib.hid hQ
        clear hT hQ hK HT8 HQ8 HK8 HB9 HG8 HN8 hR03 KX KZ
        go_wp2_with (first
          | (refine wpList_load_row rfl 108 (.tmp 4) rfl (w.heap.size + 1) rfl 108 _ (0, 0) _ (HK.out.2 _ (.tail _ (.tail _ (.tail _ (.head _))))) Tryz.underlying108 rfl hiF ?_)
          | (go_at_call 79; refine (KG.out _).mono ?_; rintro e w11 ⟨rfl, hb11⟩;
             have K11 := Lib.hid ((HK.out.call hb11).alloc (.cells #[.int .i64 0, .int .i64 0, .int .i64 0, .int .i64 0, .int .i64 0, .int .i64 0] 107));
             have K12 := Lib.hid ((HK.out.call hb11).stored #[.int .i64 0, .int .i64 0, .int .i64 0, .int .i64 0, .int .i64 0, .int .i64 0] #[.int .i64 ds, .int .i64 dc, .int .i64 dd, .int .i64 dx, .int .i64 dy, .int .i64 dz] 107);
             have T12 := Lib.hid ((HT.out.kept hb11).kept ((Kp.none w11).stored #[.int .i64 0, .int .i64 0, .int .i64 0, .int .i64 0, .int .i64 0, .int .i64 0] #[.int .i64 ds, .int .i64 dc, .int .i64 dd, .int .i64 dx, .int .i64 dy, .int .i64 dz] 107).1);
             have Q12 := Lib.hid ((HQ.out.kept hb11).kept ((Kp.none w11).stored #[.int .i64 0, .int .i64 0, .int .i64 0, .int .i64 0, .int .i64 0, .int .i64 0] #[.int .i64 ds, .int .i64 dc, .int .i64 dd, .int .i64 dx, .int .i64 dy, .int .i64 dz] 107).1); clear hb11)
          | (refine wpList_store_row rfl 107 (.tmp 16) (.tmp 57) rfl w11.heap.size rfl #[.int .i64 ds, .int .i64 dc, .int .i64 dd, .int .i64 dx, .int .i64 dy, .int .i64 dz] rfl 107 #[.int .i64 0, .int .i64 0, .int .i64 0, .int .i64 0, .int .i64 0, .int .i64 0] (K11.out.2 _ (.head _)) (by rfl) (by kernel_rfl) (by simp [Value.oneCell']) ?_)
          | (go_at_call 80; refine (KQ.out _ (HA.out.kept K12.out.1)).mono ?_; rintro e w13 ⟨b1, d1, b2, d2, rfl, hT13, hQ13, hb13⟩;
             have K13 := Lib.hid (K12.out.call hb13);
             have T13 := Lib.hid (T12.out.kept hb13);
             have Q13 := Lib.hid (Q12.out.kept hb13);
             have U13 := Lib.hid hT13; have V13 := Lib.hid hQ13; clear hb13 hT13 hQ13;
             obtain ⟨p0, p1, p2, p3, p4, p5⟩ := tel_cells6 (K13.out.2 _ (.tail _ (.tail _ (.head _))));
             obtain ⟨q0, q1, q2, q3, q4, q5⟩ := tel_cells6 (K13.out.2 _ (.head _)))
          | (refine wpList_load_row rfl 108 (.tmp 7) rfl w1.heap.size rfl 108 _ (0, 0) _ (K13.out.2 _ (.tail _ (.tail _ (.tail _ (.head _))))) Tryz.underlying108 rfl hiE ?_)
          | (refine wpList_load_row rfl 108 (.tmp 15) rfl w8.heap.size rfl 108 _ (0, 0) _ (K13.out.2 _ (.tail _ (.head _))) Tryz.underlying108 rfl hiE ?_)
          | (go_at_call 81; refine (sameTels_any L a1 b1 L.length c1 d1 _ hL T13.out U13.out).mono ?_; rintro e w14 ⟨rfl, hb14⟩;
             have K14 := Lib.hid (K13.out.call hb14); have Q14 := Lib.hid (Q13.out.kept hb14); have V14 := Lib.hid (V13.out.kept hb14); clear hb14)
          | (go_at_call 82; refine (sameSpans_any P a2 b2 P.length c2 d2 _ hP Q14.out V14.out).mono ?_; rintro e w15 ⟨rfl, hb15⟩;
             have K15 := Lib.hid (K14.out.call hb15); clear hb15)
          | (go_at_call 19; refine (KW.out _ K15.out.1).mono ?_; rintro e w16 ⟨rfl, hb16⟩))
        go_ret
        exact ⟨rfl, hb16⟩
end Go.Proofs.YtfdkmmllemkogaaGreatDoor

/-
  LightTelegrams returns true for all arguments; arguments that are bytes or a telegram, opened.
-/
namespace Go.Proofs.YtfdkmmllemkogaaGreatDoor
open Go.ChangeShapes Go.WideShapes Go.ChangeAt Go.RowKit Go.Joins Go.Deep
set_option linter.unusedVariables false
set_option maxRecDepth 100000

theorem byte_of {z : Int} (h : (Lit.int .u8 z).wf = true) : 0 ≤ z ∧ z ≤ 255 := by
  have e0 : IntKind.u8.min = 0 := by rfl
  have e1 : IntKind.u8.max = 255 := by rfl
  simp only [Lit.wf, Bool.and_eq_true, decide_eq_true_eq, e0, e1] at h
  exact h

theorem cellsByte : Tryz.prog.cellsOf 5 = 1 := by kernel_rfl
theorem cellsFrame : Tryz.prog.cellsOf 108 = 24 := by kernel_rfl

theorem openFrame {H : Type} {enc : TypeId × Value → H} {W : World} {b0 : Nat} {v : Value} {d : DataW H} {p : List MemPlace}
    (hv : Value.okWide Tryz.prog W .any b0 108 v) (h : DataW.Trod enc Tryz.prog W 0 (fun _ => true) true 108 v d p) : ∃ F : List Int, Bytes24 F ∧ v = .agg (F.map (Value.int .u8)).toArray := by
  obtain ⟨cs, rfl, hsz⟩ := okWide_arr Tryz.underlying108 hv
  rw [cellsFrame] at hsz
  obtain ⟨fuel, hf⟩ := h
  obtain ⟨xs, m, _, _, _, hl, hi⟩ := DataW.trod_array Tryz.underlying108 hf
  have key : ∀ i, i < 24 → ∃ z : Int, cs.toList[i]? = some (.int .u8 z) ∧ 0 ≤ z ∧ z ≤ 255 := by
    intro i hlt
    have h := hi i hlt
    rw [cellsByte, Nat.mul_one] at h
    simp only [Value.cells] at h
    obtain ⟨y, hy⟩ : ∃ y, xs[i]? = some y := ⟨_, List.getElem?_eq_getElem (by omega)⟩
    rw [hy] at h
    have hli : i < cs.toList.length := by rw [Array.length_toList]; omega
    have e1 : (cs.toList.drop i).take 1 = [cs.toList[i]] := by
      rw [List.drop_eq_getElem_cons hli]; rfl
    rw [e1] at h
    obtain ⟨X, e0, _, hw⟩ := DataW.trod_int Tryz.underlying5 h
    simp only [List.cons.injEq, and_true] at e0
    exact ⟨X, by rw [List.getElem?_eq_getElem hli, e0], byte_of hw⟩
  refine ⟨(List.range 24).map (fun i => match cs.toList[i]? with | some (Value.int _ z) => z | _ => (0 : Int)), ⟨by simp, ?_⟩, ?_⟩
  · intro v hv'
    obtain ⟨i, hi', rfl⟩ := List.mem_map.1 hv'
    obtain ⟨z, hz, hb⟩ := key i (by simpa using hi')
    rw [hz]; exact hb
  congr 1
  apply Array.ext'
  refine List.ext_getElem? fun i => ?_
  simp only [List.map_map, List.getElem?_map]
  by_cases hi' : i < 24
  · obtain ⟨z, hz, _⟩ := key i hi'
    rw [hz, List.getElem?_range hi']
    have hz2 : cs[i]? = some (.int .u8 z) := by simpa using hz
    simp [hz2]
  · have h1 : cs.toList[i]? = none := by rw [List.getElem?_eq_none]; rw [Array.length_toList]; omega
    have h2 : (List.range 24)[i]? = none := by rw [List.getElem?_eq_none]; simp; omega
    rw [h1, h2]; rfl

theorem openBytes {H : Type} {enc : TypeId × Value → H} {W : World} {b0 : Nat} {v : Value} {d : DataW H} {p : List MemPlace}
    (hv : Value.okWide Tryz.prog W .any b0 109 v) (h : DataW.Trod enc Tryz.prog W 0 (fun _ => true) true 109 v d p) :
    ∃ (a : Option Addr) (n c : Nat) (S : List Int), v = .slice a n c ∧ n ≤ maxLen ∧ AnyBytes W a n S := by
  obtain ⟨a, n, c, rfl⟩ := okWide_slice Tryz.underlying109 hv
  obtain ⟨fuel, hf⟩ := h
  rcases open_slice Tryz.underlying109 hf with ⟨hcs, _⟩ | ⟨a, n, c, m, k, D, Pl, hcs, _, hl, hm, hmm, _, hx⟩
  · simp [Value.cells] at hcs
    obtain ⟨rfl, rfl, rfl⟩ := hcs
    exact ⟨none, 0, 0, [], rfl, by unfold maxLen; omega, ⟨rfl, fun v hv => nomatch hv⟩, fun j hj => absurd hj (by omega)⟩
  · simp [Value.cells] at hcs
    obtain ⟨rfl, rfl, rfl⟩ := hcs
    have hnm : n ≤ m := by rw [hmm]; simp; exact hl
    rw [cellsByte] at hx
    obtain ⟨T, hT⟩ := choose_lt (α := Int) (p := fun i t => (0 ≤ t ∧ t ≤ 255) ∧ W.cell? ((a.add (i * 1)).add 0) = some (.int .u8 t)) (n := n) (fun i hi => by
      obtain ⟨cs', h1, h2⟩ := hx i (by omega)
      obtain ⟨_, hlen, hc⟩ := World.cells?_some h1
      obtain ⟨X, e0, _, hw⟩ := DataW.trod_int Tryz.underlying5 h2
      exact ⟨X, byte_of hw, (hc 0 (by omega)).trans (by rw [e0]; rfl)⟩)
    refine ⟨_, _, _, (List.range n).map T, rfl, Nat.le_trans hl hm, ⟨by simp, ?_⟩, fun j hj => ?_⟩
    · intro v hv'
      obtain ⟨i, hi', rfl⟩ := List.mem_map.1 hv'
      exact (hT i (by simpa using hi')).1
    have h0 := (hT 0 (by omega)).2
    have hpl := plain_at (a := a) (by simpa [Addr.add] using h0)
    refine ⟨a.block, a.off, by rw [← hpl.1], hpl.2, fun i u hu => ?_⟩
    rw [List.map_map, List.getElem?_map] at hu
    by_cases hi2 : i < n
    · rw [List.getElem?_range hi2] at hu
      have h := (hT i hi2).2
      rw [hpl.1] at h
      simp only [Addr.add_mid, Nat.mul_one, Nat.add_zero] at h
      rw [h]
      simpa using hu
    · rw [List.getElem?_eq_none (by simp; omega)] at hu
      simp at hu

theorem okWide_rec {P : Program} {w : World} {r : Reach} {base : Nat} {t : TypeId} {fs} {v : Value} (ht : P.underlying t = some (.struct fs)) (h : Value.okWide P w r base t v) : ∃ cs, v = .agg cs ∧ cs.size = P.cellsOf t := by
  simp only [Value.okWide, ht] at h
  cases v <;> simp_all
theorem openTel {H : Type} {enc : TypeId × Value → H} {W : World} {b0 : Nat} {v : Value} {d : DataW H} {p : List MemPlace}
    (hv : Value.okWide Tryz.prog W .any b0 107 v) (h : DataW.Trod enc Tryz.prog W 0 (fun _ => true) true 107 v d p) :
    ∃ (s c o x y z : Int), v = .agg #[.int .i64 s, .int .i64 c, .int .i64 o, .int .i64 x, .int .i64 y, .int .i64 z] := by
  obtain ⟨cs, rfl, hsz⟩ := okWide_rec Tryz.underlying107 hv
  rw [cellsTel] at hsz
  obtain ⟨fuel, hf⟩ := h
  simp only [Value.cells] at hf
  obtain ⟨t, ht⟩ := tel_form (by rw [Array.length_toList]; exact hsz) hf
  exact ⟨t.s, t.c, t.o, t.x, t.y, t.z, by rw [← Array.toArray_toList (xs := cs), ht]; rfl⟩

set_option maxHeartbeats 3200000 in
theorem telegrams_all (w : World) (s c o x y z : Int) (F : List Int) (hF : Bytes24 F) (S : List Int) (a : Option Addr) (n cp : Nat) (hm : n ≤ maxLen) (hA : AnyBytes w a n S) (ht : TabAt w) :
    Calls Tryz.prog 9 #[.agg #[.int .i64 s, .int .i64 c, .int .i64 o, .int .i64 x, .int .i64 y, .int .i64 z], .agg (F.map (Value.int .u8)).toArray, .slice a n cp] w (TruePost w) := by
  by_cases hn : n ≤ 400 ∨ n = 12289
  · exact telegrams_walk w s c o x y z F hF S a n cp hn hA ht
  · have KW : Hid (∀ w1 : World, Below w.heap.size w w1 → Calls Tryz.prog 19 #[] w1 fun e w' => e = .returned (.bool true) ∧ Below w.heap.size w w') :=
      Lib.hid fun w1 h => (awake_any w1 (ht.on h)).mono fun e w' ⟨he, hb⟩ => ⟨he, h.trans (hb.mono h.size)⟩
    have VF24 : (F.map (Value.int .u8)).length = 24 := by rw [List.length_map]; exact hF.1
    obtain ⟨VF, hVF⟩ : ∃ V, F.map (Value.int .u8) = V := ⟨_, rfl⟩
    rw [hVF] at VF24 ⊢
    have hiF2 : (Tryz.prog.info? 108).map (·.size) = some VF.length := by rw [size24, VF24]
    have g1 : (400 : Int) < (n : Int) := by omega
    have g2 : ((n : Int) != 12289) = true := by simp; omega
    unfold maxLen at hm
    clear hVF hF hn hA ht
    have hB0 : Below w.heap.size w ((w.alloc (.cells #[.int .i64 s, .int .i64 c, .int .i64 o, .int .i64 x, .int .i64 y, .int .i64 z] 107)).alloc (.cells VF.toArray 108)) := ((Below.refl _ w).alloc (Nat.le_refl _) _).alloc (by simp) _
    have HB0 := Lib.hid hB0
    clear hB0
    go_enter Tryz.func9, Tryz.ntmps9
    go_wp2_with (go_at_call 19; refine (KW.out _ HB0.out).mono ?_; rintro e w1 ⟨rfl, hb1⟩)
    go_ret
    exact ⟨rfl, hb1⟩
end Go.Proofs.YtfdkmmllemkogaaGreatDoor
