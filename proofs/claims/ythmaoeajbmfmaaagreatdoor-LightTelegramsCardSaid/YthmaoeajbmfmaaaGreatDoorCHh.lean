/-
  Contract of the reference's Decode for 24 bytes that agree with one another; and for any 24 bytes.
-/
import Derived.Test.YthmaoeajbmfmaaaGreatDoorCHg
namespace Go.Proofs.YthmaoeajbmfmaaaGreatDoor
open Go.RowKit
set_option linter.unusedVariables false
set_option linter.unusedSimpArgs false

theorem FrameAt.kept {W1 w1 : World} {B : Nat} {F : List Int} (h : FrameAt W1 B F) (hb : Below W1.heap.size W1 w1) : FrameAt w1 B F := ⟨h.blk.kept hb h.blk.lt, h.bytes⟩
def DecV (t : Tel) (r : Int) : Value := .tuple #[(if r = 0 then t else tel0).agg, .int .i64 r]
theorem DecV_bad {t : Tel} {r : Int} (h : r ≠ 0) : DecV t r = .tuple #[.agg #[.int .i64 0, .int .i64 0, .int .i64 0, .int .i64 0, .int .i64 0, .int .i64 0], .int .i64 r] := by
  unfold DecV; rw [if_neg h]; rfl
theorem tel_cells {w : World} {B : Nat} {T : TypeId} {s c o x y z : Value} (h : w.heap[B]? = some (.cells #[s, c, o, x, y, z] T (0, 0))) : w.cell? ⟨B, 0, none⟩ = some s ∧ w.cell? ⟨B, 1, none⟩ = some c ∧ w.cell? ⟨B, 2, none⟩ = some o ∧ w.cell? ⟨B, 3, none⟩ = some x ∧ w.cell? ⟨B, 4, none⟩ = some y ∧ w.cell? ⟨B, 5, none⟩ = some z :=
  ⟨by rw [cell_of_row w B 0 _ _ (0, 0) h]; rfl, by rw [cell_of_row w B 1 _ _ (0, 0) h]; rfl, by rw [cell_of_row w B 2 _ _ (0, 0) h]; rfl, by rw [cell_of_row w B 3 _ _ (0, 0) h]; rfl, by rw [cell_of_row w B 4 _ _ (0, 0) h]; rfl, by rw [cell_of_row w B 5 _ _ (0, 0) h]; rfl⟩
theorem tel_set3 {w : World} {B : Nat} {T : TypeId} {s c o x y z : Value} (h : w.heap[B]? = some (.cells #[s, c, o, x, y, z] T (0, 0))) (x' y' z' : Value) :
    (((w.setCell ⟨B, 3, none⟩ x').setCell ⟨B, 4, none⟩ y').setCell ⟨B, 5, none⟩ z').heap[B]? = some (.cells #[s, c, o, x', y', z'] T (0, 0)) := by
  simp only [World.setCell, Array.getElem?_modify, if_true, h, Option.map_some]
  simp
theorem seg_eq (F : List Int) (hF : F.length = 24) (o n : Nat) (ho : o + n ≤ 24) : (F.drop o).take n = (List.range n).map (fun j => byteAt F (o + j)) := by
  refine List.ext_getElem (by rw [List.length_take, List.length_drop, hF]; simp; omega) fun j h1 h2 => ?_
  simp only [List.getElem_take, List.getElem_drop, List.getElem_map, List.getElem_range, byteAt]
  rw [List.getElem?_eq_getElem (by simp at h2; omega)]
  rfl

set_option maxRecDepth 100000 in
set_option maxHeartbeats 12800000 in
theorem refDecode_ok (F : List Int) (hF : Bytes24 F) (h0 : byteAt F 0 = 77) (hT : chkOf (F.take 20) = numOf ((F.drop 20).take 4) ∧ byteAt F 17 = 255 - byteAt F 1 ∧ byteAt F 18 = 255 - byteAt F 2 ∧ byteAt F 19 = 255 - byteAt F 3) (w : World) :
    Calls Tryz.prog 24 #[.agg (F.map (Value.int .u8)).toArray] w fun e w' => e = .returned (DecV (telOf F) (vectorErr (telOf F).x (telOf F).y (telOf F).z)) ∧ Below w.heap.size w w' := by
  have hx : (telOf F).x = numOf ((F.drop 5).take 4) - 1048576 := by rw [seg_eq F hF.1 5 4 (by omega)]; rfl
  have hy : (telOf F).y = numOf ((F.drop 9).take 4) - 1048576 := by rw [seg_eq F hF.1 9 4 (by omega)]; rfl
  have hz : (telOf F).z = numOf ((F.drop 13).take 4) - 1048576 := by rw [seg_eq F hF.1 13 4 (by omega)]; rfl
  have hc : (telOf F).c = numOf ((F.drop 2).take 2) := by rw [seg_eq F hF.1 2 2 (by omega)]; rfl
  have hs : (telOf F).s = byteAt F 1 := rfl
  have ho : (telOf F).o = byteAt F 4 := rfl
  have hft := (raw_telOf F hF h0).2.2
  obtain ⟨t, ht⟩ : ∃ t, telOf F = t := ⟨_, rfl⟩
  rw [ht] at hx hy hz hc hs ho hft ⊢
  clear ht
  have V24 : (F.map (Value.int .u8)).length = 24 := by simp [hF.1]
  obtain ⟨V, hV⟩ : ∃ V, F.map (Value.int .u8) = V := ⟨_, rfl⟩
  have r0 : ((w.alloc (.cells (F.map (Value.int .u8)).toArray 44)).alloc (.cells #[.int .i64 0, .int .i64 0, .int .i64 0, .int .i64 0, .int .i64 0, .int .i64 0] 43)).heap[w.heap.size]? = some (.cells (F.map (Value.int .u8)).toArray 44 (0, 0)) := by
    rw [Below.heap_alloc _ _ _ (by simp)]
    exact heap_alloc_new w _
  have r2 : ((w.alloc (.cells (F.map (Value.int .u8)).toArray 44)).alloc (.cells #[.int .i64 0, .int .i64 0, .int .i64 0, .int .i64 0, .int .i64 0, .int .i64 0] 43)).heap[w.heap.size + 1]? = some (.cells #[.int .i64 0, .int .i64 0, .int .i64 0, .int .i64 0, .int .i64 0, .int .i64 0] 43 (0, 0)) := heap_alloc2_new w _ _
  have HB : Hid (Below w.heap.size w ((w.alloc (.cells (F.map (Value.int .u8)).toArray 44)).alloc (.cells #[.int .i64 0, .int .i64 0, .int .i64 0, .int .i64 0, .int .i64 0, .int .i64 0] 43))) := Lib.hid (((Below.refl _ w).alloc (Nat.le_refl _) _).alloc (by simp) _)
  have hs1 : ((w.alloc (.cells (F.map (Value.int .u8)).toArray 44)).alloc (.cells #[.int .i64 0, .int .i64 0, .int .i64 0, .int .i64 0, .int .i64 0, .int .i64 0] 43)).heap.size = w.heap.size + 2 := by simp
  rw [hV] at V24 r2 HB hs1
  obtain ⟨W1, hW1⟩ : ∃ W1, ((w.alloc (.cells V.toArray 44)).alloc (.cells #[.int .i64 0, .int .i64 0, .int .i64 0, .int .i64 0, .int .i64 0, .int .i64 0] 43)) = W1 := ⟨_, rfl⟩
  have fa : FrameAt W1 w.heap.size F := ⟨by rw [← hW1, ← hV]; exact r0, hF⟩
  rw [hW1] at r2 HB hs1
  rw [hV]
  have R2 := Lib.hid r2
  have HS1 := Lib.hid hs1
  have HFA := Lib.hid fa
  have c0 := fa.cell 0 (by omega)
  have c1 := fa.cell 1 (by omega)
  have c2 := fa.cell 2 (by omega)
  have c3 := fa.cell 3 (by omega)
  have c17 := fa.cell 17 (by omega)
  have c18 := fa.cell 18 (by omega)
  have c19 := fa.cell 19 (by omega)
  have d1 := fa.bd 1 (by omega)
  have d2 := fa.bd 2 (by omega)
  have d3 := fa.bd 3 (by omega)
  have KC := Lib.hid (fun (n c : Nat) => (fa.chk c (W1.drewN n) rfl).mono fun e w' (h : _ ∧ _) => (⟨h.1, h.2.symm⟩ : e = .returned (.int .i64 (chkOf (F.take 20))) ∧ w' = W1.drewN n))
  have KN := Lib.hid (fun (n c : Nat) => (fa.num c 20 4 (by omega) (by omega) (W1.drewN n) rfl).mono fun e w' (h : _ ∧ _) => (⟨h.1, h.2.symm⟩ : e = .returned (.int .i64 (numOf ((F.drop 20).take 4))) ∧ w' = W1.drewN n))
  obtain ⟨ck, hck⟩ : ∃ ck, chkOf (F.take 20) = ck := ⟨_, rfl⟩
  obtain ⟨nm, hnm⟩ : ∃ nm, numOf ((F.drop 20).take 4) = nm := ⟨_, rfl⟩
  rw [hck] at KC
  rw [hnm] at KN
  have e0 : (byteAt F 0 != 77) = false := by simp [h0]
  obtain ⟨f1, hf1⟩ : ∃ x, byteAt F 1 = x := ⟨_, rfl⟩
  obtain ⟨f2, hf2⟩ : ∃ x, byteAt F 2 = x := ⟨_, rfl⟩
  obtain ⟨f3, hf3⟩ : ∃ x, byteAt F 3 = x := ⟨_, rfl⟩
  obtain ⟨f17, hf17⟩ : ∃ x, byteAt F 17 = x := ⟨_, rfl⟩
  obtain ⟨f18, hf18⟩ : ∃ x, byteAt F 18 = x := ⟨_, rfl⟩
  obtain ⟨f19, hf19⟩ : ∃ x, byteAt F 19 = x := ⟨_, rfl⟩
  rw [hf1] at c1 d1
  rw [hf2] at c2 d2
  rw [hf3] at c3 d3
  rw [hf17] at c17
  rw [hf18] at c18
  rw [hf19] at c19
  have c4 := fa.cell 4 (by omega)
  rw [← hs] at hf1
  rw [← ho] at c4
  have K2 := Lib.hid (fun (w1 : World) (c : Nat) (h : Blw W1.heap.size W1 w1) => (fa.kept h).num c 2 2 (by omega) (by omega) w1 rfl)
  have K5 := Lib.hid (fun (w1 : World) (c : Nat) (h : Blw W1.heap.size W1 w1) => (fa.kept h).num c 5 4 (by omega) (by omega) w1 rfl)
  have K9 := Lib.hid (fun (w1 : World) (c : Nat) (h : Blw W1.heap.size W1 w1) => (fa.kept h).num c 9 4 (by omega) (by omega) w1 rfl)
  have K13 := Lib.hid (fun (w1 : World) (c : Nat) (h : Blw W1.heap.size W1 w1) => (fa.kept h).num c 13 4 (by omega) (by omega) w1 rfl)
  rw [← hc] at K2
  obtain ⟨x5, hx5⟩ : ∃ x, numOf ((F.drop 5).take 4) = x := ⟨_, rfl⟩
  obtain ⟨x9, hx9⟩ : ∃ x, numOf ((F.drop 9).take 4) = x := ⟨_, rfl⟩
  obtain ⟨x13, hx13⟩ : ∃ x, numOf ((F.drop 13).take 4) = x := ⟨_, rfl⟩
  rw [hx5] at K5 hx
  rw [hx9] at K9 hy
  rw [hx13] at K13 hz
  rw [hck, hnm, hf2, hf3, hf17, hf18, hf19] at hT
  obtain ⟨ss, cc, oo, xx, yy, zz⟩ := t
  simp only at hx hy hz hc hs ho hf1 K2 c4 hft ⊢
  rw [← hs, hf1] at hT
  subst hf1
  obtain ⟨r, hr⟩ : ∃ r, vectorErr xx yy zz = r := ⟨_, rfl⟩
  rw [hr]
  have HR := Lib.hid hr
  clear hr
  have u0 : (ck != nm) = false := by simp [hT.1]
  have u1 : (f17 != 255 - ss) = false := by simp [hT.2.1]
  have u2 : (f18 != 255 - f2) = false := by simp [hT.2.2.1]
  have u3 : (f19 != 255 - f3) = false := by simp [hT.2.2.2]
  have hR0 : Blw W1.heap.size W1 W1 := show Below _ _ _ from Below.refl _ _
  have g4 := fa.bd 4 (by omega)
  rw [← ho] at g4
  have bx : -1048576 ≤ xx ∧ xx ≤ 4293918719 := hft.vx
  have by' : -1048576 ≤ yy ∧ yy ≤ 4293918719 := hft.vy
  have bz : -1048576 ≤ zz ∧ zz ≤ 4293918719 := hft.vz
  have ex : x5 - 1048576 = xx := hx.symm
  have ey : x9 - 1048576 = yy := hy.symm
  have ez : x13 - 1048576 = zz := hz.symm
  clear hs1 hck hnm hf2 hf3 hf17 hf18 hf19 r0 hV h0 hF hT hx hy hz hc hs ho hx5 hx9 hx13 hft fa
  go_enter Tryz.func24, Tryz.ntmps24
  go_upto_region 1 with fail
  try rw [hW1]
  clear hW1
  go_upto_region 4 with fail
  go_quiet (first | (go_at_call 86; exact Calls.quiet_of_same (KC.out _ _)) | (go_at_call 87; exact Calls.quiet_of_same (KN.out _ _)))
  go_upto_region 6 with fail
  generalize hW2 : W1.drewN _ = W2
  have b2 : Below W1.heap.size W1 W2 := by rw [← hW2]; exact below_drewN (Below.refl _ _) _
  have z2 : W2.heap.size = W1.heap.size := by rw [← hW2]; rfl
  have e1 : W2.cell? ⟨w.heap.size, 1, none⟩ = some (.int .u8 ss) := by rw [← hW2]; exact c1
  have e4 : W2.cell? ⟨w.heap.size, 4, none⟩ = some (.int .u8 oo) := by rw [← hW2]; exact c4
  have R2' : Hid (W2.heap[w.heap.size + 1]? = some (.cells #[.int .i64 0, .int .i64 0, .int .i64 0, .int .i64 0, .int .i64 0, .int .i64 0] 43 (0, 0))) := Lib.hid (by rw [← hW2]; exact R2.out)
  have hR : Blw W1.heap.size W1 W2.drew := show Below _ _ _ from b2.drew
  have hRa : ∀ o : Obj, Blw W1.heap.size W1 ((W2.alloc o).drew) := fun o => show Below _ _ _ from (b2.alloc (by omega) o).drew
  have HB2 := Lib.hid b2
  have HZ2 := Lib.hid z2
  have hlt1 : w.heap.size < W2.heap.size := by have := HS1.out; omega
  have ws : IntKind.i64.wrap ss = ss := IntWalk.i64_in _ ⟨by omega, by omega⟩
  have wo : IntKind.i64.wrap oo = oo := IntWalk.i64_in _ ⟨by omega, by omega⟩
  have wx : IntKind.i64.wrap xx = xx := IntWalk.i64_in _ ⟨by omega, by omega⟩
  have wy : IntKind.i64.wrap yy = yy := IntWalk.i64_in _ ⟨by omega, by omega⟩
  have wz : IntKind.i64.wrap zz = zz := IntWalk.i64_in _ ⟨by omega, by omega⟩
  clear z2 hW2 c0 c1 c2 c3 c4 c17 c18 c19 b2 u0 u1 u2 u3 KC KN R2 hR0
  go_cut [5] (fun s5 wr => ∃ B W6, s5 = .pointer (some ⟨B, 0, none⟩) ∧ W6 = wr ∧ W1.heap.size ≤ B ∧ W6.heap[B]? = some (.cells #[.int .i64 ss, .int .i64 cc, .int .i64 oo, .int .i64 0, .int .i64 0, .int .i64 0] 43 (0, 0)) ∧ Below W1.heap.size W1 W6 ∧ W6.heap[w.heap.size + 1]? = some (.cells #[.int .i64 0, .int .i64 0, .int .i64 0, .int .i64 0, .int .i64 0, .int .i64 0] 43 (0, 0)))
  case first =>
    go_region_held3 (fun w' => w'.cell? ⟨w.heap.size, 1, none⟩ = some (.int .u8 ss) ∧ w'.cell? ⟨w.heap.size, 4, none⟩ = some (.int .u8 oo) ∧ Blw W1.heap.size W1 w')
      (first | go_keep | (go_split_ands; refine ⟨?_, ?_, ?_⟩ <;> first | (with_reducible assumption) | exact hRa _ | (simp [go_sem, *]; done)))
      ((go_at_call 87; refine (K2.out _ _ ?_).mono ?_; rotate_left 1; rintro e w9 ⟨rfl, rfl⟩; rotate_left 1; (first | assumption | exact hRa _)))
    all_goals go_wp2_with fail
    all_goals go_meet
    all_goals
      refine ⟨_, _, rfl, rfl, ?_, ?_, ?_, ?_⟩
      · have := HZ2.out; omega
      · exact blk_alloc_new W2 _
      · exact hRa _
      · exact blk_alloc_other R2'.out _
  case rest =>
    obtain ⟨B, W6, rfl, rfl, hB, hblk, hb6, hz6⟩ := hcut
    obtain ⟨p0, p1, p2, p3, p4, p5⟩ := tel_cells hblk
    have q3 : W6.frozen? ⟨B, 3, none⟩ = false := by simp [World.frozen?, hblk]
    have q4 : W6.frozen? ⟨B, 4, none⟩ = false := by simp [World.frozen?, hblk]
    have q5 : W6.frozen? ⟨B, 5, none⟩ = false := by simp [World.frozen?, hblk]
    have hR6 : Blw W1.heap.size W1 W6.drew := show Below _ _ _ from hb6.drew
    have hne : w.heap.size + 1 ≠ B := by have := HS1.out; omega
    have HBLK := Lib.hid hblk
    have HZ6 := Lib.hid hz6
    have HB6 := Lib.hid hb6
    clear e1 e4 hRa hR R2' K2 hblk hz6 hb6 hlt1
    go_upto_region 7 with fail
    go_region_held3 (fun _ => True) (trivial)
      (first
        | ((go_at_call 87; (with_reducible refine (K5.out _ _ hR6).mono ?_); rintro e w9 ⟨rfl, rfl⟩))
        | ((go_at_call 87; (with_reducible refine (K9.out _ _ hR6).mono ?_); rintro e w9 ⟨rfl, rfl⟩))
        | ((go_at_call 87; (with_reducible refine (K13.out _ _ hR6).mono ?_); rintro e w9 ⟨rfl, rfl⟩)))
    obtain ⟨W7, hW7⟩ : ∃ W7, (((W6.setCell ⟨B, 3, none⟩ (.int .i64 xx)).setCell ⟨B, 4, none⟩ (.int .i64 yy)).setCell ⟨B, 5, none⟩ (.int .i64 zz)).drew = W7 := ⟨_, rfl⟩
    have hblk : W7.heap[B]? = some (.cells #[.int .i64 ss, .int .i64 cc, .int .i64 oo, .int .i64 xx, .int .i64 yy, .int .i64 zz] 43 (0, 0)) := by
      rw [← hW7]; exact tel_set3 HBLK.out _ _ _
    have hz7 : W7.heap[w.heap.size + 1]? = some (.cells #[.int .i64 0, .int .i64 0, .int .i64 0, .int .i64 0, .int .i64 0, .int .i64 0] 43 (0, 0)) := by
      rw [← hW7]
      exact (Below.heap_setCell _ _ _ _ (by simp; omega)).trans ((Below.heap_setCell _ _ _ _ (by simp; omega)).trans ((Below.heap_setCell _ _ _ _ (by simp; omega)).trans HZ6.out))
    have hb7 : Below W1.heap.size W1 W7 := by
      rw [← hW7]
      exact (((HB6.out.setCell (p := ⟨B, 3, none⟩) hB _).setCell (p := ⟨B, 4, none⟩) hB _).setCell (p := ⟨B, 5, none⟩) hB _).drew
    rw [hW7]
    clear hW7 p0 p1 p2 p3 p4 p5 q3 q4 q5 K5 K9 K13 hR6 ws wo wx wy wz ex ey ez
    obtain ⟨p0, p1, p2, p3, p4, p5⟩ := tel_cells hblk
    have hlB := lt_of_blk hblk
    have hl1 := lt_of_blk hz7
    have KV := Lib.hid (refCheckVector_all xx yy zz W7)
    rw [HR.out] at KV
    have HZ7 := Lib.hid hz7
    have HB7 := Lib.hid (HB.out.trans (hb7.mono HB.out.size))
    clear hblk hz7 hb7
    by_cases hr0 : r = 0
    · subst hr0
      go_wp2_with (first
        | (go_at_call 83; refine KV.out.mono ?_; rintro e w8 ⟨rfl, hb8⟩
           have d0 : w8.cell? ⟨B, 0, none⟩ = some (.int .i64 ss) := (hb8.cell (p := ⟨B, 0, none⟩) hlB).trans p0
           have d1 : w8.cell? ⟨B, 1, none⟩ = some (.int .i64 cc) := (hb8.cell (p := ⟨B, 1, none⟩) hlB).trans p1
           have d2 : w8.cell? ⟨B, 2, none⟩ = some (.int .i64 oo) := (hb8.cell (p := ⟨B, 2, none⟩) hlB).trans p2
           have d3 : w8.cell? ⟨B, 3, none⟩ = some (.int .i64 xx) := (hb8.cell (p := ⟨B, 3, none⟩) hlB).trans p3
           have d4 : w8.cell? ⟨B, 4, none⟩ = some (.int .i64 yy) := (hb8.cell (p := ⟨B, 4, none⟩) hlB).trans p4
           have d5 : w8.cell? ⟨B, 5, none⟩ = some (.int .i64 zz) := (hb8.cell (p := ⟨B, 5, none⟩) hlB).trans p5
           have HZ8 := Lib.hid ((hb8.block _ hl1).trans HZ7.out)
           have HB8 := Lib.hid (HB7.out.trans (hb8.mono HB7.out.size))
           clear hb8 p0 p1 p2 p3 p4 p5)
        | (refine wpList_store_row rfl 43 (.tmp 2) (.tmp 84) rfl (w.heap.size + 1) rfl _ rfl 43 _ HZ8.out ?i2 ?i3 ?i4 ?_))
      case i2 => rfl
      case i3 => kernel_rfl
      case i4 => first | exact ⟨rfl, rfl, rfl, rfl, rfl, rfl⟩ | exact rfl | simp
      go_wp2
      refine bodyPost_ret (results_row_tmp Tryz.results24 _ _ (w.heap.size + 1) 43 _ (0, 0) _ rfl (setRow_heap w8 _ _ _ _ _ HZ8.out) Tryz.underlying43 rfl (by kernel_rfl)) rfl ⟨rfl, ?_⟩
      exact HB8.out.trans ((OnlyBlk.setRow w8 (w.heap.size + 1) _).below HB8.out.size (by omega))
    · have e0 : (r != 0) = true := by simp [hr0]
      have HR0 := Lib.hid hr0
      clear hr0
      go_wp2_with (first
        | (go_at_call 83; refine KV.out.mono ?_; rintro e w8 ⟨rfl, hb8⟩
           have HZ8 := Lib.hid ((hb8.block _ hl1).trans HZ7.out)
           have HB8 := Lib.hid (HB7.out.trans (hb8.mono HB7.out.size))
           clear hb8 p0 p1 p2 p3 p4 p5)
        | (refine wpList_store_row rfl 43 (.tmp 2) (.tmp 82) rfl (w.heap.size + 1) rfl _ rfl 43 _ HZ8.out ?i2 ?i3 ?i4 ?_))
      case i2 => rfl
      case i3 => kernel_rfl
      case i4 => first | exact ⟨rfl, rfl, rfl, rfl, rfl, rfl⟩ | exact rfl | simp
      go_wp2
      refine bodyPost_ret (results_row_tmp Tryz.results24 _ _ (w.heap.size + 1) 43 _ (0, 0) _ rfl (setRow_heap w8 _ _ _ _ _ HZ8.out) Tryz.underlying43 rfl (by kernel_rfl)) rfl ⟨by rw [DecV_bad HR0.out]; rfl, ?_⟩
      exact HB8.out.trans ((OnlyBlk.setRow w8 (w.heap.size + 1) _).below HB8.out.size (by omega))

end Go.Proofs.YthmaoeajbmfmaaaGreatDoor
