/-
  Contract of the reference's Decode for 24 bytes that agree with one another; and for any 24 bytes.
-/
import Derived.Test.YtlnhgplloaiiiaaGreatDoorKHa
import Derived.Test.YtlnhgplloaiiiaaGreatDoorKWw
import Derived.Test.YtlnhgplloaiiiaaGreatDoorKZn
import Derived.Test.YtlnhgplloaiiiaaGreatDoorKXg
import Derived.Test.YtlnhgplloaiiiaaGreatDoorKXe
namespace Go.Proofs.YtlnhgplloaiiiaaGreatDoor
open Go.RowKit
set_option linter.unusedVariables false
set_option linter.unusedSimpArgs false

theorem FrameAt.kept {W1 w1 : World} {B : Nat} {F : List Int} (h : FrameAt W1 B F) (hb : Below W1.heap.size W1 w1) : FrameAt w1 B F := ⟨h.blk.kept hb h.blk.lt, h.bytes⟩
def DecV (t : Tel) (r : Int) : Value := .tuple #[(if r = 0 then t else tel0).agg, .int .i64 r]
theorem DecV_bad {t : Tel} {r : Int} (h : r ≠ 0) : DecV t r = .tuple #[.agg #[.int .i64 0, .int .i64 0, .int .i64 0, .int .i64 0, .int .i64 0, .int .i64 0], .int .i64 r] := by
  unfold DecV; rw [if_neg h]; rfl
theorem tel_cells {w : World} {B : Nat} {T : TypeId} {s c o x y z : Value} (h : w.heap[B]? = some (.cells #[s, c, o, x, y, z] T (0, 0))) : w.cell? ⟨B, 0, none⟩ = some s ∧ w.cell? ⟨B, 1, none⟩ = some c ∧ w.cell? ⟨B, 2, none⟩ = some o ∧ w.cell? ⟨B, 3, none⟩ = some x ∧ w.cell? ⟨B, 4, none⟩ = some y ∧ w.cell? ⟨B, 5, none⟩ = some z :=
  ⟨by rw [cell_of_row w B 0 _ _ (0, 0) h]; rfl, by rw [cell_of_row w B 1 _ _ (0, 0) h]; rfl, by rw [cell_of_row w B 2 _ _ (0, 0) h]; rfl, by rw [cell_of_row w B 3 _ _ (0, 0) h]; rfl, by rw [cell_of_row w B 4 _ _ (0, 0) h]; rfl, by rw [cell_of_row w B 5 _ _ (0, 0) h]; rfl⟩
theorem tel_set3 {w : World} {B : Nat} {T : TypeId} {s c o x y z : Value} (h : w.heap[B]? = some (.cells #[s, c, o, x, y, z] T (0, 0))) (x' y' z' : Value) :
    (((w.setCell ⟨B, 3, none⟩ x').setCell ⟨B, 4, none⟩ y').setCell ⟨B, 5, none⟩ z').heap[B]? = some (.cells #[s, c, o, x', y', z'] T (0, 0)) := by
  simp only [World.setCell, Array.getElem?_modify, if_true, h, Option.map_some]
  simp
theorem seg_eq (F : List Int) (hF : F.length = 24) (o n : Nat) (ho : o + n ≤ 24) : (F.drop o).take n = (List.range n).map (fun j => byteAt F (o + j)) := by
  refine List.ext_getElem (by rw [List.length_take, List.length_drop, hF]; simp; omega) fun j h1 h2 => ?_
  simp only [List.getElem_take, List.getElem_drop, List.getElem_map, List.getElem_range, byteAt]
  rw [List.getElem?_eq_getElem (by simp at h2; omega)]
  rfl

set_option maxRecDepth 100000 in
set_option maxHeartbeats 12800000 in
theorem refDecode_ok (F : List Int) (hF : Bytes24 F) (h0 : byteAt F 0 = 77) (hT : chkOf (F.take 20) = numOf ((F.drop 20).take 4) ∧ byteAt F 17 = 255 - byteAt F 1 ∧ byteAt F 18 = 255 - byteAt F 2 ∧ byteAt F 19 = 255 - byteAt F 3) (w : World) :
    Calls Tryz.prog 73 #[.agg (F.map (Value.int .u8)).toArray] w fun e w' => e = .returned (DecV (telOf F) (vectorErr (telOf F).x (telOf F).y (telOf F).z)) ∧ Below w.heap.size w w' := by
  have hx : (telOf F).x = numOf ((F.drop 5).take 4) - 1048576 := by rw [seg_eq F hF.1 5 4 (by omega)]; rfl
  have hy : (telOf F).y = numOf ((F.drop 9).take 4) - 1048576 := by rw [seg_eq F hF.1 9 4 (by omega)]; rfl
  have hz : (telOf F).z = numOf ((F.drop 13).take 4) - 1048576 := by rw [seg_eq F hF.1 13 4 (by omega)]; rfl
  have hc : (telOf F).c = numOf ((F.drop 2).take 2) := by rw [seg_eq F hF.1 2 2 (by omega)]; rfl
  have hs : (telOf F).s = byteAt F 1 := rfl
  have ho : (telOf F).o = byteAt F 4 := rfl
  have hft := (raw_telOf F hF h0).2.2
  obtain ⟨t, ht⟩ : ∃ t, telOf F = t := ⟨_, rfl⟩
  rw [ht] at hx hy hz hc hs ho hft ⊢
  clear ht
  have V24 : (F.map (Value.int .u8)).length = 24 := by simp [hF.1]
  obtain ⟨V, hV⟩ : ∃ V, F.map (Value.int .u8) = V := ⟨_, rfl⟩
  have r0 : ((w.alloc (.cells (F.map (Value.int .u8)).toArray 108)).alloc (.cells #[.int .i64 0, .int .i64 0, .int .i64 0, .int .i64 0, .int .i64 0, .int .i64 0] 107)).heap[w.heap.size]? = some (.cells (F.map (Value.int .u8)).toArray 108 (0, 0)) := by
    rw [Below.heap_alloc _ _ _ (by simp)]
    exact heap_alloc_new w _
  have r2 : ((w.alloc (.cells (F.map (Value.int .u8)).toArray 108)).alloc (.cells #[.int .i64 0, .int .i64 0, .int .i64 0, .int .i64 0, .int .i64 0, .int .i64 0] 107)).heap[w.heap.size + 1]? = some (.cells #[.int .i64 0, .int .i64 0, .int .i64 0, .int .i64 0, .int .i64 0, .int .i64 0] 107 (0, 0)) := heap_alloc2_new w _ _
  have HB : Hid (Below w.heap.size w ((w.alloc (.cells (F.map (Value.int .u8)).toArray 108)).alloc (.cells #[.int .i64 0, .int .i64 0, .int .i64 0, .int .i64 0, .int .i64 0, .int .i64 0] 107))) := Lib.hid (((Below.refl _ w).alloc (Nat.le_refl _) _).alloc (by simp) _)
  have hs1 : ((w.alloc (.cells (F.map (Value.int .u8)).toArray 108)).alloc (.cells #[.int .i64 0, .int .i64 0, .int .i64 0, .int .i64 0, .int .i64 0, .int .i64 0] 107)).heap.size = w.heap.size + 2 := by simp
  rw [hV] at V24 r2 HB hs1
  obtain ⟨W1, hW1⟩ : ∃ W1, ((w.alloc (.cells V.toArray 108)).alloc (.cells #[.int .i64 0, .int .i64 0, .int .i64 0, .int .i64 0, .int .i64 0, .int .i64 0] 107)) = W1 := ⟨_, rfl⟩
  have fa : FrameAt W1 w.heap.size F := ⟨by rw [← hW1, ← hV]; exact r0, hF⟩
  rw [hW1] at r2 HB hs1
  rw [hV]
  have R2 := Lib.hid r2
  have HS1 := Lib.hid hs1
  have HFA := Lib.hid fa
  have c0 := fa.cell 0 (by omega)
  have c1 := fa.cell 1 (by omega)
  have c2 := fa.cell 2 (by omega)
  have c3 := fa.cell 3 (by omega)
  have c17 := fa.cell 17 (by omega)
  have c18 := fa.cell 18 (by omega)
  have c19 := fa.cell 19 (by omega)
  have d1 := fa.bd 1 (by omega)
  have d2 := fa.bd 2 (by omega)
  have d3 := fa.bd 3 (by omega)
  have KC := Lib.hid (fun (n c : Nat) => (fa.chk c (W1.drewN n) rfl).mono fun e w' (h : _ ∧ _) => (⟨h.1, h.2.symm⟩ : e = .returned (.int .i64 (chkOf (F.take 20))) ∧ w' = W1.drewN n))
  have KN := Lib.hid (fun (n c : Nat) => (fa.num c 20 4 (by omega) (by omega) (W1.drewN n) rfl).mono fun e w' (h : _ ∧ _) => (⟨h.1, h.2.symm⟩ : e = .returned (.int .i64 (numOf ((F.drop 20).take 4))) ∧ w' = W1.drewN n))
  obtain ⟨ck, hck⟩ : ∃ ck, chkOf (F.take 20) = ck := ⟨_, rfl⟩
  obtain ⟨nm, hnm⟩ : ∃ nm, numOf ((F.drop 20).take 4) = nm := ⟨_, rfl⟩
  rw [hck] at KC
  rw [hnm] at KN
  have e0 : (byteAt F 0 != 77) = false := by simp [h0]
  obtain ⟨f1, hf1⟩ : ∃ x, byteAt F 1 = x := ⟨_, rfl⟩
  obtain ⟨f2, hf2⟩ : ∃ x, byteAt F 2 = x := ⟨_, rfl⟩
  obtain ⟨f3, hf3⟩ : ∃ x, byteAt F 3 = x := ⟨_, rfl⟩
  obtain ⟨f17, hf17⟩ : ∃ x, byteAt F 17 = x := ⟨_, rfl⟩
  obtain ⟨f18, hf18⟩ : ∃ x, byteAt F 18 = x := ⟨_, rfl⟩
  obtain ⟨f19, hf19⟩ : ∃ x, byteAt F 19 = x := ⟨_, rfl⟩
  rw [hf1] at c1 d1
  rw [hf2] at c2 d2
  rw [hf3] at c3 d3
  rw [hf17] at c17
  rw [hf18] at c18
  rw [hf19] at c19
  have c4 := fa.cell 4 (by omega)
  rw [← hs] at hf1
  rw [← ho] at c4
  have K2 := Lib.hid (fun (w1 : World) (c : Nat) (h : Blw W1.heap.size W1 w1) => (fa.kept h).num c 2 2 (by omega) (by omega) w1 rfl)
  have K5 := Lib.hid (fun (w1 : World) (c : Nat) (h : Blw W1.heap.size W1 w1) => (fa.kept h).num c 5 4 (by omega) (by omega) w1 rfl)
  have K9 := Lib.hid (fun (w1 : World) (c : Nat) (h : Blw W1.heap.size W1 w1) => (fa.kept h).num c 9 4 (by omega) (by omega) w1 rfl)
  have K13 := Lib.hid (fun (w1 : World) (c : Nat) (h : Blw W1.heap.size W1 w1) => (fa.kept h).num c 13 4 (by omega) (by omega) w1 rfl)
  rw [← hc] at K2
  obtain ⟨x5, hx5⟩ : ∃ x, numOf ((F.drop 5).take 4) = x := ⟨_, rfl⟩
  obtain ⟨x9, hx9⟩ : ∃ x, numOf ((F.drop 9).take 4) = x := ⟨_, rfl⟩
  obtain ⟨x13, hx13⟩ : ∃ x, numOf ((F.drop 13).take 4) = x := ⟨_, rfl⟩
  rw [hx5] at K5 hx
  rw [hx9] at K9 hy
  rw [hx13] at K13 hz
  rw [hck, hnm, hf2, hf3, hf17, hf18, hf19] at hT
  obtain ⟨ss, cc, oo, xx, yy, zz⟩ := t
  simp only at hx hy hz hc hs ho hf1 K2 c4 hft ⊢
  rw [← hs, hf1] at hT
  subst hf1
  obtain ⟨r, hr⟩ : ∃ r, vectorErr xx yy zz = r := ⟨_, rfl⟩
  rw [hr]
  have HR := Lib.hid hr
  clear hr
  have u0 : (ck != nm) = false := by simp [hT.1]
  have u1 : (f17 != 255 - ss) = false := by simp [hT.2.1]
  have u2 : (f18 != 255 - f2) = false := by simp [hT.2.2.1]
  have u3 : (f19 != 255 - f3) = false := by simp [hT.2.2.2]
  have hR0 : Blw W1.heap.size W1 W1 := show Below _ _ _ from Below.refl _ _
  have g4 := fa.bd 4 (by omega)
  rw [← ho] at g4
  have bx : -1048576 ≤ xx ∧ xx ≤ 4293918719 := hft.vx
  have by' : -1048576 ≤ yy ∧ yy ≤ 4293918719 := hft.vy
  have bz : -1048576 ≤ zz ∧ zz ≤ 4293918719 := hft.vz
  have ex : x5 - 1048576 = xx := hx.symm
  have ey : x9 - 1048576 = yy := hy.symm
  have ez : x13 - 1048576 = zz := hz.symm
  clear hs1 hck hnm hf2 hf3 hf17 hf18 hf19 r0 hV h0 hF hT hx hy hz hc hs ho hx5 hx9 hx13 hft fa
  go_enter Tryz.func73, Tryz.ntmps73
  go_upto_region 1 with fail
  try rw [hW1]
  clear hW1
  go_upto_region 4 with fail
  go_quiet (first | (go_at_call 150; exact Calls.quiet_of_same (KC.out _ _)) | (go_at_call 151; exact Calls.quiet_of_same (KN.out _ _)))
  go_upto_region 6 with fail
  generalize hW2 : W1.drewN _ = W2
  have b2 : Below W1.heap.size W1 W2 := by rw [← hW2]; exact below_drewN (Below.refl _ _) _
  have z2 : W2.heap.size = W1.heap.size := by rw [← hW2]; rfl
  have e1 : W2.cell? ⟨w.heap.size, 1, none⟩ = some (.int .u8 ss) := by rw [← hW2]; exact c1
  have e4 : W2.cell? ⟨w.heap.size, 4, none⟩ = some (.int .u8 oo) := by rw [← hW2]; exact c4
  have R2' : Hid (W2.heap[w.heap.size + 1]? = some (.cells #[.int .i64 0, .int .i64 0, .int .i64 0, .int .i64 0, .int .i64 0, .int .i64 0] 107 (0, 0))) := Lib.hid (by rw [← hW2]; exact R2.out)
  have hR : Blw W1.heap.size W1 W2.drew := show Below _ _ _ from b2.drew
  have hRa : ∀ o : Obj, Blw W1.heap.size W1 ((W2.alloc o).drew) := fun o => show Below _ _ _ from (b2.alloc (by omega) o).drew
  have HB2 := Lib.hid b2
  have HZ2 := Lib.hid z2
  have hlt1 : w.heap.size < W2.heap.size := by have := HS1.out; omega
  have ws : IntKind.i64.wrap ss = ss := IntWalk.i64_in _ ⟨by omega, by omega⟩
  have wo : IntKind.i64.wrap oo = oo := IntWalk.i64_in _ ⟨by omega, by omega⟩
  have wx : IntKind.i64.wrap xx = xx := IntWalk.i64_in _ ⟨by omega, by omega⟩
  have wy : IntKind.i64.wrap yy = yy := IntWalk.i64_in _ ⟨by omega, by omega⟩
  have wz : IntKind.i64.wrap zz = zz := IntWalk.i64_in _ ⟨by omega, by omega⟩
  clear z2 hW2 c0 c1 c2 c3 c4 c17 c18 c19 b2 u0 u1 u2 u3 KC KN R2 hR0
  go_cut [5] (fun s5 wr => ∃ B W6, s5 = .pointer (some ⟨B, 0, none⟩) ∧ W6 = wr ∧ W1.heap.size ≤ B ∧ W6.heap[B]? = some (.cells #[.int .i64 ss, .int .i64 cc, .int .i64 oo, .int .i64 0, .int .i64 0, .int .i64 0] 107 (0, 0)) ∧ Below W1.heap.size W1 W6 ∧ W6.heap[w.heap.size + 1]? = some (.cells #[.int .i64 0, .int .i64 0, .int .i64 0, .int .i64 0, .int .i64 0, .int .i64 0] 107 (0, 0)))
  case first =>
    go_region_held3 (fun w' => w'.cell? ⟨w.heap.size, 1, none⟩ = some (.int .u8 ss) ∧ w'.cell? ⟨w.heap.size, 4, none⟩ = some (.int .u8 oo) ∧ Blw W1.heap.size W1 w')
      (first | go_keep | (go_split_ands; refine ⟨?_, ?_, ?_⟩ <;> first | (with_reducible assumption) | exact hRa _ | (simp [go_sem, *]; done)))
      ((go_at_call 151; refine (K2.out _ _ ?_).mono ?_; rotate_left 1; rintro e w9 ⟨rfl, rfl⟩; rotate_left 1; (first | assumption | exact hRa _)))
    all_goals go_wp2_with fail
    all_goals go_meet
    all_goals
      refine ⟨_, _, rfl, rfl, ?_, ?_, ?_, ?_⟩
      · have := HZ2.out; omega
      · exact blk_alloc_new W2 _
      · exact hRa _
      · exact blk_alloc_other R2'.out _
  case rest =>
    obtain ⟨B, W6, rfl, rfl, hB, hblk, hb6, hz6⟩ := hcut
    obtain ⟨p0, p1, p2, p3, p4, p5⟩ := tel_cells hblk
    have q3 : W6.frozen? ⟨B, 3, none⟩ = false := by simp [World.frozen?, hblk]
    have q4 : W6.frozen? ⟨B, 4, none⟩ = false := by simp [World.frozen?, hblk]
    have q5 : W6.frozen? ⟨B, 5, none⟩ = false := by simp [World.frozen?, hblk]
    have hR6 : Blw W1.heap.size W1 W6.drew := show Below _ _ _ from hb6.drew
    have hne : w.heap.size + 1 ≠ B := by have := HS1.out; omega
    have HBLK := Lib.hid hblk
    have HZ6 := Lib.hid hz6
    have HB6 := Lib.hid hb6
    clear e1 e4 hRa hR R2' K2 hblk hz6 hb6 hlt1
    go_upto_region 7 with fail
    go_region_held3 (fun _ => True) (trivial)
      (first
        | ((go_at_call 151; (with_reducible refine (K5.out _ _ hR6).mono ?_); rintro e w9 ⟨rfl, rfl⟩))
        | ((go_at_call 151; (with_reducible refine (K9.out _ _ hR6).mono ?_); rintro e w9 ⟨rfl, rfl⟩))
        | ((go_at_call 151; (with_reducible refine (K13.out _ _ hR6).mono ?_); rintro e w9 ⟨rfl, rfl⟩)))
    obtain ⟨W7, hW7⟩ : ∃ W7, (((W6.setCell ⟨B, 3, none⟩ (.int .i64 xx)).setCell ⟨B, 4, none⟩ (.int .i64 yy)).setCell ⟨B, 5, none⟩ (.int .i64 zz)).drew = W7 := ⟨_, rfl⟩
    have hblk : W7.heap[B]? = some (.cells #[.int .i64 ss, .int .i64 cc, .int .i64 oo, .int .i64 xx, .int .i64 yy, .int .i64 zz] 107 (0, 0)) := by
      rw [← hW7]; exact tel_set3 HBLK.out _ _ _
    have hz7 : W7.heap[w.heap.size + 1]? = some (.cells #[.int .i64 0, .int .i64 0, .int .i64 0, .int .i64 0, .int .i64 0, .int .i64 0] 107 (0, 0)) := by
      rw [← hW7]
      exact (Below.heap_setCell _ _ _ _ (by simp; omega)).trans ((Below.heap_setCell _ _ _ _ (by simp; omega)).trans ((Below.heap_setCell _ _ _ _ (by simp; omega)).trans HZ6.out))
    have hb7 : Below W1.heap.size W1 W7 := by
      rw [← hW7]
      exact (((HB6.out.setCell (p := ⟨B, 3, none⟩) hB _).setCell (p := ⟨B, 4, none⟩) hB _).setCell (p := ⟨B, 5, none⟩) hB _).drew
    rw [hW7]
    clear hW7 p0 p1 p2 p3 p4 p5 q3 q4 q5 K5 K9 K13 hR6 ws wo wx wy wz ex ey ez
    obtain ⟨p0, p1, p2, p3, p4, p5⟩ := tel_cells hblk
    have hlB := lt_of_blk hblk
    have hl1 := lt_of_blk hz7
    have KV := Lib.hid (refCheckVector_all xx yy zz W7)
    rw [HR.out] at KV
    have HZ7 := Lib.hid hz7
    have HB7 := Lib.hid (HB.out.trans (hb7.mono HB.out.size))
    clear hblk hz7 hb7
    by_cases hr0 : r = 0
    · subst hr0
      go_wp2_with (first
        | (go_at_call 27; refine KV.out.mono ?_; rintro e w8 ⟨rfl, hb8⟩
           have d0 : w8.cell? ⟨B, 0, none⟩ = some (.int .i64 ss) := (hb8.cell (p := ⟨B, 0, none⟩) hlB).trans p0
           have d1 : w8.cell? ⟨B, 1, none⟩ = some (.int .i64 cc) := (hb8.cell (p := ⟨B, 1, none⟩) hlB).trans p1
           have d2 : w8.cell? ⟨B, 2, none⟩ = some (.int .i64 oo) := (hb8.cell (p := ⟨B, 2, none⟩) hlB).trans p2
           have d3 : w8.cell? ⟨B, 3, none⟩ = some (.int .i64 xx) := (hb8.cell (p := ⟨B, 3, none⟩) hlB).trans p3
           have d4 : w8.cell? ⟨B, 4, none⟩ = some (.int .i64 yy) := (hb8.cell (p := ⟨B, 4, none⟩) hlB).trans p4
           have d5 : w8.cell? ⟨B, 5, none⟩ = some (.int .i64 zz) := (hb8.cell (p := ⟨B, 5, none⟩) hlB).trans p5
           have HZ8 := Lib.hid ((hb8.block _ hl1).trans HZ7.out)
           have HB8 := Lib.hid (HB7.out.trans (hb8.mono HB7.out.size))
           clear hb8 p0 p1 p2 p3 p4 p5)
        | (refine wpList_store_row rfl 107 (.tmp 2) (.tmp 84) rfl (w.heap.size + 1) rfl _ rfl 107 _ HZ8.out ?i2 ?i3 ?i4 ?_))
      case i2 => rfl
      case i3 => kernel_rfl
      case i4 => first | exact ⟨rfl, rfl, rfl, rfl, rfl, rfl⟩ | exact rfl | simp
      go_wp2
      refine bodyPost_ret (results_row_tmp Tryz.results73 _ _ (w.heap.size + 1) 107 _ (0, 0) _ rfl (setRow_heap w8 _ _ _ _ _ HZ8.out) Tryz.underlying107 rfl (by kernel_rfl)) rfl ⟨rfl, ?_⟩
      exact HB8.out.trans ((OnlyBlk.setRow w8 (w.heap.size + 1) _).below HB8.out.size (by omega))
    · have e0 : (r != 0) = true := by simp [hr0]
      have HR0 := Lib.hid hr0
      clear hr0
      go_wp2_with (first
        | (go_at_call 27; refine KV.out.mono ?_; rintro e w8 ⟨rfl, hb8⟩
           have HZ8 := Lib.hid ((hb8.block _ hl1).trans HZ7.out)
           have HB8 := Lib.hid (HB7.out.trans (hb8.mono HB7.out.size))
           clear hb8 p0 p1 p2 p3 p4 p5)
        | (refine wpList_store_row rfl 107 (.tmp 2) (.tmp 82) rfl (w.heap.size + 1) rfl _ rfl 107 _ HZ8.out ?i2 ?i3 ?i4 ?_))
      case i2 => rfl
      case i3 => kernel_rfl
      case i4 => first | exact ⟨rfl, rfl, rfl, rfl, rfl, rfl⟩ | exact rfl | simp
      go_wp2
      refine bodyPost_ret (results_row_tmp Tryz.results73 _ _ (w.heap.size + 1) 107 _ (0, 0) _ rfl (setRow_heap w8 _ _ _ _ _ HZ8.out) Tryz.underlying107 rfl (by kernel_rfl)) rfl ⟨by rw [DecV_bad HR0.out]; rfl, ?_⟩
      exact HB8.out.trans ((OnlyBlk.setRow w8 (w.heap.size + 1) _).below HB8.out.size (by omega))

end Go.Proofs.YtlnhgplloaiiiaaGreatDoor

/-
  Contract of the reference's Decode for any 24 bytes: it answers as the program's.
-/
namespace Go.Proofs.YtlnhgplloaiiiaaGreatDoor
open Go.RowKit
set_option linter.unusedVariables false
set_option linter.unusedSimpArgs false

theorem checks_iff (F : List Int) (h : Bytes24 F) (h0 : byteAt F 0 = 77) : F.drop 17 = (telOf F).tail ↔ (chkOf (F.take 20) = numOf ((F.drop 20).take 4) ∧ byteAt F 17 = 255 - byteAt F 1 ∧ byteAt F 18 = 255 - byteAt F 2 ∧ byteAt F 19 = 255 - byteAt F 3) := by
  have bd : ∀ j, j < 24 → 0 ≤ byteAt F j ∧ byteAt F j ≤ 255 := fun j hj => by
    unfold byteAt
    rw [List.getElem?_eq_getElem (by rw [h.1]; exact hj)]
    exact h.2 _ (List.getElem_mem _)
  obtain ⟨e1, hR, hf⟩ := raw_telOf F h h0
  have e17 : F.drop 17 = [byteAt F 17, byteAt F 18, byteAt F 19, byteAt F 20, byteAt F 21, byteAt F 22, byteAt F 23] := by
    have h := seg_eq F h.1 17 7 (by omega)
    rw [List.take_of_length_le (by omega)] at h
    exact h
  have e20 : (F.drop 20).take 4 = [byteAt F 20, byteAt F 21, byteAt F 22, byteAt F 23] := seg_eq F h.1 20 4 (by omega)
  obtain ⟨p1, p2, _, _⟩ := num_byt2 (byteAt F 2) (byteAt F 3) (bd 2 (by omega)) (bd 3 (by omega))
  have hs : (telOf F).s = byteAt F 1 := rfl
  have hc1 : byt (telOf F).c 1 = byteAt F 2 := p1
  have hc0 : byt (telOf F).c 0 = byteAt F 3 := p2
  have hi := tail_iff (telOf F).s (telOf F).c (telOf F).o (telOf F).x (telOf F).y (telOf F).z (byteAt F 17) (byteAt F 18) (byteAt F 19) (byteAt F 20) (byteAt F 21) (byteAt F 22) (byteAt F 23) (bd 20 (by omega)) (bd 21 (by omega)) (bd 22 (by omega)) (bd 23 (by omega))
  rw [← e17, ← e1, ← e20, hs, hc1, hc0] at hi
  exact hi

theorem refDecode_all (F : List Int) (h : Bytes24 F) (w : World) :
    Calls Tryz.prog 73 #[.agg (F.map (Value.int .u8)).toArray] w fun e w' => e = .returned (.tuple #[(decTel F).agg, .int .i64 (decErr F)]) ∧ Below w.heap.size w w' := by
  by_cases h0 : byteAt F 0 = 77
  · have hi := checks_iff F h h0
    by_cases hT : F.drop 17 = (telOf F).tail
    · have hE : decErr F = vectorErr (telOf F).x (telOf F).y (telOf F).z := by
        unfold decErr
        rw [if_neg (by simp [h0]), if_neg (by simp [hT])]
        exact telErr_fit (raw_telOf F h h0).2.2
      unfold decTel
      rw [hE]
      exact refDecode_ok F h h0 (hi.1 hT) w
    · have hE : decErr F = 27 := by unfold decErr; rw [if_neg (by simp [h0]), if_pos hT]
      unfold decTel
      rw [hE, if_neg (by decide)]
      exact refDecode_check F h h0 (fun hh => hT (hi.2 hh)) w
  · have hE : decErr F = 1 := by unfold decErr; rw [if_pos h0]
    unfold decTel
    rw [hE, if_neg (by decide)]
    exact refDecode_form F h.1 h0 w
end Go.Proofs.YtlnhgplloaiiiaaGreatDoor

/-
  Contracts of the law's telegrams, of mapped checks and of the counters of any telegrams.
-/
namespace Go.Proofs.YtlnhgplloaiiiaaGreatDoor
open Go.RowKit
set_option linter.unusedVariables false
set_option linter.unusedSimpArgs false

theorem flat_val_at : ∀ (L : List Tel) (k j : Nat) (v : Value), k < L.length → (L[k]?.getD tel0).val[j]? = some v → (L.flatMap Tel.val)[6 * k + j]? = some v
  | [], _, _, _, h, _ => by simp at h
  | t :: L, 0, j, v, _, h => by
    simp only [List.getElem?_cons_zero, Option.getD_some] at h
    rw [List.flatMap_cons, List.getElem?_append_left (by have := (List.getElem?_eq_some_iff.1 h).1; omega)]
    rw [Nat.mul_zero, Nat.zero_add]; exact h
  | t :: L, k + 1, j, v, hk, h => by
    have hl : t.val.length = 6 := rfl
    rw [List.flatMap_cons, List.getElem?_append_right (by omega), hl, show 6 * (k + 1) + j - 6 = 6 * k + j by omega]
    exact flat_val_at L k j v (by simpa using hk) (by simpa using h)

theorem AnyTels.of_row {w : World} {B : Nat} {v : Value} {n : Nat} {L : List Tel} (hl : L.length = n) (h : w.ownsRow B 112 6 v n (L.flatMap Tel.val)) : ∃ a c, v = .slice a n c ∧ AnyTels w a n L := by
  rcases h.2 with ⟨rfl, rfl⟩ | ⟨g, cap, cur, rfl, hb, hg, _⟩
  · exact ⟨none, 0, rfl, hl, fun j hj => absurd hj (by omega)⟩
  · refine ⟨_, _, rfl, hl, fun j hj => ⟨g, 0, rfl, lt_of_blk hg, fun k hk i u hu => ?_⟩⟩
    have h1 := h.cells (g := g) rfl (6 * k + i) u (flat_val_at L k i u hk hu)
    rw [Addr.add_mid, Nat.zero_add] at h1
    rw [Nat.zero_add, Nat.mul_comm k 6]
    exact h1

theorem short_any (a : Option Addr) (n c : Nat) (w : World) (hm : n ≤ maxLen) :
    Calls Tryz.prog 77 #[.slice a n c] w fun e w' => e = .returned (.bool (decide (n ≤ 20) || decide (n = 513))) ∧ w = w' := by
  unfold maxLen at hm
  by_cases h : n ≤ 20
  · have e : (decide (n ≤ 20) || decide (n = 513)) = true := by simp [h]
    rw [e]
    clear e
    go_enter Tryz.func77, Tryz.ntmps77
    go_wp2
    go_ret
    exact ⟨rfl, rfl⟩
  · by_cases h2 : n = 513
    · subst h2
      go_enter Tryz.func77, Tryz.ntmps77
      go_wp2
      go_ret
      exact ⟨rfl, rfl⟩
    · have e : (decide (n ≤ 20) || decide (n = 513)) = false := by simp [h, h2]
      rw [e]
      have e2 : ((n : Int) == 513) = false := by simp; omega
      clear e h2
      go_enter Tryz.func77, Tryz.ntmps77
      go_wp2
      go_ret
      exact ⟨congrArg (fun b => Ending.returned (.bool b)) (show decide ((n : Int) ≤ 20) = false by simp; omega), rfl⟩

set_option maxRecDepth 100000 in
set_option maxHeartbeats 3200000 in
theorem telegrams_any (L : List Tel) (a : Option Addr) (n cp : Nat) (hm : n ≤ 513) (w : World) (hA : AnyTels w a n L) :
    Calls Tryz.prog 79 #[.slice a n cp] w fun e w' => ∃ a' c', e = .returned (.slice a' n c') ∧ AnyTels w' a' n L ∧ Below w.heap.size w w' := by
  obtain ⟨i0, hi, hz0, hz1, hz2⟩ := info_parts Tryz.infoTel
  have HC := Lib.hid hA.2
  have HN := Lib.hid hA.1.symm
  clear hA
  have s35 : (Tryz.prog.info? 107).map (·.size) = some 6 := by kernel_rfl
  go_enter Tryz.func79, Tryz.ntmps79
  go_wp2
  go_loopw [3, 8] (fun out i wr => ∃ k : Nat, k ≤ n ∧ i = .int .i64 k ∧ wr.ownsRow w.heap.size 112 6 out k ((L.take k).flatMap Tel.val) ∧ Below w.heap.size w wr)
    (fun _ i _ => n - (intOf i).toNat)
  case atStart => exact ⟨0, Nat.zero_le _, rfl, World.ownsRow_nil _ _ _ _, Below.refl _ _⟩
  case round =>
    obtain ⟨k, hk, rfl, hown, hnx⟩ := hrel
    have hsz : w.heap.size ≤ wr.heap.size := hnx.size
    by_cases hlt : k < n
    · have hlt2 : k < L.length := by have := HN.out; omega
      obtain ⟨b, q, rfl, hb, hT0⟩ := HC.out k hlt
      have hT := hT0 k hlt2
      have hS := flat_take_succ L k hlt2
      obtain ⟨t, ht⟩ : ∃ t, L[k]?.getD tel0 = t := ⟨_, rfl⟩
      rw [ht] at hT hS
      have hr : wr.rangeAt b (q + k * 6) t.val := fun j v hv => by
        rw [hnx.cell (by exact hb)]
        exact hT j v hv
      have HR := Lib.hid hr
      have HS := Lib.hid hS
      clear ht hr hT hT0 hlt2 hS HC
      have hv : t.val = [.int .i64 t.s, .int .i64 t.c, .int .i64 t.o, .int .i64 t.x, .int .i64 t.y, .int .i64 t.z] := rfl
      go_wp2_with (first
        | (refine wpList_load_mid rfl 107 (.tmp 10) rfl b (q + k * 6) rfl t.val _ HR.out Tryz.underlying107 rfl (by rw [s35]; rfl) ?_)
        | (at_builtin; refine wpList_append_own _ rfl (.tmp 12) (.tmp 14) 115 rfl w.heap.size 112 i0 (.agg #[.int .i64 0, .int .i64 0, .int .i64 0, .int .i64 0, .int .i64 0, .int .i64 0]) 6 48 Tryz.underlying115 hi hz0 hz1 hz2 rfl (by decide) _ k _ rfl ((hown.alloc _).alloc _) ⟨wr.heap.size + 1, 0, none⟩ 1 1 t.val rfl rfl (cells_new6' _ _ _ _ _ _ _ _ _) (by intro u hu; simp [Tel.val] at hu; rcases hu with rfl | rfl | rfl | rfl | rfl | rfl <;> rfl) (by unfold maxLen; omega) (by omega) (by simp; omega) ?_; intro v' w3 hown3 hgrow3 _))
      have hlt' := hown.lt
      go_roundw
      case rel => exact ⟨k + 1, by omega, by go_num, by rw [HS.out]; exact hown3, ((hnx.alloc (by omega) _).alloc (by simp; omega) _).grown hgrow3 (by simp; omega) (fun j hj => (hlt' j hj).1)⟩
      case measure => simp [intOf]; omega
    · obtain rfl : k = n := by omega
      have ho : wr.ownsRow w.heap.size 112 6 u3 k (L.flatMap Tel.val) := by
        have h := hown
        rwa [List.take_of_length_le (by have := HN.out; omega)] at h
      obtain ⟨a', c', hv, hA'⟩ := AnyTels.of_row HN.out.symm ho
      have HA := Lib.hid hA'
      have HX := Lib.hid hnx
      clear ho hown hA' hnx
      subst hv
      go_wp2
      go_ret
      exact ⟨_, _, rfl, HA.out, HX.out⟩

set_option maxRecDepth 100000 in
set_option maxHeartbeats 3200000 in
theorem mapped_tels (L : List Tel) (a : Option Addr) (n cp : Nat) (hm : n ≤ 512) (w : World) (hA : AnyTels w a n L) :
    Calls Tryz.prog 152 #[.slice a n cp, .func (.func 143) #[] #[]] w fun e w' =>
      e = .returned (.slice (some ⟨w.heap.size, 0, none⟩) n n) ∧ w'.ownsRow w.heap.size 26 1 (.slice (some ⟨w.heap.size, 0, none⟩) n n) n ((L.map Tel.err).map (Value.int .i64)) ∧ Below w.heap.size w w' := by
  obtain ⟨i0, hi, hz0, hz1, hz2⟩ := info_parts Tryz.info26_check
  have HC := Lib.hid hA.2
  have HN := Lib.hid hA.1.symm
  clear hA
  have s35 : (Tryz.prog.info? 112).map (·.size) = some 6 := by kernel_rfl
  go_enter Tryz.func152, Tryz.ntmps152
  go_wp2_with (at_make; refine wpList_make_own _ rfl _ _ 173 rfl w.heap.size 26 i0 (.int .i64 0) 1 Tryz.underlying173 hi hz0 hz1 _ _ _ n rfl rfl (by omega) ?b2 ?b3 (Nat.le_refl _) ?_)
  case b2 => rw [hz2]; omega
  case b3 => unfold maxLen; omega
  intro w0 hown0 hgrow0
  go_wp2
  go_loopw [5, 13] (fun out i wr => ∃ k : Nat, k ≤ n ∧ i = .int .i64 k ∧ out = .slice (some ⟨w.heap.size, 0, none⟩) k n ∧
      wr.ownsRow w.heap.size 26 1 (.slice (some ⟨w.heap.size, 0, none⟩) k n) k (((L.map Tel.err).take k).map (Value.int .i64)) ∧ Below w.heap.size w wr)
    (fun _ i _ => n - (intOf i).toNat)
  case atStart => exact ⟨0, Nat.zero_le _, rfl, rfl, hown0, (Below.refl _ _).grown hgrow0 (Nat.le_refl _) (fun k h => by cases h)⟩
  case round =>
    obtain ⟨k, hk, rfl, rfl, hown, hnx⟩ := hrel
    have hsz := hnx.size
    by_cases hlt : k < n
    · have hlt2 : k < L.length := by have := HN.out; omega
      obtain ⟨b, q, rfl, hb, hT0⟩ := HC.out k hlt
      have hT := hT0 k hlt2
      have hS := take_map_succ (Value.int .i64) (L.map Tel.err) k (by rw [List.length_map]; exact hlt2) 0
      have hE : (L.map Tel.err)[k]?.getD 0 = (L[k]?.getD tel0).err := by rw [List.getElem?_map, List.getElem?_eq_getElem hlt2]; rfl
      rw [hE] at hS
      clear hE
      obtain ⟨t, ht⟩ : ∃ t, L[k]?.getD tel0 = t := ⟨_, rfl⟩
      rw [ht] at hT hS
      have hr : wr.rangeAt b (q + k * 6) t.val := fun j v hv => by
        rw [hnx.cell (by exact hb)]
        exact hT j v hv
      have HR := Lib.hid hr
      have K := Lib.hid (checkTelegram_all t.s t.c t.o t.x t.y t.z)
      have HS := Lib.hid hS
      obtain ⟨r, hrr⟩ : ∃ r, t.err = r := ⟨_, rfl⟩
      rw [show telErr t.s t.c t.o t.x t.y t.z = r from hrr] at K
      rw [hrr] at HS
      clear ht hr hT hT0 hS hrr hlt2 HC
      have hv : t.val = [.int .i64 t.s, .int .i64 t.c, .int .i64 t.o, .int .i64 t.x, .int .i64 t.y, .int .i64 t.z] := rfl
      go_wp2_with (first
        | (refine wpList_load_mid rfl 112 (.tmp 15) rfl b (q + k * 6) rfl t.val _ HR.out Tryz.underlying112 rfl (by rw [s35]; rfl) ?_)
        | (go_at_call 143; refine (K.out _).mono ?_; rintro e w2 ⟨rfl, hb2⟩
           have hown2 := owns_kept (hown.alloc _) hb2 (Nat.le_refl _)
           have hs2 : wr.heap.size + 1 ≤ w2.heap.size := by simpa using hb2.size)
        | (at_builtin; refine wpList_append_fits _ rfl (.tmp 17) (.tmp 21) 173 rfl w.heap.size 26 i0 1 Tryz.underlying173 hi hz1 w.heap.size k n _ rfl (hown2.alloc _) ⟨w2.heap.size, 0, none⟩ 1 1 [.int .i64 r] rfl rfl (cell_one_new _ _ _) (by intro u hu; simp at hu; subst hu; rfl) (by omega) ?_; intro w1 hown1 hgrow1))
      have hB2 : Below w.heap.size w w2 := (hnx.alloc hsz _).trans (hb2.mono (by simp; omega))
      go_roundw
      case rel => exact ⟨k + 1, by omega, by go_num, rfl, by rw [HS.out]; exact hown1, (hB2.alloc (by omega) _).grown hgrow1 (by simp; omega) (fun j hj => by cases hj; exact Nat.le_refl _)⟩
      case measure => simp [intOf]; omega
    · go_wp2
      go_ret
      obtain rfl : k = n := by omega
      rw [List.take_of_length_le (by have := HN.out; rw [List.length_map]; omega)] at hown
      exact ⟨rfl, hown, hnx⟩

set_option maxRecDepth 100000 in
set_option maxHeartbeats 3200000 in
theorem countersOf_all (L : List Tel) (a : Option Addr) (n cp : Nat) (st : Int) (hm : n ≤ 512) (w : World) (hA : AnyTels w a n L) :
    Calls Tryz.prog 154 #[.slice a n cp, .int .i64 st] w fun e w' =>
      ∃ v, e = .returned v ∧ w'.ownsRow w.heap.size 3 1 v (countsOf L st).length ((countsOf L st).map (Value.int .i64)) ∧ Below w.heap.size w w' := by
  obtain ⟨i0, hi, hz0, hz1, hz2⟩ := info_parts Tryz.infoInt
  have HC := Lib.hid hA.2
  have HN := Lib.hid hA.1.symm
  clear hA
  have s35 : (Tryz.prog.info? 112).map (·.size) = some 6 := by kernel_rfl
  go_enter Tryz.func154, Tryz.ntmps154
  go_wp2
  go_loopw [5, 10] (fun out i wr => ∃ k : Nat, k ≤ n ∧ i = .int .i64 k ∧ wr.ownsRow w.heap.size 3 1 out (countsOf (L.take k) st).length ((countsOf (L.take k) st).map (Value.int .i64)) ∧ Below w.heap.size w wr)
    (fun _ i _ => n - (intOf i).toNat)
  case atStart => exact ⟨0, Nat.zero_le _, rfl, World.ownsRow_nil _ _ _ _, Below.refl _ _⟩
  case round =>
    obtain ⟨k, hk, rfl, hown, hnx⟩ := hrel
    have hsz : w.heap.size ≤ wr.heap.size := hnx.size
    by_cases hlt : k < n
    · obtain ⟨b, q, rfl, hb, hT0⟩ := HC.out k hlt
      have hT := hT0 k (by have := HN.out; omega)
      have hS := countsOf_succ L st k (by have := HN.out; omega)
      obtain ⟨t, ht⟩ : ∃ t, L[k]?.getD tel0 = t := ⟨_, rfl⟩
      rw [ht] at hT hS
      have hr : wr.rangeAt b (q + k * 6) t.val := fun j v hv => by
        rw [hnx.cell (by exact hb)]
        exact hT j v hv
      have HR := Lib.hid hr
      have HS := Lib.hid hS
      clear ht hr hT hT0 hS HC
      have hv : t.val = [.int .i64 t.s, .int .i64 t.c, .int .i64 t.o, .int .i64 t.x, .int .i64 t.y, .int .i64 t.z] := rfl
      have hcl := counts_len (L.take k) st
      have hcl2 : (L.take k).length ≤ k := by simp; omega
      by_cases hst : t.s = st
      · have HST := Lib.hid hst
        have hst1 : (t.s == st) = true := by simp [hst]
        clear hst
        go_wp2_with (first
          | (refine wpList_load_mid rfl 112 (.tmp 12) rfl b (q + k * 6) rfl t.val _ HR.out Tryz.underlying112 rfl (by rw [s35]; rfl) ?_)
          | (at_builtin; refine wpList_append_own _ rfl (.tmp 18) (.tmp 21) 25 rfl w.heap.size 3 i0 (.int .i64 0) 1 8 Tryz.underlying25 hi hz0 hz1 hz2 rfl (by decide) _ _ _ rfl ((hown.alloc _).alloc _) ⟨wr.heap.size + 1, 0, none⟩ 1 1 [.int .i64 t.c] rfl rfl (by have h := cell_one_new (wr.alloc (.cells #[.int .i64 t.s, .int .i64 t.c, .int .i64 t.o, .int .i64 t.x, .int .i64 t.y, .int .i64 t.z] 112)) (.int .i64 t.c) 3; simpa using h) (by intro u hu; simp at hu; subst hu; rfl) (by unfold maxLen; omega) (by omega) (by simp; omega) ?_; intro v' w3 hown3 hgrow3 _))
        have hlt' := hown.lt
        go_roundw
        case rel => exact ⟨k + 1, by omega, by go_num, by rw [HS.out, if_pos HST.out, List.map_append, List.length_append]; exact hown3, ((hnx.alloc hsz _).alloc (by simp; omega) _).grown hgrow3 (by simp; omega) (fun j hj => (hlt' j hj).1)⟩
        case measure => simp [intOf]; omega
      · go_wp2_with (first
          | (refine wpList_load_mid rfl 112 (.tmp 12) rfl b (q + k * 6) rfl t.val _ HR.out Tryz.underlying112 rfl (by rw [s35]; rfl) ?_))
        go_roundw
        case rel => exact ⟨k + 1, by omega, by go_num, by rw [HS.out, if_neg hst]; exact hown.alloc _, hnx.alloc hsz _⟩
        case measure => simp [intOf]; omega
    · go_wp2
      go_ret
      obtain rfl : k = n := by omega
      rw [List.take_of_length_le (by have := HN.out; omega)] at hown
      exact ⟨_, rfl, hown, hnx⟩
end Go.Proofs.YtlnhgplloaiiiaaGreatDoor

/-
  Contract of missing for any counters: the counters between each one and the next, at most 257.
-/
namespace Go.Proofs.YtlnhgplloaiiiaaGreatDoor
open Go.RowKit
set_option linter.unusedVariables false
set_option linter.unusedSimpArgs false

/-- The counter that is so many behind another one. -/
def onward (a : Int) (j : Nat) : Int := (a + 1 + (j : Int)) % 65536
/-- How many counters lie between two. -/
def wide (a b : Int) : Nat := ((b - a - 1) % 65536).toNat
def cyc (a b : Int) : List Int := (List.range (wide a b)).map (onward a)
def cycTo (xs : List Int) (k : Nat) : List Int := (List.range k).flatMap (fun i => cyc (xs[i]?.getD 0) (xs[i + 1]?.getD 0))
theorem cycTo_succ (xs : List Int) (k : Nat) : cycTo xs (k + 1) = cycTo xs k ++ cyc (xs[k]?.getD 0) (xs[k + 1]?.getD 0) := by
  simp [cycTo, List.range_succ]
theorem onward_bd (a : Int) (j : Nat) : 0 ≤ onward a j ∧ onward a j ≤ 65535 := by unfold onward; omega
theorem onward_succ (a : Int) (j : Nat) : (onward a j + 1) % 65536 = onward a (j + 1) := by unfold onward; push_cast; omega
theorem onward_0 (a : Int) : (a + 1) % 65536 = onward a 0 := by unfold onward; simp
theorem wide_bd (a b : Int) : wide a b ≤ 65535 := by unfold wide; omega
/-- It is the other one just behind as many. -/
theorem onward_eq {a b : Int} (hb : 0 ≤ b ∧ b ≤ 65535) {j : Nat} (hj : j ≤ wide a b) : onward a j = b ↔ j = wide a b := by
  unfold onward wide at *; omega

/-- What stands between the first so many and the next ones. -/
def someOf (pre : List Int) (a : Int) (j : Nat) : List Int := pre ++ (List.range j).map (onward a)
theorem someOf_succ (pre : List Int) (a : Int) (j : Nat) : (someOf pre a (j + 1)).map (Value.int .i64) = (someOf pre a j).map (Value.int .i64) ++ [.int .i64 (onward a j)] := by
  simp [someOf, List.range_succ]
theorem someOf_len (pre : List Int) (a : Int) (j : Nat) : (someOf pre a j).length = pre.length + j := by simp [someOf]
theorem someOf_all (xs : List Int) (k : Nat) : someOf (cycTo xs k) (xs[k]?.getD 0) (wide (xs[k]?.getD 0) (xs[k + 1]?.getD 0)) = cycTo xs (k + 1) := by
  rw [cycTo_succ]; rfl
theorem cycTo_pre (xs : List Int) : ∀ (m k : Nat), k ≤ m → (cycTo xs k).isPrefixOf (cycTo xs m) = true := by
  intro m
  induction m with
  | zero => intro k hk; obtain rfl : k = 0 := by omega
            simp
  | succ m ih =>
    intro k hk
    by_cases h : k = m + 1
    · subst h; simp
    · have h1 := ih k (by omega)
      rw [List.isPrefixOf_iff_prefix] at h1 ⊢
      rw [cycTo_succ]
      exact h1.trans (List.prefix_append _ _)
theorem someOf_pre (xs : List Int) (k m j : Nat) (hk : k + 1 ≤ m) (hj : j ≤ wide (xs[k]?.getD 0) (xs[k + 1]?.getD 0)) : (someOf (cycTo xs k) (xs[k]?.getD 0) j) <+: (cycTo xs m) := by
  have h1 := cycTo_pre xs m (k + 1) hk
  rw [List.isPrefixOf_iff_prefix] at h1
  refine List.IsPrefix.trans ?_ h1
  rw [← someOf_all]
  unfold someOf
  refine (List.prefix_append_right_inj _).2 ?_
  refine List.IsPrefix.map _ ?_
  obtain ⟨d, hd⟩ : ∃ d, wide (xs[k]?.getD 0) (xs[k + 1]?.getD 0) = j + d := ⟨_, (Nat.add_sub_of_le hj).symm⟩
  rw [hd, List.range_add]
  exact List.prefix_append _ _
/-- A part of 257 at the front. -/
theorem take_of_pre {l m : List Int} (h : l <+: m) (hl : l.length = 257) : m.take 257 = l := by
  obtain ⟨t, rfl⟩ := h
  rw [List.take_append_of_le_length (by omega), List.take_of_length_le (by omega)]

set_option maxRecDepth 100000 in
set_option maxHeartbeats 6400000 in
theorem missing_all (xs : List Int) (n g c : Nat) (hA : ∀ j, j < n → 0 ≤ xs[j]?.getD 0 ∧ xs[j]?.getD 0 ≤ 65535) (hn1 : 1 ≤ n) (hm : n ≤ 512) (w : World) (hg : g < w.heap.size) (hc : ∀ j, j < n → w.cell? ⟨g, j, none⟩ = some (.int .i64 (xs[j]?.getD 0))) :
    Calls Tryz.prog 153 #[.slice (some ⟨g, 0, none⟩) n c, .int .i64 257] w fun e w' =>
      ∃ v, e = .returned v ∧ w'.ownsRow w.heap.size 3 1 v ((cycTo xs (n - 1)).take 257).length (((cycTo xs (n - 1)).take 257).map (Value.int .i64)) ∧ Below w.heap.size w w' := by
  obtain ⟨i0, hi, hz0, hz1, hz2⟩ := info_parts Tryz.infoInt
  have HC := Lib.hid hc
  have HA := Lib.hid hA
  clear hc hA
  have j1 : ((1 : Int) ≤ (n : Int)) := by omega
  have j2 : ((n : Int) ≤ 512) := by omega
  go_enter Tryz.func153, Tryz.ntmps153
  go_wp2
  go_step3
  go_wp2
  go_step3
  go_wp2
  go_loopw [5, 13] (fun out i wr => ∃ k : Nat, k ≤ n - 1 ∧ i = .int .i64 k ∧ (cycTo xs k).length ≤ 257 ∧ wr.ownsRow w.heap.size 3 1 out (cycTo xs k).length ((cycTo xs k).map (Value.int .i64)) ∧ Below w.heap.size w wr)
    (fun _ i _ => n - (intOf i).toNat)
  case atStart => exact ⟨0, Nat.zero_le _, rfl, by simp [cycTo], World.ownsRow_nil _ _ _ _, Below.refl _ _⟩
  case round =>
    obtain ⟨k, hk, rfl, hlen, hown, hnx⟩ := hrel
    have hsz := hnx.size
    by_cases hlt : k + 1 < n
    · have c0 : wr.cell? ⟨g, k, none⟩ = some (.int .i64 (xs[k]?.getD 0)) := (hnx.cell (by exact hg)).trans (HC.out k (by omega))
      have c1 : wr.cell? ⟨g, k + 1, none⟩ = some (.int .i64 (xs[k + 1]?.getD 0)) := (hnx.cell (by exact hg)).trans (HC.out (k + 1) hlt)
      have hb0 := HA.out k (by omega)
      have hb1 := HA.out (k + 1) hlt
      have hS := someOf_all xs k
      have hP := fun j hj => someOf_pre xs k (n - 1) j (by omega) hj
      have hQ := fun j => @onward_eq (xs[k]?.getD 0) _ hb1 j
      obtain ⟨a, ha⟩ : ∃ a, xs[k]?.getD 0 = a := ⟨_, rfl⟩
      obtain ⟨b, hb⟩ : ∃ b, xs[k + 1]?.getD 0 = b := ⟨_, rfl⟩
      obtain ⟨pre, hpre⟩ : ∃ pre, cycTo xs k = pre := ⟨_, rfl⟩
      rw [ha] at c0 hb0 hS hP hQ
      rw [hb] at c1 hb1 hS hP hQ
      rw [hpre] at hown hlen hS hP
      have HS := Lib.hid hS
      have HP := Lib.hid hP
      have HQ := Lib.hid hQ
      obtain ⟨Wd, hWide⟩ : ∃ Wd : Nat, wide a b = Wd := ⟨_, rfl⟩
      have hWb := wide_bd a b
      rw [hWide] at HS HP HQ hWb
      clear ha hb hpre hS hP hQ hWide
      have hltI : ((k : Int) < (n : Int) - 1) := by omega
      have k0 : ((k : Int) < (n : Int)) := by omega
      have k1 : ((k : Int) + 1 < (n : Int)) := by omega
      have k2 : ((0 : Int) ≤ (k : Int) + 1) := by omega
      have k3 : ((k : Int) + 1).toNat = k + 1 := by omega
      have k4 : IntKind.i64.wrap ((k : Int) + 1) = (k : Int) + 1 := IntWalk.i64_in _ ⟨by omega, by omega⟩
      go_wp2_with fail
      go_region_held3 (fun w' => w'.cell? ⟨g, k, none⟩ = some (.int .i64 a) ∧ w'.cell? ⟨g, k + 1, none⟩ = some (.int .i64 b)) (go_keep) (fail)
      have KF : Hid (∀ w, Calls Tryz.prog 177 #[.int .i64 a] w fun e w' => e = .returned (.int .i64 (onward a 0)) ∧ w = w') := Lib.hid fun w => by
        have h := following_any a hb0.1 hb0.2 w
        rwa [onward_0] at h
      go_wp2_with (go_at_call 177; refine (KF.out _).mono ?_; rintro e w' ⟨rfl, rfl⟩)
      obtain ⟨WD, hWd⟩ : ∃ WD, wr.drew = WD := ⟨_, rfl⟩
      have hownd : WD.ownsRow w.heap.size 3 1 u5 (pre.length) (pre.map (Value.int .i64)) := by rw [← hWd]; exact hown
      have hBd : Below w.heap.size w WD := by rw [← hWd]; exact hnx.drew
      rw [hWd]
      clear hWd hown c0 c1 KF
      go_loopw [5, 9] (fun out i wi => ∃ j : Nat, j ≤ Wd ∧ i = .int .i64 (onward a j) ∧ (someOf pre a j).length ≤ 257 ∧ wi.ownsRow w.heap.size 3 1 out (someOf pre a j).length ((someOf pre a j).map (Value.int .i64)) ∧ Below w.heap.size w wi)
        (fun out i _ => match out with | .slice _ l _ => 300 - l | _ => 0)
      case atStart => exact ⟨0, by omega, rfl, by simpa [someOf] using hlen, by simpa [someOf] using hownd, hBd⟩
      case round =>
        obtain ⟨j, hj, rfl, hln, hown, hnx2⟩ := hrel
        have hsz2 := hnx2.size
        by_cases hjl : j < Wd
        · have hne : (onward a j != b) = true := by
            have h := (HQ.out j hj).1
            simp; intro h2; have := h h2; omega
          have hob := onward_bd a j
          have hos := onward_succ a j
          have hsu := someOf_succ pre a j
          have hsl := someOf_len pre a (j + 1)
          have hsl0 := someOf_len pre a j
          have hPj := HP.out j hj
          obtain ⟨S, hSd⟩ : ∃ S, someOf pre a j = S := ⟨_, rfl⟩
          obtain ⟨S1, hSd1⟩ : ∃ S1, someOf pre a (j + 1) = S1 := ⟨_, rfl⟩
          rw [hSd] at hsl0 hln hown hsu hPj
          rw [hSd1] at hsl hsu
          obtain ⟨ℓ, hℓ⟩ : ∃ ℓ, S.length = ℓ := ⟨_, rfl⟩
          obtain ⟨x, hx⟩ : ∃ x, onward a j = x := ⟨_, rfl⟩
          obtain ⟨x1, hx1⟩ : ∃ x1, onward a (j + 1) = x1 := ⟨_, rfl⟩
          rw [hx] at hne hob hos hsu ⊢
          rw [hx1] at hos
          rw [hℓ] at hown hln hsl0
          have hl1 : S1.length = ℓ + 1 := by omega
          obtain ⟨ao, cc, rfl⟩ := owns_slice hown
          by_cases h257 : ℓ = 257
          · have hT := take_of_pre hPj (by omega)
            have e0 : ((ℓ : Int) == 257) = true := by simp [h257]
            have HT : Hid ((cycTo xs (n - 1)).take 257 = S ∧ S.length = ℓ) := Lib.hid ⟨hT, hℓ⟩
            have HO := Lib.hid hown
            have HX := Lib.hid hnx2
            clear hT hown hnx2 hPj hℓ hsl hsl0 hsu hos hl1 hSd hSd1 hx hx1 h257
            go_wp2
            try rw [Exit.noGoto_ret]
            go_ret
            exact ⟨_, rfl, by rw [HT.out.1, HT.out.2]; exact HO.out, HX.out⟩
          · have e0 : ((ℓ : Int) == 257) = false := by simp; omega
            have KG : Hid (∀ w, Calls Tryz.prog 177 #[.int .i64 x] w fun e w' => e = .returned (.int .i64 x1) ∧ w = w') := Lib.hid fun w => by
              have h := following_any x hob.1 hob.2 w
              rwa [hos] at h
            have HSU := Lib.hid hsu
            have HD := Lib.hid (And.intro hSd1 hx1)
            have HL1 := Lib.hid hl1
            have hℓ2 : ℓ ≤ 256 := by omega
            clear hPj hℓ hsl hsl0 hsu hos hl1 hSd hSd1 hx hx1 h257
            go_wp2_with (first
              | (go_at_call 177; refine (KG.out _).mono ?_; rintro e w' ⟨rfl, rfl⟩)
              | (at_builtin; refine wpList_append_own _ rfl (.tmp 36) (.tmp 38) 25 rfl w.heap.size 3 i0 (.int .i64 0) 1 8 Tryz.underlying25 hi hz0 hz1 hz2 rfl (by decide) _ _ _ rfl (hown.alloc _) ⟨wr.heap.size, 0, none⟩ 1 1 [.int .i64 x] rfl rfl (cell_one_new _ _ _) (by intro u hu; simp at hu; subst hu; rfl) (by unfold maxLen; omega) (by omega) (by simp; omega) ?_; intro v' w3 hown3 hgrow3 _))
            have hlt' := hown.lt
            go_roundw
            case rel =>
              refine ⟨j + 1, by omega, by rw [HD.out.2], by rw [HD.out.1, HL1.out]; omega, ?_, (hnx2.alloc hsz2 _).grown hgrow3 (by simp; omega) (fun q hq => (hlt' q hq).1)⟩
              rw [HD.out.1, HSU.out, HL1.out]
              exact hown3
            case measure =>
              obtain ⟨ao', cc', hv'⟩ := owns_slice hown3
              subst hv'
              simp; omega
        · have hje : j = Wd := by omega
          have hne : (onward a j != b) = false := by
            have h := (HQ.out j hj).2 hje
            simp [h]
          subst hje
          have HO := Lib.hid hown
          have HX := Lib.hid hnx2
          have HLN := Lib.hid hln
          clear hown hnx2 hln
          go_wp2
          go_roundw
          case rel => exact ⟨k + 1, by omega, by go_num, by rw [← HS.out]; exact HLN.out, by rw [← HS.out]; exact HO.out, HX.out⟩
          case measure => simp [intOf]; omega
    · have hltI : ¬ ((k : Int) < (n : Int) - 1) := by omega
      obtain rfl : k = n - 1 := by omega
      have hT : (cycTo xs (n - 1)).take 257 = cycTo xs (n - 1) := List.take_of_length_le hlen
      have HT := Lib.hid hT
      have HO := Lib.hid hown
      have HX := Lib.hid hnx
      clear hT hown hnx
      go_wp2
      try rw [Exit.noGoto_ret]
      go_ret
      exact ⟨_, rfl, by rw [HT.out]; exact HO.out, HX.out⟩
end Go.Proofs.YtlnhgplloaiiiaaGreatDoor

/-
  Contract of Lost for any telegrams and any station.
-/
namespace Go.Proofs.YtlnhgplloaiiiaaGreatDoor
open Go.RowKit
set_option linter.unusedVariables false
set_option linter.unusedSimpArgs false

theorem counts_bd (L : List Tel) (st : Int) (h : ∀ t ∈ L, t.Good) (j : Nat) (hj : j < (countsOf L st).length) : 0 ≤ (countsOf L st)[j]?.getD 0 ∧ (countsOf L st)[j]?.getD 0 ≤ 65535 := by
  have hm : (countsOf L st)[j]?.getD 0 ∈ countsOf L st := by
    rw [List.getElem?_eq_getElem hj]; exact List.getElem_mem hj
  generalize (countsOf L st)[j]?.getD 0 = x at hm
  unfold countsOf at hm
  obtain ⟨t, ht, rfl⟩ := List.mem_map.1 hm
  exact (h t (List.mem_filter.1 ht).1).ct
theorem firstNZ_append (a b : List Int) : firstNZ (a ++ b) = if firstNZ a = 0 then firstNZ b else firstNZ a := by
  induction a with
  | nil => simp [firstNZ]
  | cons x r ih =>
    rw [List.cons_append, firstNZ, firstNZ]
    by_cases h : x = 0
    · simp [h, ih]
    · simp [h]
theorem firstNZ_mem {l : List Int} (h : firstNZ l = 0) : ∀ x ∈ l, x = 0 := by
  induction l with
  | nil => simp
  | cons x r ih =>
    rw [firstNZ] at h
    by_cases h0 : x = 0
    · simp only [h0, ne_eq, not_true, if_false] at h
      intro y hy
      rcases List.mem_cons.1 hy with rfl | hy
      · exact h0
      · exact ih h y hy
    · simp [h0] at h
theorem telsErr_good {L : List Tel} (h : telsErr L = 0) : ∀ t ∈ L, t.Good := fun t ht => by
  have h1 := firstNZ_mem h t.err (List.mem_map.2 ⟨t, ht, rfl⟩)
  rcases t.err_or with ⟨_, hg⟩ | h3
  · exact hg
  · rw [h3] at h1; cases h1

/-- The counters that are lost, and the error. -/
def lostL (L : List Tel) (st : Int) : List Int := cycTo (countsOf L st) ((countsOf L st).length - 1)
noncomputable def argErr (L : List Tel) (st : Int) : Int := firstNZ [telsErr L, rangeErr st 0 255]
noncomputable def lostErr (L : List Tel) (st : Int) : Int := if argErr L st ≠ 0 then argErr L st else if 256 < (lostL L st).length then 5 else 0
noncomputable def lostN (L : List Tel) (st : Int) : Nat := if lostErr L st = 0 then (lostL L st).length else 0
theorem argErr_app (L : List Tel) (st : Int) : firstNZ (L.map Tel.err ++ [rangeErr st 0 255]) = argErr L st := by
  unfold argErr telsErr
  rw [firstNZ_append]
  by_cases h : firstNZ (L.map Tel.err) = 0
  · rw [if_pos h, h]; simp [firstNZ]
  · rw [if_neg h]
    rw [firstNZ, if_pos h]
theorem argErr_zero {L : List Tel} {st : Int} (h : argErr L st = 0) : telsErr L = 0 ∧ 0 ≤ st ∧ st ≤ 255 := by
  obtain ⟨h1, h2⟩ := firstNZ_two h
  exact ⟨h1, rangeErr_zero h2⟩
theorem nil_slice {w : World} {B T sz : Nat} {v : Value} {xs : List Value} (h : w.ownsRow B T sz v 0 xs) : ∃ a c, v = .slice a 0 c := by
  rcases h.2 with ⟨rfl, _⟩ | ⟨g, cap, cur, rfl, _⟩
  · exact ⟨_, _, rfl⟩
  · exact ⟨_, _, rfl⟩

/-- missing at a slice that owns counters, or at none. -/
theorem missing_row (xs : List Int) (n : Nat) (hl : xs.length = n) (hA : ∀ j, j < n → 0 ≤ xs[j]?.getD 0 ∧ xs[j]?.getD 0 ≤ 65535) (hm : n ≤ 512) (w : World) (B : Nat) (v : Value) (h : w.ownsRow B 3 1 v n (xs.map (Value.int .i64))) :
    Calls Tryz.prog 153 #[v, .int .i64 257] w fun e w' =>
      ∃ v', e = .returned v' ∧ w'.ownsRow w.heap.size 3 1 v' ((cycTo xs (n - 1)).take 257).length (((cycTo xs (n - 1)).take 257).map (Value.int .i64)) ∧ Below w.heap.size w w' := by
  by_cases hn : 1 ≤ n
  · obtain ⟨g, c, rfl, hg, _⟩ := owns_some h hn
    exact missing_all xs n g c hA hn hm w hg (fun j hj => owns_cell h (by
      rw [List.getElem?_map, List.getElem?_eq_getElem (by rw [hl]; exact hj)]; rfl))
  · obtain rfl : n = 0 := by omega
    obtain ⟨ao, c, rfl⟩ := nil_slice h
    exact (missing_none ao c w).mono fun e w' ⟨he, hw⟩ => ⟨_, he, by subst hw; exact World.ownsRow_nil _ _ _ _, by subst hw; exact Below.refl _ _⟩

set_option maxRecDepth 100000 in
set_option maxHeartbeats 3200000 in
theorem lost_many (a : Option Addr) (cp : Nat) (st : Int) (w : World) :
    Calls Tryz.prog 78 #[.slice a 513 cp, .int .i64 st] w fun e w' => e = .returned (.tuple #[.slice none 0 0, .int .i64 5]) ∧ w = w' := by
  go_enter Tryz.func78, Tryz.ntmps78
  go_wp2
  go_ret2
  exact ⟨rfl, rfl⟩

set_option maxRecDepth 100000 in
set_option maxHeartbeats 3200000 in
theorem lost_bad (L : List Tel) (a : Option Addr) (n cp : Nat) (st : Int) (hm : n ≤ 512) (w : World) (hA : AnyTels w a n L) (h0 : argErr L st ≠ 0) :
    Calls Tryz.prog 78 #[.slice a n cp, .int .i64 st] w fun e w' => e = .returned (.tuple #[.slice none 0 0, .int .i64 (argErr L st)]) ∧ Below w.heap.size w w' := by
  obtain ⟨i0, hi, hz0, hz1, hz2⟩ := info_parts Tryz.info26_check
  have K1 := Lib.hid (mapped_tels L a n cp hm w hA)
  have HN := Lib.hid hA.1.symm
  have i1 : ((n : Int) ≤ 512) := by omega
  have HR := Lib.hid (argErr_app L st)
  obtain ⟨r, hr⟩ : ∃ r, argErr L st = r := ⟨_, rfl⟩
  rw [hr] at HR h0 ⊢
  have e0 : (r != 0) = true := by simp [h0]
  clear hA hr h0
  go_enter Tryz.func78, Tryz.ntmps78
  go_wp2_with (first
    | (go_at_call 152; refine K1.out.mono ?_; rintro e w1 ⟨rfl, hown1, hb1⟩)
    | (go_at_call 92; refine (checkRange_any _ _ _ _).mono ?_; rintro e w' ⟨rfl, rfl⟩)
    | (at_builtin; refine wpList_append_own _ rfl (.tmp 12) (.tmp 15) 173 rfl w.heap.size 26 i0 (.int .i64 0) 1 8 Tryz.underlying173 hi hz0 hz1 hz2 rfl (by decide) _ n _ rfl (hown1.alloc _) ⟨w1.heap.size, 0, none⟩ 1 1 [.int .i64 (rangeErr st 0 255)] rfl rfl (cell_one_new _ _ _) (by intro u hu; simp at hu; subst hu; rfl) (by unfold maxLen; omega) (by omega) (by have := hb1.size; simp; omega) ?_;
       intro v3 w3 hown3 hgrow3 _;
       obtain ⟨g, c', rfl, hgl, _⟩ := owns_some hown3 (by omega)
       have hb3 : Below w.heap.size w w3 := (hb1.alloc hb1.size _).grown hgrow3 (by have := hb1.size; simp; omega) (fun j hj => by cases hj; exact Nat.le_refl _)
       have hz : ∀ j, j < n + 1 → w3.cell? ⟨g, 0 + j, none⟩ = some (.int .i64 ((L.map Tel.err ++ [rangeErr st 0 255])[j]?.getD 0)) := fun j hj => by
         rw [Nat.zero_add]
         refine owns_cell hown3 ?_
         have e : (L.map Tel.err).map (Value.int .i64) ++ [Value.int .i64 (rangeErr st 0 255)] = (L.map Tel.err ++ [rangeErr st 0 255]).map (Value.int .i64) := by simp
         rw [e, List.getElem?_map, List.getElem?_eq_getElem (by have := HN.out; simp; omega)]; rfl
       have HZ := Lib.hid hz
       have hw3 := hb3.size
       clear hz hown3 hgrow3 hown1 hb1)
    | (go_at_call 91; refine (first_any _ 0 _ _ (L.map Tel.err ++ [rangeErr st 0 255]) (by have := HN.out; simp; omega) (by omega) _ HZ.out).mono ?_; rintro e w' ⟨rfl, rfl⟩; rw [HR.out]))
  go_ret2
  exact ⟨rfl, hb3⟩

set_option maxRecDepth 100000 in
set_option maxHeartbeats 6400000 in
theorem lost_good (L : List Tel) (a : Option Addr) (n cp : Nat) (st : Int) (hm : n ≤ 512) (w : World) (hA : AnyTels w a n L) (h0 : argErr L st = 0) :
    Calls Tryz.prog 78 #[.slice a n cp, .int .i64 st] w fun e w' => ∃ v, e = .returned (.tuple #[v, .int .i64 (lostErr L st)]) ∧ IntsV w' v (lostN L st) (lostL L st) ∧ Below w.heap.size w w' := by
  obtain ⟨i0, hi, hz0, hz1, hz2⟩ := info_parts Tryz.info26_check
  obtain ⟨hg, hst⟩ := argErr_zero h0
  have hgood := telsErr_good hg
  have K1 := Lib.hid (mapped_tels L a n cp hm w hA)
  have K2 := Lib.hid (fun (w' : World) (h2 : AnyTels w' a n L) => countersOf_all L a n cp st hm w' h2)
  have hcl := counts_len L st
  have hln := hA.1
  have K3 := Lib.hid (fun (w' : World) (B : Nat) (v : Value) h => missing_row (countsOf L st) _ rfl (counts_bd L st hgood) (by omega) w' B v h)
  have HA := Lib.hid hA
  have HN := Lib.hid hA.1.symm
  have i1 : ((n : Int) ≤ 512) := by omega
  have HR := Lib.hid (argErr_app L st)
  have hE : lostErr L st = if 256 < (lostL L st).length then 5 else 0 := by unfold lostErr; rw [if_neg (by simp [h0])]
  rw [h0] at HR
  have K4 : Hid (∀ (w' : World) (B : Nat) (v : Value), w'.ownsRow B 3 1 v (countsOf L st).length ((countsOf L st).map (Value.int .i64)) → Calls Tryz.prog 153 #[v, .int .i64 257] w' fun e w'' =>
      ∃ v', e = .returned v' ∧ w''.ownsRow w'.heap.size 3 1 v' ((lostL L st).take 257).length (((lostL L st).take 257).map (Value.int .i64)) ∧ Below w'.heap.size w' w'') := K3
  unfold lostN
  rw [hE]
  obtain ⟨R, hR⟩ : ∃ R, lostL L st = R := ⟨_, rfl⟩
  rw [hR] at K4 ⊢
  clear hA hR K3 hg hst hgood hcl hln hE h0
  by_cases hlen : 256 < R.length
  · rw [if_pos hlen]
    have hT : (R.take 257).length = 257 := by rw [List.length_take]; omega
    rw [hT] at K4
    clear hT hlen
    go_enter Tryz.func78, Tryz.ntmps78
    go_wp2_with (first
      | (go_at_call 152; refine K1.out.mono ?_; rintro e w1 ⟨rfl, hown1, hb1⟩)
      | (go_at_call 92; refine (checkRange_any _ _ _ _).mono ?_; rintro e w' ⟨rfl, rfl⟩)
      | (at_builtin; refine wpList_append_own _ rfl (.tmp 12) (.tmp 15) 173 rfl w.heap.size 26 i0 (.int .i64 0) 1 8 Tryz.underlying173 hi hz0 hz1 hz2 rfl (by decide) _ n _ rfl (hown1.alloc _) ⟨w1.heap.size, 0, none⟩ 1 1 [.int .i64 (rangeErr st 0 255)] rfl rfl (cell_one_new _ _ _) (by intro u hu; simp at hu; subst hu; rfl) (by unfold maxLen; omega) (by omega) (by have := hb1.size; simp; omega) ?_;
         intro v3 w3 hown3 hgrow3 _;
         obtain ⟨g, c', rfl, hgl, _⟩ := owns_some hown3 (by omega)
         have hb3 : Below w.heap.size w w3 := (hb1.alloc hb1.size _).grown hgrow3 (by have := hb1.size; simp; omega) (fun j hj => by cases hj; exact Nat.le_refl _)
         have hz : ∀ j, j < n + 1 → w3.cell? ⟨g, 0 + j, none⟩ = some (.int .i64 ((L.map Tel.err ++ [rangeErr st 0 255])[j]?.getD 0)) := fun j hj => by
           rw [Nat.zero_add]
           refine owns_cell hown3 ?_
           have e : (L.map Tel.err).map (Value.int .i64) ++ [Value.int .i64 (rangeErr st 0 255)] = (L.map Tel.err ++ [rangeErr st 0 255]).map (Value.int .i64) := by simp
           rw [e, List.getElem?_map, List.getElem?_eq_getElem (by have := HN.out; simp; omega)]; rfl
         have HZ := Lib.hid hz
         have hw3 := hb3.size
         have hc3 := HA.out.kept hb3
         have K5 := Lib.hid (K2.out w3 hc3)
         clear hc3
         clear hz hown3 hgrow3 hown1 hb1)
      | (go_at_call 91; refine (first_any _ 0 _ _ (L.map Tel.err ++ [rangeErr st 0 255]) (by have := HN.out; simp; omega) (by omega) _ HZ.out).mono ?_; rintro e w' ⟨rfl, rfl⟩; rw [HR.out])
      | (go_at_call 154; refine K5.out.mono ?_; rintro e w4 ⟨v4, rfl, hown4, hb4⟩
         have K6 := Lib.hid (K4.out w4 _ _ hown4)
         have hb5 : Below w.heap.size w w4 := hb3.trans (hb4.mono hw3))
      | (go_at_call 153; refine K6.out.mono ?_; rintro e w6 ⟨v6, rfl, hown6, hb6⟩
         obtain ⟨ao, c6, rfl⟩ := owns_slice hown6
         have hb7 : Below w.heap.size w w6 := hb5.trans (hb6.mono hb5.size)))
    go_ret2
    exact ⟨_, rfl, IntsV.nil _ _, hb7⟩
  · rw [if_neg hlen]
    have hT : R.take 257 = R := List.take_of_length_le (by omega)
    rw [hT] at K4
    have i2 : ¬ ((256 : Int) < (R.length : Int)) := by omega
    obtain ⟨ℓ, hℓ⟩ : ∃ ℓ, R.length = ℓ := ⟨_, rfl⟩
    rw [hℓ] at K4 i2 ⊢
    clear hT hlen hℓ
    go_enter Tryz.func78, Tryz.ntmps78
    go_wp2_with (first
      | (go_at_call 152; refine K1.out.mono ?_; rintro e w1 ⟨rfl, hown1, hb1⟩)
      | (go_at_call 92; refine (checkRange_any _ _ _ _).mono ?_; rintro e w' ⟨rfl, rfl⟩)
      | (at_builtin; refine wpList_append_own _ rfl (.tmp 12) (.tmp 15) 173 rfl w.heap.size 26 i0 (.int .i64 0) 1 8 Tryz.underlying173 hi hz0 hz1 hz2 rfl (by decide) _ n _ rfl (hown1.alloc _) ⟨w1.heap.size, 0, none⟩ 1 1 [.int .i64 (rangeErr st 0 255)] rfl rfl (cell_one_new _ _ _) (by intro u hu; simp at hu; subst hu; rfl) (by unfold maxLen; omega) (by omega) (by have := hb1.size; simp; omega) ?_;
         intro v3 w3 hown3 hgrow3 _;
         obtain ⟨g, c', rfl, hgl, _⟩ := owns_some hown3 (by omega)
         have hb3 : Below w.heap.size w w3 := (hb1.alloc hb1.size _).grown hgrow3 (by have := hb1.size; simp; omega) (fun j hj => by cases hj; exact Nat.le_refl _)
         have hz : ∀ j, j < n + 1 → w3.cell? ⟨g, 0 + j, none⟩ = some (.int .i64 ((L.map Tel.err ++ [rangeErr st 0 255])[j]?.getD 0)) := fun j hj => by
           rw [Nat.zero_add]
           refine owns_cell hown3 ?_
           have e : (L.map Tel.err).map (Value.int .i64) ++ [Value.int .i64 (rangeErr st 0 255)] = (L.map Tel.err ++ [rangeErr st 0 255]).map (Value.int .i64) := by simp
           rw [e, List.getElem?_map, List.getElem?_eq_getElem (by have := HN.out; simp; omega)]; rfl
         have HZ := Lib.hid hz
         have hw3 := hb3.size
         have hc3 := HA.out.kept hb3
         have K5 := Lib.hid (K2.out w3 hc3)
         clear hc3
         clear hz hown3 hgrow3 hown1 hb1)
      | (go_at_call 91; refine (first_any _ 0 _ _ (L.map Tel.err ++ [rangeErr st 0 255]) (by have := HN.out; simp; omega) (by omega) _ HZ.out).mono ?_; rintro e w' ⟨rfl, rfl⟩; rw [HR.out])
      | (go_at_call 154; refine K5.out.mono ?_; rintro e w4 ⟨v4, rfl, hown4, hb4⟩
         have K6 := Lib.hid (K4.out w4 _ _ hown4)
         have hb5 : Below w.heap.size w w4 := hb3.trans (hb4.mono hw3))
      | (go_at_call 153; refine K6.out.mono ?_; rintro e w6 ⟨v6, rfl, hown6, hb6⟩
         obtain ⟨ao, c6, rfl⟩ := owns_slice hown6
         have hb7 : Below w.heap.size w w6 := hb5.trans (hb6.mono hb5.size)))
    go_ret2
    exact ⟨_, rfl, IntsV.of_row hown6, hb7⟩

theorem lost_all (L : List Tel) (a : Option Addr) (n cp : Nat) (st : Int) (hm : n ≤ 512) (w : World) (hA : AnyTels w a n L) :
    Calls Tryz.prog 78 #[.slice a n cp, .int .i64 st] w fun e w' => ∃ v, e = .returned (.tuple #[v, .int .i64 (lostErr L st)]) ∧ IntsV w' v (lostN L st) (lostL L st) ∧ Below w.heap.size w w' := by
  by_cases h0 : argErr L st = 0
  · exact lost_good L a n cp st hm w hA h0
  · have hE : lostErr L st = argErr L st := by unfold lostErr; rw [if_pos h0]
    refine (lost_bad L a n cp st hm w hA h0).mono ?_
    rintro e w' ⟨rfl, hb⟩
    refine ⟨_, by rw [hE], ?_, hb⟩
    unfold lostN
    rw [hE, if_neg h0]
    exact IntsV.nil _ _
end Go.Proofs.YtlnhgplloaiiiaaGreatDoor

/-
  Contract of Extended over a row of spans that the call owns.
-/
namespace Go.Proofs.YtlnhgplloaiiiaaGreatDoor
open Go.RowKit
set_option linter.unusedVariables false
set_option linter.unusedSimpArgs false

/-- Spans behind an index more. -/
def extL (l : List (Int × Int)) (at' : Int) : List (Int × Int) :=
  if l.length ≠ 0 ∧ (l[l.length - 1]?.getD (0, 0)).2 = at' then l.set (l.length - 1) ((l[l.length - 1]?.getD (0, 0)).1, at' + 1) else l ++ [(at', at' + 1)]
theorem extL_len (l : List (Int × Int)) (a : Int) : (extL l a).length ≤ l.length + 1 := by
  unfold extL; split <;> simp
theorem flat_len2 (l : List (Int × Int)) : (l.flatMap qval).length = l.length * 2 := by
  induction l with
  | nil => rfl
  | cons p r ih => rw [List.flatMap_cons, List.length_append, ih]; simp [qval]; omega
theorem flat_at2 : ∀ (l : List (Int × Int)) (k : Nat), k < l.length → (l.flatMap qval)[k * 2]? = some (.int .i64 (l[k]?.getD (0, 0)).1) ∧ (l.flatMap qval)[k * 2 + 1]? = some (.int .i64 (l[k]?.getD (0, 0)).2)
  | [], _, h => by simp at h
  | q :: l, 0, _ => by simp [qval]
  | q :: l, k + 1, h => by
    have ih := flat_at2 l k (by simpa using h)
    have e1 : (k + 1) * 2 = k * 2 + 1 + 1 := by omega
    rw [e1]
    simp only [List.flatMap_cons, qval, List.cons_append, List.nil_append, List.getElem?_cons_succ]
    exact ih
theorem flat_set2 : ∀ (l : List (Int × Int)) (k : Nat) (b : Int), k < l.length → (l.flatMap qval).set (k * 2 + 1) (.int .i64 b) = (l.set k ((l[k]?.getD (0, 0)).1, b)).flatMap qval
  | [], _, _, h => by simp at h
  | q :: l, 0, b, _ => by simp [qval]
  | q :: l, k + 1, b, h => by
    have ih := flat_set2 l k b (by simpa using h)
    have e1 : (k + 1) * 2 + 1 = (k * 2 + 1) + 1 + 1 := by omega
    rw [e1]
    simp only [List.flatMap_cons, qval, List.cons_append, List.nil_append, List.set_cons_succ, List.getElem?_cons_succ, List.set_cons_succ]
    rw [ih]
theorem grownBy_trans {a b c : World} {row : Option Nat} (h : a.grownBy b row) (k : b.grownBy c row) : a.grownBy c row :=
  ⟨k.os.trans h.os, k.tape.trans h.tape, k.output.trans h.output, Nat.le_trans h.size k.size, fun i hi hne => (k.block i (Nat.lt_of_lt_of_le hi h.size) hne).trans (h.block i hi hne)⟩
theorem own_ne {w : World} {B B' e1 e2 s1 s2 n1 n2 : Nat} {v1 v2 : Value} {x1 x2 : List Value} (h1 : w.ownsRow B e1 s1 v1 n1 x1) (h2 : w.ownsRow B' e2 s2 v2 n2 x2) (hne : e1 ≠ e2) : v1.ownBlock = none ∨ v1.ownBlock ≠ v2.ownBlock := by
  rcases h1.2 with ⟨rfl, _⟩ | ⟨g, cap, cur, rfl, _, hg, _⟩
  · exact .inl rfl
  · rcases h2.2 with ⟨rfl, _⟩ | ⟨g', cap', cur', rfl, _, hg', _⟩
    · exact .inr (by simp [Value.ownBlock])
    · refine .inr fun e => ?_
      simp [Value.ownBlock] at e
      subst e
      rw [hg] at hg'
      simp at hg'
      exact hne hg'.2
theorem Tryz.infoSpan : (Tryz.prog.info? 70).map (fun i => (i.zero, i.size, i.bytes)) = some (some (.agg #[.int .i64 0, .int .i64 0]), 2, 16) := by kernel_rfl
theorem cells_newQ (w : World) (T : TypeId) (a b : Value) : ∀ j u, [a, b][j]? = some u → (w.alloc (.cells #[a, b] T)).cell? ((⟨w.heap.size, 0, none⟩ : Addr).add j) = some u := fun j u h => by
  rw [Addr.add_mid, cell_of_row _ w.heap.size (0 + j) _ _ (0, 0) (heap_alloc_new w _)]
  simpa using h

set_option maxRecDepth 100000 in
set_option maxHeartbeats 3200000 in
theorem extended_any (l : List (Int × Int)) (a : Nat) (B : Nat) (v : Value) (w : World) (hB : B ≤ w.heap.size) (hm : l.length ≤ 13000) (ha : a ≤ 13000) (ho : w.ownsRow B 70 2 v l.length (l.flatMap qval)) :
    Calls Tryz.prog 147 #[v, .int .i64 a] w fun e w' => ∃ v', e = .returned v' ∧ w'.ownsRow B 70 2 v' (extL l a).length ((extL l a).flatMap qval) ∧ w.grownBy w' v.ownBlock := by
  obtain ⟨i0, hi, hz0, hz1, hz2⟩ := info_parts Tryz.infoSpan
  by_cases h : l.length ≠ 0 ∧ (l[l.length - 1]?.getD (0, 0)).2 = a
  · have hX : extL l a = l.set (l.length - 1) ((l[l.length - 1]?.getD (0, 0)).1, (a : Int) + 1) := by unfold extL; rw [if_pos h]
    obtain ⟨g, c, rfl, hgl, hgB⟩ := owns_some ho (by omega)
    obtain ⟨m, hm'⟩ : ∃ m, l.length = m + 1 := ⟨l.length - 1, by omega⟩
    have hc1 := (flat_at2 l m (by omega)).2
    have hs := flat_set2 l m ((a : Int) + 1) (by omega)
    have e2 : (l[m]?.getD (0, 0)).2 = a := by have := h.2; rwa [hm', Nat.add_sub_cancel] at this
    rw [e2] at hc1
    have c1 : w.cell? ⟨g, m * 2 + 1, none⟩ = some (.int .i64 a) := by
      have h := ho.cells (g := g) rfl (m * 2 + 1) _ hc1
      rwa [Addr.add_mid, Nat.zero_add] at h
    have f1 := ho.frozenAt (m * 2 + 1)
    have hst := ho.stored (m * 2 + 1) (.int .i64 ((a : Int) + 1))
    rw [hs] at hst
    rw [hX, hm', Nat.add_sub_cancel, List.length_set]
    rw [hm'] at hst ⊢
    have HST := Lib.hid hst
    have HGR : Hid (w.grownBy (w.setCell ⟨g, m * 2 + 1, none⟩ (.int .i64 ((a : Int) + 1))) (some g)) := Lib.hid (OnlyBlk.set w g (m * 2 + 1) _).1
    have k0 : (0 : Int) ≤ (m : Int) := by omega
    have k1 : (m : Int) < (m : Int) + 1 := by omega
    have k2 : ((a : Int) == a) = true := by simp
    have k3 : (m : Int) ≤ 13000 := by omega
    have k4 : (a : Int) ≤ 13000 := by omega
    clear h hX ho hc1 hs e2 hst hm' hm
    go_enter Tryz.func147, Tryz.ntmps147
    go_wp2
    go_ret
    exact ⟨_, rfl, HST.out.1, HGR.out⟩
  · have hX : extL l a = l ++ [((a : Int), (a : Int) + 1)] := by unfold extL; rw [if_neg h]
    have hF : (extL l a).flatMap qval = l.flatMap qval ++ [.int .i64 (a : Int), .int .i64 ((a : Int) + 1)] := by rw [hX]; simp [qval]
    have hL : (extL l a).length = l.length + 1 := by rw [hX]; simp
    rw [hF, hL]
    have k4 : (a : Int) ≤ 13000 := by omega
    have hgr : w.grownBy (w.alloc (.cells #[.int .i64 (a : Int), .int .i64 ((a : Int) + 1)] 70)) v.ownBlock := World.grownBy_alloc _ _ _
    have HGR := Lib.hid hgr
    clear hX hF hL hgr
    by_cases h0 : l.length = 0
    · obtain ⟨F, hFl⟩ : ∃ F, l.flatMap qval = F := ⟨_, rfl⟩
      rw [hFl, h0] at ho
      rw [hFl, h0]
      obtain ⟨aa, c, rfl⟩ := nil_slice ho
      clear h h0 hm hFl
      go_enter Tryz.func147, Tryz.ntmps147
      go_wp2_with (at_builtin; refine wpList_append_own _ rfl (.tmp 29) (.tmp 34) 116 rfl B 70 i0 (.agg #[.int .i64 0, .int .i64 0]) 2 16 Tryz.underlying116 hi hz0 hz1 hz2 rfl (by decide) _ 0 _ rfl (ho.alloc _) ⟨w.heap.size, 0, none⟩ 1 1 [.int .i64 (a : Int), .int .i64 ((a : Int) + 1)] rfl rfl (cells_newQ _ _ _ _) (by intro u hu; simp at hu; rcases hu with rfl | rfl <;> rfl) (by unfold maxLen; omega) (by omega) (by simp; omega) ?_; intro v' w1 hown1 hgrow1 _)
      go_ret
      exact ⟨_, rfl, hown1, grownBy_trans HGR.out hgrow1⟩
    · obtain ⟨g, c, rfl, hgl, hgB⟩ := owns_some ho (by omega)
      obtain ⟨m, hm'⟩ : ∃ m, l.length = m + 1 := ⟨l.length - 1, by omega⟩
      have hc1 := (flat_at2 l m (by omega)).2
      obtain ⟨x, hx⟩ : ∃ x, (l[m]?.getD (0, 0)).2 = x := ⟨_, rfl⟩
      have e2 : x ≠ a := fun e => h ⟨h0, by rw [hm', Nat.add_sub_cancel, hx]; exact e⟩
      rw [hx] at hc1
      have c1 : w.cell? ⟨g, m * 2 + 1, none⟩ = some (.int .i64 x) := by
        have h := ho.cells (g := g) rfl (m * 2 + 1) _ hc1
        rwa [Addr.add_mid, Nat.zero_add] at h
      obtain ⟨F, hFl⟩ : ∃ F, l.flatMap qval = F := ⟨_, rfl⟩
      rw [hFl, hm'] at ho
      rw [hFl, hm']
      have k0 : (0 : Int) ≤ (m : Int) := by omega
      have k1 : (m : Int) < (m : Int) + 1 := by omega
      have k2 : (x == (a : Int)) = false := by simp [e2]
      have k3 : (m : Int) ≤ 13000 := by omega
      have k5 : m ≤ 13000 := by omega
      have HO := Lib.hid ho
      clear h h0 hm hFl hm' hc1 hx e2 ho
      go_enter Tryz.func147, Tryz.ntmps147
      go_wp2_with (at_builtin; refine wpList_append_own _ rfl (.tmp 29) (.tmp 34) 116 rfl B 70 i0 (.agg #[.int .i64 0, .int .i64 0]) 2 16 Tryz.underlying116 hi hz0 hz1 hz2 rfl (by decide) _ (m + 1) _ rfl (HO.out.alloc _) ⟨w.heap.size, 0, none⟩ 1 1 [.int .i64 (a : Int), .int .i64 ((a : Int) + 1)] rfl rfl (cells_newQ _ _ _ _) (by intro u hu; simp at hu; rcases hu with rfl | rfl <;> rfl) (by unfold maxLen; omega) (by omega) (by simp; omega) ?_; intro v' w1 hown1 hgrow1 _)
      go_ret
      exact ⟨_, rfl, hown1, grownBy_trans HGR.out hgrow1⟩
end Go.Proofs.YtlnhgplloaiiiaaGreatDoor

/-
  Contract of Received for any stream.
-/
namespace Go.Proofs.YtlnhgplloaiiiaaGreatDoor
open Go.RowKit
set_option linter.unusedVariables false
set_option linter.unusedSimpArgs false

/-- What is received, and skipped, from a place on. -/
noncomputable def rcv (S : List Int) (n : Nat) : Nat → Nat → List Tel → List (Int × Int) → List Tel × List (Int × Int)
  | 0, _, ts, sp => (ts, sp)
  | f + 1, k, ts, sp => if k < n then (if okAt S n k = true then rcv S n f (k + 24) (ts ++ [telAt S n k]) sp else rcv S n f (k + 1) ts (extL sp k)) else (ts, sp)
theorem rcv_fuel (S : List Int) (n : Nat) : ∀ (f g k : Nat) (ts : List Tel) (sp : List (Int × Int)), n ≤ k + f → n ≤ k + g → rcv S n f k ts sp = rcv S n g k ts sp
  | 0, 0, _, _, _, _, _ => rfl
  | 0, g + 1, k, ts, sp, h, _ => by rw [rcv, rcv, if_neg (by omega)]
  | f + 1, 0, k, ts, sp, _, h => by rw [rcv, rcv, if_neg (by omega)]
  | f + 1, g + 1, k, ts, sp, hf, hg => by
    rw [rcv, rcv]
    by_cases h : k < n
    · rw [if_pos h, if_pos h]
      by_cases ho : okAt S n k = true
      · rw [if_pos ho, if_pos ho, rcv_fuel S n f g (k + 24) _ _ (by omega) (by omega)]
      · rw [if_neg ho, if_neg ho, rcv_fuel S n f g (k + 1) _ _ (by omega) (by omega)]
    · rw [if_neg h, if_neg h]
theorem rcv_hit {S : List Int} {n k : Nat} {ts : List Tel} {sp : List (Int × Int)} (h : k < n) (ho : okAt S n k = true) : rcv S n n k ts sp = rcv S n n (k + 24) (ts ++ [telAt S n k]) sp := by
  obtain ⟨m, rfl⟩ : ∃ m, n = m + 1 := ⟨n - 1, by omega⟩
  rw [rcv, if_pos h, if_pos ho]
  exact rcv_fuel _ _ _ _ _ _ _ (by omega) (by omega)
theorem rcv_miss {S : List Int} {n k : Nat} {ts : List Tel} {sp : List (Int × Int)} (h : k < n) (ho : okAt S n k = false) : rcv S n n k ts sp = rcv S n n (k + 1) ts (extL sp k) := by
  obtain ⟨m, rfl⟩ : ∃ m, n = m + 1 := ⟨n - 1, by omega⟩
  rw [rcv, if_pos h, if_neg (by simp [ho])]
  exact rcv_fuel _ _ _ _ _ _ _ (by omega) (by omega)
theorem rcv_end {S : List Int} {n k : Nat} {ts : List Tel} {sp : List (Int × Int)} (h : n ≤ k) : rcv S n n k ts sp = (ts, sp) := by
  cases n with
  | zero => rfl
  | succ m => rw [rcv, if_neg (by omega)]
noncomputable def rcvL (S : List Int) (n : Nat) : List Tel := (rcv S n n 0 [] []).1
noncomputable def rcvP (S : List Int) (n : Nat) : List (Int × Int) := (rcv S n n 0 [] []).2
theorem flat_snoc (ts : List Tel) (t : Tel) : (ts ++ [t]).flatMap Tel.val = ts.flatMap Tel.val ++ t.val := by simp

/-- A slice, nil or not, of bytes. -/
def AnyBytes (w : World) (a : Option Addr) (n : Nat) (S : List Int) : Prop := BytesV S n ∧ ∀ j, j < n → ∃ b q, a = some ⟨b, q, none⟩ ∧ b < w.heap.size ∧ w.rangeAt b q (S.map (Value.int .u8))
theorem AnyBytes.kept {w w' : World} {a : Option Addr} {n : Nat} {S : List Int} (h : AnyBytes w a n S) (hb : Below w.heap.size w w') : AnyBytes w' a n S :=
  ⟨h.1, fun j hj => by
    obtain ⟨b, q, e, h1, h2⟩ := h.2 j hj
    exact ⟨b, q, e, Nat.lt_of_lt_of_le h1 hb.size, fun i v hv => by rw [hb.cell (by exact h1)]; exact h2 i v hv⟩⟩

set_option maxRecDepth 100000 in
set_option maxHeartbeats 6400000 in
theorem received_all (S : List Int) (a : Option Addr) (n cp : Nat) (hm : n ≤ 12288) (hcp : n ≤ cp) (hcq : cp ≤ 9223372036854775807) (w : World) (hA : AnyBytes w a n S) :
    Calls Tryz.prog 70 #[.slice a n cp] w fun e w' =>
      ∃ v1 v2, e = .returned (.tuple #[v1, v2, .int .i64 0]) ∧ w'.ownsRow w.heap.size 112 6 v1 (rcvL S n).length ((rcvL S n).flatMap Tel.val) ∧ w'.ownsRow w.heap.size 70 2 v2 (rcvP S n).length ((rcvP S n).flatMap qval) ∧ Below w.heap.size w w' := by
  obtain ⟨i0, hi, hz0, hz1, hz2⟩ := info_parts Tryz.infoTel
  have HA := Lib.hid hA
  have i1 : ((n : Int) ≤ 12288) := by omega
  clear hA
  go_enter Tryz.func70, Tryz.ntmps70
  go_wp2
  go_loopw [5, 6, 7] (fun out sk i wr => ∃ (k : Nat) (ts : List Tel) (sp : List (Int × Int)), i = .int .i64 k ∧ k ≤ n + 23 ∧ ts.length ≤ k ∧ sp.length ≤ k ∧ Hid (rcv S n n k ts sp = rcv S n n 0 [] []) ∧
      wr.ownsRow w.heap.size 112 6 out ts.length (ts.flatMap Tel.val) ∧ wr.ownsRow w.heap.size 70 2 sk sp.length (sp.flatMap qval) ∧ Below w.heap.size w wr)
    (fun _ _ i _ => n - (intOf i).toNat)
  case atStart => exact ⟨0, [], [], rfl, by omega, by simp, by simp, Lib.hid rfl, World.ownsRow_nil _ _ _ _, World.ownsRow_nil _ _ _ _, Below.refl _ _⟩
  case round =>
    obtain ⟨k, ts, sp, rfl, hk, hts, hsp, hr, hown, hsk, hnx⟩ := hrel
    have hsz : w.heap.size ≤ wr.heap.size := hnx.size
    by_cases hlt : k < n
    · have h4 : (k : Int) < (n : Int) := by omega
      obtain ⟨b, q, rfl, hb, hc⟩ := HA.out.2 k hlt
      have hS := HA.out.1
      have hc2 : wr.rangeAt b q (S.map (Value.int .u8)) := fun i v hv => by rw [hnx.cell (by exact hb)]; exact hc i v hv
      have K := Lib.hid (telegramAt_all S b q n cp k hS (by omega) hm hcp hcq wr (by omega) hc2)
      obtain ⟨t, ht⟩ : ∃ t, telAt S n k = t := ⟨_, rfl⟩
      rw [ht] at K
      unfold Tel.agg at K
      have h5 : k ≤ 12311 := by omega
      have h6 : (k : Int) ≤ 12311 := by omega
      by_cases ho : okAt S n k = true
      · have hstep := rcv_hit (ts := ts) (sp := sp) hlt ho
        rw [ht] at hstep
        rw [ho] at K
        have HST : Hid (rcv S n n (k + 24) (ts ++ [t]) sp = rcv S n n 0 [] []) := Lib.hid (hstep.symm.trans hr.out)
        have HFL := Lib.hid (flat_snoc ts t)
        obtain ⟨F, hF⟩ : ∃ F, ts.flatMap Tel.val = F := ⟨_, rfl⟩
        obtain ⟨G, hG⟩ : ∃ G, sp.flatMap qval = G := ⟨_, rfl⟩
        obtain ⟨m1, hm1⟩ : ∃ m, ts.length = m := ⟨_, rfl⟩
        obtain ⟨m2, hm2⟩ : ∃ m, sp.length = m := ⟨_, rfl⟩
        rw [hF] at HFL
        rw [hF, hm1] at hown
        rw [hG, hm2] at hsk
        rw [hm1] at hts
        rw [hm2] at hsp
        have HM := Lib.hid (And.intro hm1 (And.intro hm2 hG))
        have HSK := Lib.hid hsk
        have HOWN := Lib.hid hown
        have HNX := Lib.hid hnx
        clear ho ht hstep hr hc hc2 hS hF hG hm1 hm2 hsk hown hnx HA
        go_wp2_with (first
          | (go_at_call 146; refine K.out.mono ?_; rintro e w2 ⟨rfl, hb2⟩
             have hown2 := owns_kept HOWN.out hb2 (Nat.le_refl _)
             have hsk2 := owns_kept HSK.out hb2 (Nat.le_refl _)
             have HSK2 := Lib.hid hsk2
             have hs2 := hb2.size
             clear hsk2)
          | (at_builtin; refine wpList_append_own _ rfl (.tmp 24) (.tmp 26) 115 rfl w.heap.size 112 i0 (.agg #[.int .i64 0, .int .i64 0, .int .i64 0, .int .i64 0, .int .i64 0, .int .i64 0]) 6 48 Tryz.underlying115 hi hz0 hz1 hz2 rfl (by decide) _ m1 _ rfl ((hown2.alloc _).alloc _) ⟨w2.heap.size + 1, 0, none⟩ 1 1 t.val rfl rfl (cells_new6' _ _ _ _ _ _ _ _ _) (by intro u hu; simp [Tel.val] at hu; rcases hu with rfl | rfl | rfl | rfl | rfl | rfl <;> rfl) (by unfold maxLen; omega) (by omega) (by simp; omega) ?_; intro v' w3 hown3 hgrow3 _))
        have hlt' := hown2.lt
        have hB2 : Below w.heap.size w w2 := HNX.out.trans (hb2.mono hsz)
        have hskE := ((HSK2.out.alloc (.cells #[.int .i64 t.s, .int .i64 t.c, .int .i64 t.o, .int .i64 t.x, .int .i64 t.y, .int .i64 t.z] 112)).alloc (.cells #[.int .i64 t.s, .int .i64 t.c, .int .i64 t.o, .int .i64 t.x, .int .i64 t.y, .int .i64 t.z] 112)).kept hgrow3 (own_ne HSK2.out hown2 (by decide))
        go_roundw
        case rel => exact ⟨k + 24, ts ++ [t], sp, by go_num, by omega, by rw [List.length_append, HM.out.1]; simp; omega, by rw [HM.out.2.1]; omega, HST, by rw [List.length_append, HM.out.1, HFL.out]; exact hown3, by rw [HM.out.2.1, HM.out.2.2]; exact hskE, ((hB2.alloc (by omega) _).alloc (by simp; omega) _).grown hgrow3 (by simp; omega) (fun j hj => (hlt' j hj).1)⟩
        case measure => simp [intOf]; omega
      · have ho := Bool.eq_false_iff.2 ho
        have hstep := rcv_miss (ts := ts) (sp := sp) hlt ho
        rw [ho] at K
        have HST : Hid (rcv S n n (k + 1) ts (extL sp k) = rcv S n n 0 [] []) := Lib.hid (hstep.symm.trans hr.out)
        have hxl := extL_len sp k
        have KE := Lib.hid (fun (w1 : World) (h1 : w.heap.size ≤ w1.heap.size) h2 => extended_any sp k w.heap.size u6 w1 h1 (by omega) (by omega) h2)
        obtain ⟨F, hF⟩ : ∃ F, ts.flatMap Tel.val = F := ⟨_, rfl⟩
        obtain ⟨m1, hm1⟩ : ∃ m, ts.length = m := ⟨_, rfl⟩
        obtain ⟨X, hX⟩ : ∃ X, extL sp k = X := ⟨_, rfl⟩
        rw [hX] at HST KE hxl
        rw [hF, hm1] at hown
        rw [hm1] at hts
        have HM := Lib.hid (And.intro hm1 hF)
        have HSK := Lib.hid hsk
        have HOWN := Lib.hid hown
        have HNX := Lib.hid hnx
        clear ho ht hstep hr hc hc2 hS hF hm1 hX hsk hown hnx HA
        go_wp2_with (first
          | (go_at_call 146; refine K.out.mono ?_; rintro e w2 ⟨rfl, hb2⟩
             have hown2 := owns_kept HOWN.out hb2 (Nat.le_refl _)
             have hsk2 := owns_kept HSK.out hb2 (Nat.le_refl _)
             have HOWN2 := Lib.hid hown2
             have hs2 := hb2.size
             clear hown2)
          | (go_at_call 147; refine (KE.out _ (by simp; omega) (hsk2.alloc _)).mono ?_; rintro e w3 ⟨v', rfl, hown3, hgrow3⟩))
        have hlt' := hsk2.lt
        have hB2 : Below w.heap.size w w2 := HNX.out.trans (hb2.mono hsz)
        have hoE := (HOWN2.out.alloc (.cells #[.int .i64 t.s, .int .i64 t.c, .int .i64 t.o, .int .i64 t.x, .int .i64 t.y, .int .i64 t.z] 112)).kept hgrow3 (own_ne HOWN2.out hsk2 (by decide))
        go_roundw
        case rel => exact ⟨k + 1, ts, X, by go_num, by omega, by rw [HM.out.1]; omega, by omega, HST, by rw [HM.out.1, HM.out.2]; exact hoE, hown3, (hB2.alloc (by omega) _).grown hgrow3 (by simp; omega) (fun j hj => (hlt' j hj).1)⟩
        case measure => simp [intOf]; omega
    · have h4 : ¬ ((k : Int) < (n : Int)) := by omega
      have he := rcv_end (S := S) (ts := ts) (sp := sp) (show n ≤ k by omega)
      have e1 : rcvL S n = ts := by unfold rcvL; rw [← hr.out, he]
      have e2 : rcvP S n = sp := by unfold rcvP; rw [← hr.out, he]
      rw [← e1] at hown
      rw [← e2] at hsk
      have HO := Lib.hid hown
      have HK := Lib.hid hsk
      have HX := Lib.hid hnx
      clear he e1 e2 hown hsk hnx hr
      go_wp2
      refine bodyPost_ret (v := .tuple #[u5, u6, .int .i64 0]) (by simp [results, Tryz.results70, go_sem]) rfl ⟨_, _, rfl, HO.out, HK.out, HX.out⟩

set_option maxRecDepth 100000 in
theorem received_long (a : Option Addr) (n cp : Nat) (hm : 12288 < n) (hl : n ≤ 100000) (w : World) :
    Calls Tryz.prog 70 #[.slice a n cp] w fun e w' => e = .returned (.tuple #[.slice none 0 0, .slice none 0 0, .int .i64 26]) ∧ w = w' := by
  have i1 : (12288 : Int) < (n : Int) := by omega
  have i2 : (n : Int) ≤ 100000 := by omega
  go_enter Tryz.func70, Tryz.ntmps70
  go_wp2
  refine bodyPost_ret (v := .tuple #[.slice none 0 0, .slice none 0 0, .int .i64 26]) (by simp [results, Tryz.results70, go_sem]) rfl ⟨rfl, rfl⟩
end Go.Proofs.YtlnhgplloaiiiaaGreatDoor
