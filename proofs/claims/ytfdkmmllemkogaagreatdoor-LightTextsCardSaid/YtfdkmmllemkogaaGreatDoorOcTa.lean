/-
  Texts: the reference's Print of a right map.
-/
import Derived.Test.YtfdkmmllemkogaaGreatDoorOcShm
import Derived.Test.YtfdkmmllemkogaaGreatDoorOZy
import Derived.Test.YtfdkmmllemkogaaGreatDoorOcSl
namespace Go.Proofs.YtfdkmmllemkogaaGreatDoor
open Go.RowKit
set_option linter.unusedVariables false
set_option linter.unusedSimpArgs false

theorem rowOf_at {W y x : Nat} {ks : List Int} (hx : x < W) : (rowOf W ks y)[x]? = ks[y * W + x]? := by
  unfold rowOf
  rw [List.getElem?_take, if_pos hx, List.getElem?_drop]
theorem lineL_eq (wd : List UInt8) (ks : List Int) : lineL wd ks = wd ++ Lib.joinTail [32] (ks.map Lib.itoa) ++ [10] := by
  unfold lineL; rw [Lib.join_cons]
theorem tail_snoc (L : List (List UInt8)) (x : List UInt8) : Lib.joinTail [32] (L ++ [x]) = Lib.joinTail [32] L ++ (32 :: x) := by
  unfold Lib.joinTail; simp
/-- What has been printed in a row. -/
def rowSo (W : Nat) (ks : List Int) (y x : Nat) : List UInt8 := [114, 111, 119] ++ Lib.joinTail [32] (((rowOf W ks y).take x).map Lib.itoa)
theorem rowSo_step {W y x : Nat} {ks : List Int} {v : Int} (hx : x < W) (hv : ks[y * W + x]? = some v) : rowSo W ks y (x + 1) = rowSo W ks y x ++ (32 :: Lib.itoa v) := by
  unfold rowSo
  rw [List.take_add_one, rowOf_at hx, hv, List.map_append, Option.toList_some, List.map_singleton, tail_snoc, List.append_assoc]
theorem rowSo_end {W y : Nat} {ks : List Int} : rowSo W ks y W ++ [10] = lineL [114, 111, 119] (rowOf W ks y) := by
  rw [lineL_eq]; unfold rowSo
  rw [List.take_of_length_le (by unfold rowOf; rw [List.length_take]; omega)]
/-- What has been printed. -/
def textSo (W H : Nat) (ks : List Int) (y : Nat) : List UInt8 := lineL [109, 97, 112] [(W : Int), (H : Int)] ++ rowsL W ks (List.range y)
theorem textSo_step (W H : Nat) (ks : List Int) (y : Nat) : textSo W H ks (y + 1) = textSo W H ks y ++ lineL [114, 111, 119] (rowOf W ks y) := by
  unfold textSo; rw [List.range_succ, rowsL_snoc, List.append_assoc]
theorem itoa_short {k : Int} (h : k.natAbs ≤ 16384) : (Lib.itoa k).length ≤ 21 := Lib.itoa_length_le k (by omega) (by omega)
theorem rowSo_len {W y : Nat} {ks : List Int} (hs : ∀ k ∈ ks, k.natAbs ≤ 16384) (hW : W ≤ 64) (x : Nat) : (rowSo W ks y x).length ≤ 1411 := by
  unfold rowSo
  rw [List.length_append]
  have h := joinTail_len (((rowOf W ks y).take x).map Lib.itoa) (fun l hl => by
    obtain ⟨k, hk, rfl⟩ := List.mem_map.1 hl
    exact itoa_short (hs k (List.mem_of_mem_drop (List.mem_of_mem_take (List.mem_of_mem_take hk)))))
  rw [List.length_map, List.length_take] at h
  have h2 : (rowOf W ks y).length ≤ W := by unfold rowOf; rw [List.length_take]; omega
  simp only [List.length_cons, List.length_nil]
  omega
theorem textSo_len {W H : Nat} {ks : List Int} (hs : ∀ k ∈ ks, k.natAbs ≤ 16384) (hW : W ≤ 64) (hH : H ≤ 64) : ∀ y, (textSo W H ks y).length ≤ 100 + 1412 * y
  | 0 => by
    unfold textSo
    rw [List.range_zero]
    have h := line_len [109, 97, 112] [(W : Int), (H : Int)] (fun k hk => by
      simp only [List.mem_cons, List.not_mem_nil, or_false] at hk
      have h2 : k.natAbs ≤ 64 := by omega
      exact Nat.lt_of_le_of_lt h2 (by decide))
    simp only [rowsL, List.flatMap_nil, List.append_nil]
    simp only [List.length_cons, List.length_nil] at h
    omega
  | y + 1 => by
    have ih := textSo_len hs hW hH y
    rw [textSo_step, List.length_append, ← rowSo_end, List.length_append]
    have := rowSo_len (y := y) hs hW W
    simp only [List.length_cons, List.length_nil]
    omega
theorem head_text (W H : Int) : ((⟨#[109, 97, 112, 32]⟩ : ByteArray) ++ strB (Lib.itoa W) ++ ⟨#[32]⟩ ++ strB (Lib.itoa H) ++ ⟨#[10]⟩) = strB (lineL [109, 97, 112] [W, H]) := by
  apply listB_inj
  rw [lineL_eq]
  simp only [listB_append, listB_strB]
  unfold Lib.joinTail
  simp [listB]

set_option maxRecDepth 100000 in
set_option maxHeartbeats 6400000 in
theorem refPrint_any (W H : Nat) (b o n c : Nat) (xs : List Nat) (ks : List Int) (w : World) (hA : RightMap w W H b o n xs ks) (hb : b < w.heap.size) :
    Calls Tryz.prog 94 #[.agg #[.int .i64 W, .int .i64 H, .slice (some ⟨b, o, none⟩) n c]] w fun e w' => e = .returned (.string (strB (textL W H ks))) ∧ Below w.heap.size w w' := by
  have hW := hA.wid
  have hH := hA.hei
  have hs : ∀ k ∈ ks, k.natAbs ≤ 16384 := fun k hk => by
    obtain ⟨j, hj⟩ := List.getElem?_of_mem hk
    have hlt := (List.getElem?_eq_some_iff.1 hj).1
    have := hA.sizes j (by have := hA.lenk; omega)
    rwa [hj] at this
  have HS := Lib.hid hs
  have HA := Lib.hid hA
  have hN : W * H = n := by have := hA.area; exact_mod_cast this
  have HNN := Lib.hid hN
  have KT : Hid (∀ (v : Int) (w : World), v.natAbs ≤ 16384 → Calls Tryz.prog 191 #[.int .i64 v] w fun e w' => e = .returned (.string (strB (Lib.itoa v))) ∧ w = w') := Lib.hid fun v w h => refText_any v (by omega) (by omega) w
  have KL : Hid (∀ (wr : World) (X Y : Nat), Below w.heap.size w wr → X < W → Y < H → Calls Tryz.prog 46 #[.agg #[.int .i64 W, .int .i64 H, .slice (some ⟨b, o, none⟩) n c], .int .i64 X, .int .i64 Y] wr fun e w' => e = .returned (.int .i64 (ks[Y * W + X]?.getD 0)) ∧ Below wr.heap.size wr w') :=
    Lib.hid fun wr X Y hbl hX hY => refLevel_any W H b o n c xs ks wr (hA.below hbl hb) (by have := hbl.size; omega) X Y hX hY
  have hw1 : (1 : Int) ≤ W := hW.1
  have hw2 : (W : Int) ≤ 64 := hW.2
  have hh1 : (1 : Int) ≤ H := hH.1
  have hh2 : (H : Int) ≤ 64 := hH.2
  obtain ⟨W0, hW0⟩ : ∃ W0, w.alloc (.cells #[.int .i64 W, .int .i64 H, .slice (some ⟨b, o, none⟩) n c] 48) = W0 := ⟨_, rfl⟩
  have hB0 : Below w.heap.size w W0 := by rw [← hW0]; exact (Below.refl _ w).alloc (Nat.le_refl _) _
  have hS0 : W0.heap.size = w.heap.size + 1 := by rw [← hW0]; simp
  have c0 : W0.cell? ⟨w.heap.size, 0, none⟩ = some (.int .i64 W) := by rw [← hW0]; simp [go_sem]
  have c1 : W0.cell? ⟨w.heap.size, 1, none⟩ = some (.int .i64 H) := by rw [← hW0]; simp [go_sem]
  have c2 : W0.cell? ⟨w.heap.size, 2, none⟩ = some (.slice (some ⟨b, o, none⟩) n c) := by rw [← hW0]; simp [go_sem]
  have KTW := Lib.hid (fun w => KT.out (W : Int) w (by omega))
  have KTH := Lib.hid (fun w => KT.out (H : Int) w (by omega))
  have lw := Lib.hid (itoa_short (k := (W : Int)) (by omega))
  have lh := Lib.hid (itoa_short (k := (H : Int)) (by omega))
  have sw : ((strB (Lib.itoa (W : Int))).size : Int) ≤ 21 := by rw [strB_size]; have := lw.out; omega
  have sh : ((strB (Lib.itoa (H : Int))).size : Int) ≤ 21 := by rw [strB_size]; have := lh.out; omega
  have HH := Lib.hid (head_text (W : Int) (H : Int))
  obtain ⟨TW, hTW⟩ : ∃ T, strB (Lib.itoa (W : Int)) = T := ⟨_, rfl⟩
  obtain ⟨TH, hTH⟩ : ∃ T, strB (Lib.itoa (H : Int)) = T := ⟨_, rfl⟩
  rw [hTW] at KTW sw HH
  rw [hTH] at KTH sh HH
  have HB0 := Lib.hid hB0
  have HS0 := Lib.hid hS0
  clear hA hs hW hH hN hB0 hS0 hTW hTH
  have st0 := textSo_len HS.out (by omega : W ≤ 64) (by omega : H ≤ 64)
  have HL := Lib.hid st0
  have HR : Hid (∀ y x, (rowSo W ks y x).length ≤ 1411) := Lib.hid fun y x => rowSo_len HS.out (by omega) x
  have t00 : textSo W H ks 0 = lineL [109, 97, 112] [(W : Int), (H : Int)] := by unfold textSo rowsL; simp
  have HT0 := Lib.hid t00
  clear st0 t00
  go_enter Tryz.func94, Tryz.ntmps94
  go_upto_region 1 with fail
  try rw [hW0]
  clear hW0
  go_cut [3] (fun s3 wr => (∃ T, s3 = .string T ∧ Hid (T = strB (textSo W H ks 0))) ∧ Blw W0.heap.size W0 wr)
  case first =>
    go_region_with
      (first
        | (go_at_call 191; ((with_reducible refine (KTW.out _).mono ?_); rintro e w9 ⟨rfl, rfl⟩))
        | (go_at_call 191; ((with_reducible refine (KTH.out _).mono ?_); rintro e w9 ⟨rfl, rfl⟩)))
    all_goals
      go_wp2
      go_meet
      exact ⟨⟨_, rfl, Lib.hid (by rw [HT0.out]; exact HH.out)⟩, (Below.refl _ _).drew⟩
  case rest =>
    rename_i hK
    obtain ⟨⟨T, rfl, hT⟩, hbl⟩ := hcut
    refine hK _ _ ?_
    clear hK
    go_wp2
    go_loopw [3, 4] (fun out i wr => ∃ (y : Nat) (T : ByteArray), y ≤ H ∧ i = .int .i64 y ∧ out = .string T ∧ Hid (T = strB (textSo W H ks y)) ∧ Blw W0.heap.size W0 wr) (fun _ i _ => H - (intOf i).toNat)
    case atStart => exact ⟨0, T, Nat.zero_le _, rfl, rfl, hT, hbl⟩
    case round =>
      obtain ⟨y, T2, hy, rfl, rfl, hT2, hbw⟩ := hrel
      have r0 : wr.cell? ⟨w.heap.size, 0, none⟩ = some (.int .i64 W) := (Below.cell hbw (by show w.heap.size < W0.heap.size; have := HS0.out; omega)).trans c0
      have r1 : wr.cell? ⟨w.heap.size, 1, none⟩ = some (.int .i64 H) := (Below.cell hbw (by show w.heap.size < W0.heap.size; have := HS0.out; omega)).trans c1
      have hT2s : (T2.size : Int) ≤ 100000 := by rw [hT2.out, strB_size]; have := HL.out y; omega
      have HBW := Lib.hid hbw
      by_cases hlt : y < H
      · clear hbw
        go_wp2
        obtain ⟨wo, rfl⟩ : ∃ wo : World, wo = wr := ⟨_, rfl⟩
        go_loopw [3, 5] (fun out i wr => ∃ (x : Nat) (T : ByteArray), x ≤ W ∧ i = .int .i64 x ∧ out = .string T ∧ Hid (T = strB (textSo W H ks y ++ rowSo W ks y x)) ∧ Blw W0.heap.size W0 wr) (fun _ i _ => W - (intOf i).toNat)
        case atStart => exact ⟨0, _, Nat.zero_le _, rfl, rfl, Lib.hid (by apply listB_inj; rw [listB_append, hT2.out, listB_strB, listB_strB]; rfl), HBW.out⟩
        case round =>
          obtain ⟨x, T3, hx, rfl, rfl, hT3, hbx⟩ := hrel
          have q0 : wr.cell? ⟨w.heap.size, 0, none⟩ = some (.int .i64 W) := (Below.cell hbx (by show w.heap.size < W0.heap.size; have := HS0.out; omega)).trans c0
          have q1 : wr.cell? ⟨w.heap.size, 1, none⟩ = some (.int .i64 H) := (Below.cell hbx (by show w.heap.size < W0.heap.size; have := HS0.out; omega)).trans c1
          have q2 : wr.cell? ⟨w.heap.size, 2, none⟩ = some (.slice (some ⟨b, o, none⟩) n c) := (Below.cell hbx (by show w.heap.size < W0.heap.size; have := HS0.out; omega)).trans c2
          have hT3s : (T3.size : Int) ≤ 110000 := by rw [hT3.out, strB_size, List.length_append]; have := HL.out y; have := HR.out y x; omega
          have HBX := Lib.hid hbx
          by_cases hlx : x < W
          · have KLL := Lib.hid (KL.out wr x y (HB0.out.trans (Below.mono hbx (by have := HS0.out; omega))) hlx hlt)
            have hidx : y * W + x < n := by rw [← HNN.out, Nat.mul_comm W H]; exact Nat.lt_of_lt_of_le (Nat.add_lt_add_left hlx _) (by rw [← Nat.succ_mul]; exact Nat.mul_le_mul_right W hlt)
            obtain ⟨v, hv⟩ : ∃ v, ks[y * W + x]? = some v := ⟨ks[y * W + x]'(by have := HA.out.lenk; omega), List.getElem?_eq_getElem _⟩
            have hvs : v.natAbs ≤ 16384 := HS.out v (List.mem_of_getElem? hv)
            rw [hv, Option.getD_some] at KLL
            have KTT := Lib.hid (fun w => KT.out v w hvs)
            have HST := Lib.hid (rowSo_step hlx hv)
            have hvl : ((strB (Lib.itoa v)).size : Int) ≤ 21 := by rw [strB_size]; have := itoa_short hvs; omega
            obtain ⟨V, hV⟩ : ∃ V, strB (Lib.itoa v) = V := ⟨_, rfl⟩
            rw [hV] at KTT hvl
            have HV := Lib.hid hV
            clear hbx hidx hv hvs hV
            go_wp2_with fail
            refine KLL.out.mono ?_
            rintro e w3 ⟨rfl, hb3⟩
            have HB3 : Hid (Blw W0.heap.size W0 w3) := Lib.hid (Below.trans HBX.out (Below.mono hb3 (Below.size HBX.out)))
            clear hb3
            go_wp2_with fail
            refine (KTT.out _).mono ?_
            rintro e w4 ⟨rfl, rfl⟩
            go_wp2
            go_roundw
            case rel => exact ⟨x + 1, _, by omega, by go_num, rfl, Lib.hid (by apply listB_inj; rw [HST.out]; simp only [listB_append, hT3.out, listB_strB, ← HV.out]; simp [listB]), HB3.out⟩
            case measure => first | (simp [intOf]; done) | (simp [intOf]; omega)
          · obtain rfl : W = x := by omega
            clear hbx
            go_wp2
            go_roundw
            case rel => exact ⟨y + 1, _, by omega, by go_num, rfl, Lib.hid (by apply listB_inj; rw [textSo_step, ← rowSo_end]; simp only [listB_append, hT3.out, listB_strB]; simp [listB]), HBX.out⟩
            case measure => first | (simp [intOf]; done) | (simp [intOf]; omega)
      · obtain rfl : H = y := by omega
        have HF : Hid (Below w.heap.size w wr) := Lib.hid (HB0.out.trans (Below.mono hbw (by have := HS0.out; omega)))
        clear hbw
        go_wp2
        go_ret
        exact ⟨by rw [hT2.out]; rfl, HF.out⟩
end Go.Proofs.YtfdkmmllemkogaaGreatDoor
