/-
  Contract of the reference's Binned of a right map: the sums, or an error.
-/
import Derived.Test.YtfdkmmllemkogaaGreatDoorODa
import Derived.Test.YtfdkmmllemkogaaGreatDoorOEda
import Derived.Test.YtfdkmmllemkogaaGreatDoorOZd
import Derived.Test.YtfdkmmllemkogaaGreatDoorOZt
import Derived.Test.YtfdkmmllemkogaaGreatDoorOBe
import Derived.Test.YtfdkmmllemkogaaGreatDoorOEa
import Derived.Test.YtfdkmmllemkogaaGreatDoorOEb
import Derived.Test.YtfdkmmllemkogaaGreatDoorOEc
import Derived.Test.YtfdkmmllemkogaaGreatDoorOEg
import Derived.Test.YtfdkmmllemkogaaGreatDoorOEh
import Derived.Test.YtfdkmmllemkogaaGreatDoorOXk
namespace Go.Proofs.YtfdkmmllemkogaaGreatDoor
open Go.RowKit
set_option linter.unusedVariables false
set_option linter.unusedSimpArgs false

/-- A result without an error is a right map. -/
theorem ResV.right {w : World} {W H : Nat} {ls : List Int} {X Y : Int} {a : Option Addr} {n c : Nat} (h : ResV w 0 W H ls X Y a n c) (hW : 1 ≤ W ∧ W ≤ 64) (hH : 1 ≤ H ∧ H ≤ 64) (hl : ls.length = W * H) :
    X = W ∧ Y = H ∧ ∃ g, a = Option.some ⟨g, 0, Option.none⟩ ∧ g < w.heap.size ∧ RightMap w W H g 0 n (ls.map smpOf) ls := by
  obtain ⟨h1, h2, h3, h4, h5, g, h6, h7, h8⟩ := h.ok rfl
  have e : ∀ j, j < n → (ls.map smpOf)[j]?.getD 0 = smpOf (ls[j]?.getD 0) := fun j hj => by rw [List.getElem?_map, List.getElem?_eq_getElem (by omega)]; rfl
  refine ⟨h1, h2, g, h6, h7, ⟨⟨by rw [List.length_map]; exact h3, h3, h4, fun j hj => ?_, fun j hj => ?_, fun j hj => ?_, h5⟩, by omega, by omega, by rw [← h3, hl]; push_cast; rfl⟩⟩
  · rw [Nat.zero_add, e j hj]; exact h8 j hj
  · rw [e j hj]; exact smpOf_word _ (Nat.lt_of_le_of_lt (h5 j hj) (by decide))
  · rw [e j hj]; exact smpOf_smp _ (Nat.lt_of_le_of_lt (h5 j hj) (by decide))

theorem win_sum {W H s X Y : Nat} (ks : List Int) (hs : 1 ≤ s) (hx : X * s + s ≤ W) (hy : Y * s + s ≤ H) :
    (winL W H s (s * s) ks ((X * s : Nat) : Int) ((Y * s : Nat) : Int)).sum = binTo W ks s X Y (placesTo s (s * s)) := by
  unfold winL binTo placesTo
  rw [List.map_map]
  congr 1
  refine List.map_congr_left (fun j hj => ?_)
  have hj := List.mem_range.1 hj
  have h1 : j % s < s := Nat.mod_lt _ (by omega)
  have h2 : j / s < s := (Nat.div_lt_iff_lt_mul (by omega)).2 hj
  simp only [Function.comp_apply, binCell]
  unfold levelK
  generalize j % s = u at *
  generalize j / s = v at *
  generalize X * s = P at *
  generalize Y * s = Q at *
  rw [if_pos (by omega)]
  have e1 : ((P : Int) + (u : Int)).toNat = P + u := by omega
  have e2 : ((Q : Int) + (v : Int)).toNat = Q + v := by omega
  rw [e1, e2]
def binIL (W s WW HH : Nat) (ks : List Int) : List Int := (List.range (HH * WW)).map (fun j => binTo W ks s (j % WW) (j / WW) (placesTo s (s * s)))

set_option maxRecDepth 100000 in
set_option maxHeartbeats 6400000 in
theorem refBinned_ok (W H s WW HH : Nat) (hs : 1 ≤ s ∧ s ≤ 64) (hWd : WW * s = W) (hHd : HH * s = H) (b o c n : Nat) (xs : List Nat) (ks : List Int) (w : World) (hA : RightMap w W H b o n xs ks) (hb : b < w.heap.size) :
    Calls Tryz.prog 67 #[.agg #[.int .i64 W, .int .i64 H, .slice (some ⟨b, o, none⟩) n c], .int .i64 s] w fun e w' =>
      ∃ X Y a2 n2 c2, e = .returned (.tuple #[.agg #[.int .i64 X, .int .i64 Y, .slice a2 n2 c2], .int .i64 (largeErr (HH * WW) (binIL W s WW HH ks))]) ∧ ResV w' (largeErr (HH * WW) (binIL W s WW HH ks)) WW HH (binIL W s WW HH ks) X Y a2 n2 c2 ∧ Below w.heap.size w w' := by
  obtain ⟨i0, hi, hz0, hz1, hz2⟩ := info_parts Tryz.infoInt
  have hW : 1 ≤ W ∧ W ≤ 64 := by have := hA.wid; omega
  have hH : 1 ≤ H ∧ H ≤ 64 := by have := hA.hei; omega
  have hWW : 1 ≤ WW ∧ WW ≤ 64 := by
    refine ⟨?_, Nat.le_trans (Nat.le_mul_of_pos_right WW (by omega : 0 < s)) (by omega)⟩
    rcases Nat.eq_zero_or_pos WW with h | h
    · rw [h, Nat.zero_mul] at hWd; omega
    · exact h
  have hHH : 1 ≤ HH ∧ HH ≤ 64 := by
    refine ⟨?_, Nat.le_trans (Nat.le_mul_of_pos_right HH (by omega : 0 < s)) (by omega)⟩
    rcases Nat.eq_zero_or_pos HH with h | h
    · rw [h, Nat.zero_mul] at hHd; omega
    · exact h
  have hsm : HH * WW ≤ 4096 := Nat.le_trans (Nat.mul_le_mul hHH.2 hWW.2) (by decide)
  have hn1 : 1 ≤ HH * WW := Nat.mul_pos (by omega) (by omega)
  obtain ⟨W0, hW0⟩ : ∃ W0, (w.alloc (.cells #[.int .i64 W, .int .i64 H, .slice (some ⟨b, o, none⟩) n c] 48)).alloc (.cells #[.int .i64 0, .int .i64 0, .slice none 0 0] 48) = W0 := ⟨_, rfl⟩
  have hB0 : Below w.heap.size w W0 := by rw [← hW0]; exact ((Below.refl _ w).alloc (Nat.le_refl _) _).alloc (by simp) _
  have hS0 : W0.heap.size = w.heap.size + 2 := by rw [← hW0]; simp
  have a0 : W0.cell? ⟨w.heap.size, 0, none⟩ = some (.int .i64 W) := by rw [← hW0]; simp [go_sem]
  have a1 : W0.cell? ⟨w.heap.size, 1, none⟩ = some (.int .i64 H) := by rw [← hW0]; simp [go_sem]
  have a2 : W0.cell? ⟨w.heap.size, 2, none⟩ = some (.slice (some ⟨b, o, none⟩) n c) := by rw [← hW0]; simp [go_sem]
  have bz0 : W0.heap[w.heap.size + 1]? = some (.cells #[.int .i64 0, .int .i64 0, .slice none 0 0] 48 (0, 0)) := by rw [← hW0]; exact blk_alloc_new1 _ _ _
  have KW : Hid (∀ (wr : World) (x y X Y : Nat), x * s = X → y * s = Y → Below (w.heap.size + 2) W0 wr → X ≤ 64 → Y ≤ 64 → Calls Tryz.prog 137 #[.agg #[.int .i64 W, .int .i64 H, .slice (some ⟨b, o, none⟩) n c], .int .i64 s, .int .i64 s, .int .i64 X, .int .i64 Y] wr fun e w' =>
      ∃ X' Y' a' n' c', e = .returned (.agg #[.int .i64 X', .int .i64 Y', .slice a' n' c']) ∧ ResV w' 0 s s (winL W H s (s * s) ks ((x * s : Nat) : Int) ((y * s : Nat) : Int)) X' Y' a' n' c' ∧ Below wr.heap.size wr w') :=
    Lib.hid fun wr x y X Y hx hy h hX hY => by
      have h2 := hB0.trans (h.mono (by omega))
      have hz := h2.size
      rw [hx, hy]
      exact window_any W H b o n c xs ks wr (hA.below h2 hb) (by omega) s s (s * s) X Y hs hs (by omega) (by omega) rfl
  have KT : Hid (∀ (w1 : World) (x y : Nat) (X' Y' : Int) (a' : Option Addr) (n' c' : Nat), x < WW → y < HH → ResV w1 0 s s (winL W H s (s * s) ks ((x * s : Nat) : Int) ((y * s : Nat) : Int)) X' Y' a' n' c' →
      Calls Tryz.prog 43 #[.agg #[.int .i64 X', .int .i64 Y', .slice a' n' c']] w1 fun e w' => e = .returned (.int .i64 (binTo W ks s x y (placesTo s (s * s)))) ∧ Below w1.heap.size w1 w') :=
    Lib.hid fun w1 x y X' Y' a' n' c' hx hy hres => by
      obtain ⟨rfl, rfl, g, rfl, hg, hR⟩ := hres.right hs hs (by unfold winL; simp)
      have h1 : x * s + s ≤ W := by have := Nat.mul_le_mul_right s (show x + 1 ≤ WW by omega); rw [Nat.add_mul, hWd] at this; omega
      have h2 : y * s + s ≤ H := by have := Nat.mul_le_mul_right s (show y + 1 ≤ HH by omega); rw [Nat.add_mul, hHd] at this; omega
      have h := refTotal_any s s g 0 n' c' _ _ w1 hR hg
      rwa [win_sum ks hs.1 h1 h2] at h
  have hlen : (binIL W s WW HH ks).length = HH * WW := by unfold binIL; simp
  have KM : Hid (∀ (wr : World) (v : Value), wr.ownsRow (w.heap.size + 2) 3 1 v (HH * WW) ((binIL W s WW HH ks).map (Value.int .i64)) → Calls Tryz.prog 141 #[.int .i64 WW, .int .i64 HH, v] wr fun e w' =>
      ∃ X Y a' n' c', e = .returned (.tuple #[.agg #[.int .i64 X, .int .i64 Y, .slice a' n' c'], .int .i64 (largeErr (HH * WW) (binIL W s WW HH ks))]) ∧ ResV w' (largeErr (HH * WW) (binIL W s WW HH ks)) WW HH (binIL W s WW HH ks) X Y a' n' c' ∧ Below wr.heap.size wr w') :=
    Lib.hid fun wr v hown => by
      obtain ⟨av, cv, rfl⟩ := owns_slice hown
      exact made_all WW HH av (HH * WW) cv _ (binIL W s WW HH ks) hlen hn1 hsm wr hown
  have HB0 := Lib.hid hB0
  have HS0 := Lib.hid hS0
  have HBR := Lib.hid bz0
  have HWD := Lib.hid hWd
  have HHD := Lib.hid hHd
  have eW : (W : Int) = (WW : Int) * (s : Int) := by rw [← hWd]; push_cast; rfl
  have eH : (H : Int) = (HH : Int) * (s : Int) := by rw [← hHd]; push_cast; rfl
  have mW : (W : Int) % (s : Int) = 0 := by rw [eW]; exact Int.mul_emod_left _ _
  have mH : (H : Int) % (s : Int) = 0 := by rw [eH]; exact Int.mul_emod_left _ _
  have dW : (W : Int) / (s : Int) = (WW : Int) := by rw [eW]; exact Int.mul_ediv_cancel _ (by omega)
  have dH : (H : Int) / (s : Int) = (HH : Int) := by rw [eH]; exact Int.mul_ediv_cancel _ (by omega)
  have mW' : (W : Int).tmod (s : Int) = 0 := by rw [eW]; exact Int.mul_tmod_left _ _
  have mH' : (H : Int).tmod (s : Int) = 0 := by rw [eH]; exact Int.mul_tmod_left _ _
  have dW' : (W : Int).tdiv (s : Int) = (WW : Int) := by rw [eW]; exact Int.mul_tdiv_cancel _ (by omega)
  have dH' : (H : Int).tdiv (s : Int) = (HH : Int) := by rw [eH]; exact Int.mul_tdiv_cancel _ (by omega)
  have iW : IntKind.i64.wrap (WW : Int) = (WW : Int) := IntWalk.i64_in _ ⟨by omega, by omega⟩
  have iH : IntKind.i64.wrap (HH : Int) = (HH : Int) := IntWalk.i64_in _ ⟨by omega, by omega⟩
  have ns : ¬ ((s : Int) = 0) := by omega
  have ns0 : ¬ (s = 0) := by omega
  clear hA hB0 hS0 bz0 hlen hWd hHd eW eH
  go_enter Tryz.func67, Tryz.ntmps67
  go_upto_region 1 with fail
  try rw [hW0]
  clear hW0
  go_wp2_with fail
  go_loopw [6, 7] (fun out i wr => ∃ y Y : Nat, y ≤ HH ∧ y * s = Y ∧ i = .int .i64 Y ∧ wr.ownsRow (w.heap.size + 2) 3 1 out (y * WW) (((List.range (y * WW)).map (fun j => binTo W ks s (j % WW) (j / WW) (placesTo s (s * s)))).map (Value.int .i64)) ∧ Below (w.heap.size + 2) W0 wr)
    (fun _ i _ => H - (intOf i).toNat)
  case atStart => exact ⟨0, 0, Nat.zero_le _, Nat.zero_mul _, rfl, by rw [Nat.zero_mul]; exact World.ownsRow_nil _ _ _ _, Below.refl _ _⟩
  case round =>
    obtain ⟨y, Y, hy, hyY, rfl, hown, hnx⟩ := hrel
    have a0' := (hnx.cell (p := ⟨w.heap.size, 0, none⟩) (by show w.heap.size < _; omega)).trans a0
    have a1' := (hnx.cell (p := ⟨w.heap.size, 1, none⟩) (by show w.heap.size < _; omega)).trans a1
    by_cases hlt : y < HH
    · have hYH : Y + s ≤ H := by have := Nat.mul_le_mul_right s (show y + 1 ≤ HH by omega); rw [Nat.add_mul, HHD.out, hyY] at this; omega
      have HO := Lib.hid hown
      have HNX := Lib.hid hnx
      have hd : decide ((Y : Int) < (H : Int)) = true := decide_eq_true (by omega)
      have hd2 : decide (Y < H) = true := decide_eq_true (by omega)
      clear hown hnx
      go_wp2_with fail
      try simp only [hd]
      try simp only [hd2]
      clear hd hd2
      go_loopw [6, 8] (fun out i wq => ∃ x X : Nat, x ≤ WW ∧ x * s = X ∧ i = .int .i64 X ∧ wq.ownsRow (w.heap.size + 2) 3 1 out (y * WW + x) (((List.range (y * WW + x)).map (fun j => binTo W ks s (j % WW) (j / WW) (placesTo s (s * s)))).map (Value.int .i64)) ∧ Below (w.heap.size + 2) W0 wq)
        (fun _ i _ => W - (intOf i).toNat)
      case atStart => exact ⟨0, 0, Nat.zero_le _, Nat.zero_mul _, rfl, HO.out, HNX.out⟩
      case round =>
        obtain ⟨x, X, hx, hxX, rfl, hown, hnx⟩ := hrel
        have c0' := (hnx.cell (p := ⟨w.heap.size, 0, none⟩) (by show w.heap.size < _; omega)).trans a0
        have c1' := (hnx.cell (p := ⟨w.heap.size, 1, none⟩) (by show w.heap.size < _; omega)).trans a1
        have c2' := (hnx.cell (p := ⟨w.heap.size, 2, none⟩) (by show w.heap.size < _; omega)).trans a2
        clear a0' a1'
        by_cases hlx : x < WW
        · have hXW : X + s ≤ W := by have := Nat.mul_le_mul_right s (show x + 1 ≤ WW by omega); rw [Nat.add_mul, HWD.out, hxX] at this; omega
          obtain ⟨av, cv, rfl⟩ := owns_slice hown
          have hj : y * WW + x < HH * WW := idx_lt (p := (x, y)) hlx hlt (by rw [Nat.mul_comm])
          have KWW := Lib.hid (KW.out wr x y X Y hxX hyY hnx (by omega) (by omega))
          have KTT : Hid (∀ (w1 : World) (X' Y' : Int) (a' : Option Addr) (n' c' : Nat), ResV w1 0 s s (winL W H s (s * s) ks ((x * s : Nat) : Int) ((y * s : Nat) : Int)) X' Y' a' n' c' →
              Calls Tryz.prog 43 #[.agg #[.int .i64 X', .int .i64 Y', .slice a' n' c']] w1 fun e w' => e = .returned (.int .i64 (binTo W ks s x y (placesTo s (s * s)))) ∧ Below w1.heap.size w1 w') :=
            Lib.hid fun w1 X' Y' a' n' c' hres => KT.out w1 x y X' Y' a' n' c' hlx hlt hres
          have hsz : w.heap.size + 2 ≤ wr.heap.size := by have := hnx.size; have := HS0.out; omega
          have e1 := list_succ (fun j => binTo W ks s (j % WW) (j / WW) (placesTo s (s * s))) (y * WW + x)
          rw [idx_mod hlx, idx_div hlx] at e1
          have HE := Lib.hid e1
          have hXs : ((x + 1) * s) = X + s := by rw [Nat.add_mul, hxX, Nat.one_mul]
          clear e1
          generalize hJ : y * WW + x = J at *
          generalize hV : binTo W ks s x y (placesTo s (s * s)) = V at *
          go_wp2_with (first
            | ((go_at_call 137; refine KWW.out.mono ?_; rintro e w1 ⟨X', Y', a', n', c', rfl, hres, hb1⟩
                have hs1 := hb1.size))
            | ((go_at_call 43; refine (KTT.out _ _ _ _ _ _ hres).mono ?_; rintro e w2 ⟨rfl, hb2⟩
                have hown1 := owns_kept (owns_kept hown hb1 (Nat.le_refl _)) hb2 (Nat.le_refl _)
                have hs2 := hb2.size))
            | (at_builtin; refine wpList_append_own _ rfl (.tmp 36) (.tmp 44) 25 rfl (w.heap.size + 2) 3 i0 (.int .i64 0) 1 8 Tryz.underlying25 hi hz0 hz1 hz2 rfl (by decide) _ J _ rfl (hown1.alloc _) ⟨w2.heap.size, 0, none⟩ 1 1 [.int .i64 V] rfl rfl (cell_one_new _ _ _) (by intro u hu; simp at hu; subst hu; rfl) (by unfold maxLen; omega) (by omega) (by simp; omega) ?_; intro v' w3 hown2 hgrow2 _))
          have hlt' := hown1.lt
          go_roundw
          case rel => exact ⟨x + 1, X + s, by omega, hXs, by go_num, by rw [← Nat.add_assoc, hJ, HE.out]; exact hown2, ((hnx.trans ((hb1.mono hsz).trans (hb2.mono (by omega)))).alloc (by omega) _).grown hgrow2 (by simp; omega) (fun j hj => (hlt' j hj).1)⟩
          case measure => simp [intOf]; omega
        · obtain rfl : WW = x := by omega
          have hXW : X = W := by rw [← hxX]; exact HWD.out
          go_wp2_with fail
          go_roundw
          case rel => exact ⟨y + 1, Y + s, by omega, by rw [Nat.add_mul, hyY, Nat.one_mul], by go_num, by rw [Nat.succ_mul]; exact hown, hnx⟩
          case measure => simp [intOf]; omega
    · obtain rfl : HH = y := by omega
      have hYH : Y = H := by rw [← hyY]; exact HHD.out
      obtain ⟨av, cv, rfl⟩ := owns_slice hown
      have KMM := Lib.hid (KM.out wr.drew _ hown)
      have hs2 : w.heap.size + 2 ≤ wr.heap.size := by have := hnx.size; have := HS0.out; omega
      have bR1 := (hnx.block (w.heap.size + 1) (by omega)).trans HBR.out
      have HNX := Lib.hid hnx
      have HBR1 := Lib.hid bR1
      clear hown hnx bR1
      generalize hle : largeErr (HH * WW) (binIL W s WW HH ks) = r at *
      go_upto_region 11 with fail
      go_region_held3 (fun w' => w'.cell? ⟨w.heap.size, 0, none⟩ = some (.int .i64 W) ∧ w'.cell? ⟨w.heap.size, 1, none⟩ = some (.int .i64 H))
        (first | go_keep | (go_split_ands; refine ⟨?_, ?_⟩ <;> first | assumption | ((rw [hb4.cell (by show w.heap.size < _; have hq : wr.drew.heap.size = wr.heap.size := rfl; omega)]; assumption))))
        ((go_at_call 141; refine KMM.out.mono ?_; rintro e w2 ⟨X', Y', a', n', c2', rfl, hres, hb4⟩
          have bR2 := (hb4.block (w.heap.size + 1) (by have hq : wr.drew.heap.size = wr.heap.size := rfl; omega)).trans HBR1.out
          have q0 : w2.frozen? ⟨w.heap.size + 1, 0, none⟩ = false := by simp [World.frozen?, bR2]
          have q1 : w2.frozen? ⟨w.heap.size + 1, 1, none⟩ = false := by simp [World.frozen?, bR2]
          have q2 : w2.frozen? ⟨w.heap.size + 1, 2, none⟩ = false := by simp [World.frozen?, bR2]
          have p0 : w2.cell? ⟨w.heap.size + 1, 0, none⟩ = some (.int .i64 0) := by rw [cell_of_row w2 _ 0 _ _ (0, 0) bR2]; rfl
          have p1 : w2.cell? ⟨w.heap.size + 1, 1, none⟩ = some (.int .i64 0) := by rw [cell_of_row w2 _ 1 _ _ (0, 0) bR2]; rfl
          have p2 : w2.cell? ⟨w.heap.size + 1, 2, none⟩ = some (.slice none 0 0) := by rw [cell_of_row w2 _ 2 _ _ (0, 0) bR2]; rfl
          have HR2 := Lib.hid bR2
          have HRES := Lib.hid hres
          have HB4 := Lib.hid ((HB0.out.trans (HNX.out.mono (by omega))).trans ((show Below wr.heap.size wr w2 from (Below.refl wr.heap.size wr).drew.trans hb4).mono (by omega)))))
      all_goals
        obtain ⟨WF, hWF⟩ : ∃ WF, (((w2.setCell ⟨w.heap.size + 1, 0, none⟩ (.int .i64 X')).setCell ⟨w.heap.size + 1, 1, none⟩ (.int .i64 Y')).setCell ⟨w.heap.size + 1, 2, none⟩ (.slice a' n' c2')) = WF := ⟨_, rfl⟩
        have rF : WF.heap[w.heap.size + 1]? = some (.cells #[.int .i64 X', .int .i64 Y', .slice a' n' c2'] 48 (0, 0)) := by rw [← hWF]; exact blk_set3 HR2.out _ _ _
        have bF : Below w.heap.size w WF := by rw [← hWF]; exact below_set3 HB4.out (by omega) _ _ _
        have vF : ResV WF r WW HH (binIL W s WW HH ks) X' Y' a' n' c2' := by rw [← hWF]; exact HRES.out.stored HR2.out (OneBlk.set3 _ _ _ _ _)
        go_wp2_with fail
        try rw [hWF]
        subst hle
        exact bodyPost_ret (v := .tuple #[.agg #[.int .i64 X', .int .i64 Y', .slice a' n' c2'], .int .i64 (largeErr (HH * WW) (binIL W s WW HH ks))]) (results_row_tmp Tryz.results67 _ _ (w.heap.size + 1) 48 _ (0, 0) _ rfl rF Tryz.underlying48 rfl (by kernel_rfl)) rfl ⟨_, _, _, _, _, rfl, vF, bF⟩
end Go.Proofs.YtfdkmmllemkogaaGreatDoor

/-
  What the reference's Binned answers where the step does not divide the sides.
-/
namespace Go.Proofs.YtfdkmmllemkogaaGreatDoor
open Go.RowKit
set_option linter.unusedVariables false
set_option linter.unusedSimpArgs false

set_option maxRecDepth 100000 in
set_option maxHeartbeats 6400000 in
theorem refBinned_shape (W H : Int) (a : Option Addr) (n c : Nat) (step : Int) (hww : 1 ≤ W ∧ W ≤ 64) (hhh : 1 ≤ H ∧ H ≤ 64) (hss : 1 ≤ step ∧ step ≤ 64) (hne : ¬ (W % step = 0 ∧ H % step = 0)) (w : World) :
    Calls Tryz.prog 67 #[.agg #[.int .i64 W, .int .i64 H, .slice a n c], .int .i64 step] w fun e w' =>
      e = .returned (.tuple #[.agg #[.int .i64 0, .int .i64 0, .slice none 0 0], .int .i64 2]) ∧ Below w.heap.size w w' := by
  obtain ⟨W0, hW0⟩ : ∃ W0, ((w.alloc (.cells #[.int .i64 W, .int .i64 H, .slice a n c] 48)).alloc (.cells #[.int .i64 0, .int .i64 0, .slice none 0 0] 48)) = W0 := ⟨_, rfl⟩
  have hB0 : Below w.heap.size w W0 := by rw [← hW0]; exact (((Below.refl _ w).alloc (Nat.le_refl _) _).alloc (by simp) _)
  have hS0 : W0.heap.size = w.heap.size + 2 := by rw [← hW0]; simp
  have b0c0 : W0.cell? ⟨w.heap.size, 0, none⟩ = some (.int .i64 W) := by rw [← hW0]; simp [go_sem]
  have b0c1 : W0.cell? ⟨w.heap.size, 1, none⟩ = some (.int .i64 H) := by rw [← hW0]; simp [go_sem]
  have b0c2 : W0.cell? ⟨w.heap.size, 2, none⟩ = some (.slice a n c) := by rw [← hW0]; simp [go_sem]
  have bz0 : W0.heap[w.heap.size + 1]? = some (.cells #[.int .i64 0, .int .i64 0, .slice none 0 0] 48 (0, 0)) := by rw [← hW0]; have h := blk_alloc_new (w.alloc (.cells #[.int .i64 W, .int .i64 H, .slice a n c] 48)) (.cells #[.int .i64 0, .int .i64 0, .slice none 0 0] 48); simpa using h
  have bP := bz0
  have q0 : W0.frozen? ⟨w.heap.size + 1, 0, none⟩ = false := by simp [World.frozen?, bP]
  have q1 : W0.frozen? ⟨w.heap.size + 1, 1, none⟩ = false := by simp [World.frozen?, bP]
  have q2 : W0.frozen? ⟨w.heap.size + 1, 2, none⟩ = false := by simp [World.frozen?, bP]
  have p0 : W0.cell? ⟨w.heap.size + 1, 0, none⟩ = some (.int .i64 0) := by rw [cell_of_row W0 _ 0 _ _ (0, 0) bP]; rfl
  have p1 : W0.cell? ⟨w.heap.size + 1, 1, none⟩ = some (.int .i64 0) := by rw [cell_of_row W0 _ 1 _ _ (0, 0) bP]; rfl
  have p2 : W0.cell? ⟨w.heap.size + 1, 2, none⟩ = some (.slice none 0 0) := by rw [cell_of_row W0 _ 2 _ _ (0, 0) bP]; rfl
  have HBP := Lib.hid bP
  clear bP
  have HB0 := Lib.hid hB0
  clear hB0 bz0
  have hz : ¬ (step = 0) := by omega
  have hz1 : (step == 0) = false := by simp [hz]
  go_enter Tryz.func67, Tryz.ntmps67
  go_upto_region 1 with fail
  try rw [hW0]
  clear hW0
  by_cases h1 : W % step = 0
  · have h2 : H % step ≠ 0 := fun h => hne ⟨h1, h⟩
    have e0 : (W % step != 0) = false := by simp [h1]
    have e1 : (H % step != 0) = true := by simp [h2]
    have w1 : IntKind.i64.wrap (W % step) = W % step := by rw [h1]; rfl
    have w2 : IntKind.i64.wrap (H % step) = H % step := emod_in _ _ hhh (by omega)
    clear h1 h2 hne
    go_wp2_with fail
    obtain ⟨WF, hWF⟩ : ∃ WF, (((W0.setCell ⟨w.heap.size + 1, 0, none⟩ (.int .i64 0)).setCell ⟨w.heap.size + 1, 1, none⟩ (.int .i64 0)).setCell ⟨w.heap.size + 1, 2, none⟩ (.slice none 0 0)) = WF := ⟨_, rfl⟩
    have rF : WF.heap[w.heap.size + 1]? = some (.cells #[.int .i64 0, .int .i64 0, .slice none 0 0] 48 (0, 0)) := by rw [← hWF]; exact blk_set3 HBP.out _ _ _
    have bF : Below w.heap.size w WF := by rw [← hWF]; exact below_set3 HB0.out (by omega) _ _ _
    rw [hWF]
    exact bodyPost_ret (v := .tuple #[.agg #[.int .i64 0, .int .i64 0, .slice none 0 0], .int .i64 2]) (results_row_tmp Tryz.results67 _ _ (w.heap.size + 1) 48 _ (0, 0) _ rfl rF Tryz.underlying48 rfl (by kernel_rfl)) rfl ⟨rfl, bF⟩
  · have e0 : (W % step != 0) = true := by simp [h1]
    have w1 : IntKind.i64.wrap (W % step) = W % step := emod_in _ _ hww (by omega)
    clear h1 hne
    go_wp2_with fail
    obtain ⟨WF, hWF⟩ : ∃ WF, (((W0.setCell ⟨w.heap.size + 1, 0, none⟩ (.int .i64 0)).setCell ⟨w.heap.size + 1, 1, none⟩ (.int .i64 0)).setCell ⟨w.heap.size + 1, 2, none⟩ (.slice none 0 0)) = WF := ⟨_, rfl⟩
    have rF : WF.heap[w.heap.size + 1]? = some (.cells #[.int .i64 0, .int .i64 0, .slice none 0 0] 48 (0, 0)) := by rw [← hWF]; exact blk_set3 HBP.out _ _ _
    have bF : Below w.heap.size w WF := by rw [← hWF]; exact below_set3 HB0.out (by omega) _ _ _
    rw [hWF]
    exact bodyPost_ret (v := .tuple #[.agg #[.int .i64 0, .int .i64 0, .slice none 0 0], .int .i64 2]) (results_row_tmp Tryz.results67 _ _ (w.heap.size + 1) 48 _ (0, 0) _ rfl rF Tryz.underlying48 rfl (by kernel_rfl)) rfl ⟨rfl, bF⟩
end Go.Proofs.YtfdkmmllemkogaaGreatDoor

/-
  Contracts of Scaled, Spread and Binned for every map and every numbers; the reference's.
-/
namespace Go.Proofs.YtfdkmmllemkogaaGreatDoor
open Go.RowKit
set_option linter.unusedVariables false
set_option linter.unusedSimpArgs false

def scaledErr (W H : Int) (n : Nat) (xs : List Nat) (num den : Int) : Int :=
  if firstNZ [mapErr W H n xs, rangeErr num (-1000) 1000, rangeErr den 1 1000] = 0 then largeErr n (scaleL n (xs.map kOf) num den) else firstNZ [mapErr W H n xs, rangeErr num (-1000) 1000, rangeErr den 1 1000]
def spreadL (W H : Int) (ks : List Int) (share : Int) : List Int := roundsR W.toNat H.toNat share ks (H.toNat * W.toNat)
def spreadErr (W H : Int) (n : Nat) (xs : List Nat) (share : Int) : Int :=
  if firstNZ [mapErr W H n xs, rangeErr share 0 4] = 0 then largeErr n (spreadL W H (xs.map kOf) share) else firstNZ [mapErr W H n xs, rangeErr share 0 4]
def binnedL (W H : Int) (ks : List Int) (step : Int) : List Int := binIL W.toNat step.toNat (W / step).toNat (H / step).toNat ks
def binnedErr (W H : Int) (n : Nat) (xs : List Nat) (step : Int) : Int :=
  if firstNZ [mapErr W H n xs, rangeErr step 1 64] = 0 then if W % step = 0 ∧ H % step = 0 then largeErr ((H / step).toNat * (W / step).toNat) (binnedL W H (xs.map kOf) step) else 2 else firstNZ [mapErr W H n xs, rangeErr step 1 64]

theorem map_get {ks : List Int} {n : Nat} (hl : ks.length = n) (f : Int → Int) {j : Nat} (hj : j < n) : (ks.map f)[j]?.getD 0 = f (ks[j]?.getD 0) := by
  rw [List.getElem?_map, List.getElem?_eq_getElem (by omega)]; rfl

theorem scaled_res (W H : Int) (a : Option Addr) (n c : Nat) (xs : List Nat) (num den : Int) (w : World) (hM : AnyMap w a n c xs) :
    Answers 62 #[.agg #[.int .i64 W, .int .i64 H, .slice a n c], .int .i64 num, .int .i64 den] w (scaledErr W H n xs num den) W H (scaleL n (xs.map kOf) num den) := by
  unfold scaledErr
  by_cases h0 : firstNZ [mapErr W H n xs, rangeErr num (-1000) 1000, rangeErr den 1 1000] = 0
  · rw [if_pos h0]
    obtain ⟨h1, h2, h3⟩ := firstNZ_three h0
    have r1 := rangeErr_zero h2
    have r2 := rangeErr_zero h3
    obtain ⟨b, o, rfl, hb, hR⟩ := hM.rightK h1
    obtain ⟨Wn, rfl⟩ := Int.eq_ofNat_of_zero_le (show 0 ≤ W by have := hR.wid; omega)
    obtain ⟨Hn, rfl⟩ := Int.eq_ofNat_of_zero_le (show 0 ≤ H by have := hR.hei; omega)
    have hv : ∀ j, j < n → (scaleL n (xs.map kOf) num den)[j]?.getD 0 = roundK ((xs.map kOf)[j]?.getD 0 * num) den := fun j hj => by unfold scaleL; rw [range_get _ _ j hj]
    unfold largeErr
    by_cases hs : ∀ j, j < n → ((scaleL n (xs.map kOf) num den)[j]?.getD 0).natAbs ≤ 16384
    · rw [if_pos hs]
      refine (scaled_any Wn Hn num den r1 r2 b o c n xs _ w hR hb (fun j hj => by rw [← hv j hj]; exact hs j hj)).mono ?_
      rintro e w' ⟨g, rfl, hg, hc, hb'⟩
      refine ⟨_, _, _, _, _, rfl, ResV.some (by simp [scaleL]) hR.small hs hg (fun j hj => ?_), hb'⟩
      rw [hv j hj]; exact hc j hj
    · rw [if_neg hs]
      refine (scaled_large Wn Hn num den r1 r2 b o c n xs _ w hR hb (fun h => hs (fun j hj => ?_))).mono ?_
      · have h5 := h j hj
        rw [map_get hR.lenk _ hj] at h5
        rw [hv j hj]; exact h5
      · rintro e w' ⟨rfl, hb'⟩
        exact ⟨_, _, _, _, _, rfl, ResV.none _ _ _ _ _ (by decide), hb'⟩
  · rw [if_neg h0]
    refine (scaled_bad W H a n c num den _ _ rfl h0 w (check_of W H a n c xs w hM)).mono ?_
    rintro e w' ⟨rfl, hb'⟩
    exact ⟨_, _, _, _, _, rfl, ResV.none _ _ _ _ _ h0, hb'⟩

theorem refScaled_res (W H : Int) (a : Option Addr) (n c : Nat) (xs : List Nat) (num den : Int) (w : World) (hM : AnyMap w a n c xs) (h0 : firstNZ [mapErr W H n xs, rangeErr num (-1000) 1000, rangeErr den 1 1000] = 0) :
    Answers 65 #[.agg #[.int .i64 W, .int .i64 H, .slice a n c], .int .i64 num, .int .i64 den] w (scaledErr W H n xs num den) W H (scaleL n (xs.map kOf) num den) := by
  unfold scaledErr
  rw [if_pos h0]
  obtain ⟨h1, h2, h3⟩ := firstNZ_three h0
  obtain ⟨b, o, rfl, hb, hR⟩ := hM.rightK h1
  obtain ⟨Wn, rfl⟩ := Int.eq_ofNat_of_zero_le (show 0 ≤ W by have := hR.wid; omega)
  obtain ⟨Hn, rfl⟩ := Int.eq_ofNat_of_zero_le (show 0 ≤ H by have := hR.hei; omega)
  exact refScaled_ok Wn Hn b o c n xs _ num den (rangeErr_zero h2) (rangeErr_zero h3) w hR hb

theorem spread_res (W H : Int) (a : Option Addr) (n c : Nat) (xs : List Nat) (share : Int) (w : World) (hM : AnyMap w a n c xs) :
    Answers 63 #[.agg #[.int .i64 W, .int .i64 H, .slice a n c], .int .i64 share] w (spreadErr W H n xs share) W H (spreadL W H (xs.map kOf) share) := by
  unfold spreadErr
  by_cases h0 : firstNZ [mapErr W H n xs, rangeErr share 0 4] = 0
  · rw [if_pos h0]
    obtain ⟨h1, h2⟩ := firstNZ_two h0
    have r1 := rangeErr_zero h2
    obtain ⟨b, o, rfl, hb, hR⟩ := hM.rightK h1
    obtain ⟨Wn, rfl⟩ := Int.eq_ofNat_of_zero_le (show 0 ≤ W by have := hR.wid; omega)
    obtain ⟨Hn, rfl⟩ := Int.eq_ofNat_of_zero_le (show 0 ≤ H by have := hR.hei; omega)
    have hl : (spreadL (Wn : Int) (Hn : Int) (xs.map kOf) share).length = n := by unfold spreadL roundsR; rw [roundsTo_len]; exact hR.lenk
    unfold largeErr
    by_cases hs : ∀ j, j < n → ((spreadL (Wn : Int) (Hn : Int) (xs.map kOf) share)[j]?.getD 0).natAbs ≤ 16384
    · rw [if_pos hs]
      refine (spread_any Wn Hn share r1.1 r1.2 b o c n xs _ w hR hb (fun j => ks_at hl hs j)).mono ?_
      rintro e w' ⟨g, rfl, hg, hc, hb'⟩
      exact ⟨_, _, _, _, _, rfl, ResV.some hl hR.small hs hg (fun j hj => hc j hj), hb'⟩
    · rw [if_neg hs]
      refine (spread_large Wn Hn share r1.1 r1.2 b o c n xs _ w hR hb hs).mono ?_
      rintro e w' ⟨rfl, hb'⟩
      exact ⟨_, _, _, _, _, rfl, ResV.none _ _ _ _ _ (by decide), hb'⟩
  · rw [if_neg h0]
    refine (spread_bad W H a n c share _ _ rfl h0 w (check_of W H a n c xs w hM)).mono ?_
    rintro e w' ⟨rfl, hb'⟩
    exact ⟨_, _, _, _, _, rfl, ResV.none _ _ _ _ _ h0, hb'⟩

theorem refSpread_res (W H : Int) (a : Option Addr) (n c : Nat) (xs : List Nat) (share : Int) (w : World) (hM : AnyMap w a n c xs) (h0 : firstNZ [mapErr W H n xs, rangeErr share 0 4] = 0) :
    Answers 66 #[.agg #[.int .i64 W, .int .i64 H, .slice a n c], .int .i64 share] w (spreadErr W H n xs share) W H (spreadL W H (xs.map kOf) share) := by
  unfold spreadErr
  rw [if_pos h0]
  obtain ⟨h1, h2⟩ := firstNZ_two h0
  have r1 := rangeErr_zero h2
  obtain ⟨b, o, rfl, hb, hR⟩ := hM.rightK h1
  obtain ⟨Wn, rfl⟩ := Int.eq_ofNat_of_zero_le (show 0 ≤ W by have := hR.wid; omega)
  obtain ⟨Hn, rfl⟩ := Int.eq_ofNat_of_zero_le (show 0 ≤ H by have := hR.hei; omega)
  exact refSpread_ok Wn Hn share r1.1 r1.2 b o c n xs _ w hR hb

theorem divides {W step : Int} (hW : 1 ≤ W ∧ W ≤ 64) (hs : 1 ≤ step ∧ step ≤ 64) (h : W % step = 0) : ((W / step).toNat : Int) * step = W ∧ 0 ≤ W / step := by
  have h1 := Int.emod_add_mul_ediv W step
  have h2 : 0 ≤ W / step := Int.ediv_nonneg (by omega) (by omega)
  refine ⟨?_, h2⟩
  rw [Int.toNat_of_nonneg h2, Int.mul_comm]; omega

theorem binned_res (W H : Int) (a : Option Addr) (n c : Nat) (xs : List Nat) (step : Int) (w : World) (hM : AnyMap w a n c xs) :
    Answers 64 #[.agg #[.int .i64 W, .int .i64 H, .slice a n c], .int .i64 step] w (binnedErr W H n xs step) (W / step) (H / step) (binnedL W H (xs.map kOf) step) := by
  unfold binnedErr
  by_cases h0 : firstNZ [mapErr W H n xs, rangeErr step 1 64] = 0
  · rw [if_pos h0]
    obtain ⟨h1, h2⟩ := firstNZ_two h0
    have r1 := rangeErr_zero h2
    obtain ⟨b, o, rfl, hb, hR⟩ := hM.rightK h1
    have hw := hR.wid
    have hh := hR.hei
    by_cases hd : W % step = 0 ∧ H % step = 0
    · rw [if_pos hd]
      obtain ⟨d1, d2⟩ := divides hw r1 hd.1
      obtain ⟨d3, d4⟩ := divides hh r1 hd.2
      unfold binnedL
      obtain ⟨WW, hWW⟩ := Int.eq_ofNat_of_zero_le d2
      obtain ⟨HH, hHH⟩ := Int.eq_ofNat_of_zero_le d4
      obtain ⟨s, rfl⟩ := Int.eq_ofNat_of_zero_le (show 0 ≤ step by omega)
      obtain ⟨Wn, rfl⟩ := Int.eq_ofNat_of_zero_le (show 0 ≤ W by omega)
      obtain ⟨Hn, rfl⟩ := Int.eq_ofNat_of_zero_le (show 0 ≤ H by omega)
      rw [hWW] at d1 ⊢
      rw [hHH] at d3 ⊢
      simp only [Int.toNat_natCast] at d1 d3 ⊢
      have e1 : WW * s = Wn := by exact_mod_cast d1
      have e2 : HH * s = Hn := by exact_mod_cast d3
      have hcm : HH * WW = WW * HH := Nat.mul_comm _ _
      have hv : ∀ j, j < WW * HH → (binIL Wn s WW HH (xs.map kOf))[j]?.getD 0 = binTo Wn (xs.map kOf) s (j % WW) (j / WW) (placesTo s (s * s)) := fun j hj => by unfold binIL; rw [range_get _ _ j (by omega)]
      have hp : ∀ j, j < WW * HH → ((placesTo WW (HH * WW)).map (fun p => binTo Wn (xs.map kOf) s p.1 p.2 (placesTo s (s * s))))[j]?.getD 0 = (binIL Wn s WW HH (xs.map kOf))[j]?.getD 0 := fun j hj => by
        rw [hv j hj, List.getElem?_map, placesTo_get WW (HH * WW) j (by omega)]; rfl
      have hm : WW * HH ≤ 4096 := by
        have h5 : WW ≤ Wn := by rw [← e1]; exact Nat.le_mul_of_pos_right WW (by omega)
        have h6 : HH ≤ Hn := by rw [← e2]; exact Nat.le_mul_of_pos_right HH (by omega)
        exact Nat.le_trans (Nat.mul_le_mul (show WW ≤ 64 by omega) (show HH ≤ 64 by omega)) (by decide)
      unfold largeErr
      rw [hcm]
      by_cases hs : ∀ j, j < WW * HH → ((binIL Wn s WW HH (xs.map kOf))[j]?.getD 0).natAbs ≤ 16384
      · rw [if_pos hs]
        refine (binned_in Wn Hn s WW HH (by omega) (by omega) e1 e2 b o c n xs _ w hR hb (fun j hj => by rw [hp j hj]; exact hs j hj)).mono ?_
        rintro e w' ⟨g, rfl, hg, hc, hb'⟩
        refine ⟨_, _, _, _, _, rfl, ResV.some (by unfold binIL; simp; exact hcm) hm hs hg (fun j hj => ?_), hb'⟩
        rw [hv j hj]; exact hc j hj
      · rw [if_neg hs]
        refine (binned_large Wn Hn s WW HH (by omega) (by omega) e1 e2 b o c n xs _ w hR hb (fun h => hs (fun j hj => by rw [← hp j hj]; exact h j hj))).mono ?_
        rintro e w' ⟨rfl, hb'⟩
        exact ⟨_, _, _, _, _, rfl, ResV.none _ _ _ _ _ (by decide), hb'⟩
    · rw [if_neg hd]
      refine (binned_shape W H _ n c step _ _ rfl h0 hw hh r1 hd w (check_of W H _ n c xs w hM)).mono ?_
      rintro e w' ⟨rfl, hb'⟩
      exact ⟨_, _, _, _, _, rfl, ResV.none _ _ _ _ _ (by decide), hb'⟩
  · rw [if_neg h0]
    refine (binned_bad W H a n c step _ _ rfl h0 w (check_of W H a n c xs w hM)).mono ?_
    rintro e w' ⟨rfl, hb'⟩
    exact ⟨_, _, _, _, _, rfl, ResV.none _ _ _ _ _ h0, hb'⟩

theorem refBinned_res (W H : Int) (a : Option Addr) (n c : Nat) (xs : List Nat) (step : Int) (w : World) (hM : AnyMap w a n c xs) (h0 : firstNZ [mapErr W H n xs, rangeErr step 1 64] = 0) :
    Answers 67 #[.agg #[.int .i64 W, .int .i64 H, .slice a n c], .int .i64 step] w (binnedErr W H n xs step) (W / step) (H / step) (binnedL W H (xs.map kOf) step) := by
  unfold binnedErr
  rw [if_pos h0]
  obtain ⟨h1, h2⟩ := firstNZ_two h0
  have r1 := rangeErr_zero h2
  obtain ⟨b, o, rfl, hb, hR⟩ := hM.rightK h1
  have hw := hR.wid
  have hh := hR.hei
  by_cases hd : W % step = 0 ∧ H % step = 0
  · rw [if_pos hd]
    obtain ⟨d1, d2⟩ := divides hw r1 hd.1
    obtain ⟨d3, d4⟩ := divides hh r1 hd.2
    unfold binnedL
    obtain ⟨WW, hWW⟩ := Int.eq_ofNat_of_zero_le d2
    obtain ⟨HH, hHH⟩ := Int.eq_ofNat_of_zero_le d4
    obtain ⟨s, rfl⟩ := Int.eq_ofNat_of_zero_le (show 0 ≤ step by omega)
    obtain ⟨Wn, rfl⟩ := Int.eq_ofNat_of_zero_le (show 0 ≤ W by omega)
    obtain ⟨Hn, rfl⟩ := Int.eq_ofNat_of_zero_le (show 0 ≤ H by omega)
    rw [hWW] at d1 ⊢
    rw [hHH] at d3 ⊢
    simp only [Int.toNat_natCast] at d1 d3 ⊢
    have e1 : WW * s = Wn := by exact_mod_cast d1
    have e2 : HH * s = Hn := by exact_mod_cast d3
    exact refBinned_ok Wn Hn s WW HH (by omega) e1 e2 b o c n xs _ w hR hb
  · rw [if_neg hd]
    refine (refBinned_shape W H _ n c step hw hh r1 hd w).mono ?_
    rintro e w' ⟨rfl, hb'⟩
    exact ⟨_, _, _, _, _, rfl, ResV.none _ _ _ _ _ (by decide), hb'⟩
end Go.Proofs.YtfdkmmllemkogaaGreatDoor
