/-
  Contract of Unpack for any bytes: the map, or the error.
-/
import Derived.Test.YtpmjiifdnnhecaaGreatDoorOaaJe
namespace Go.Proofs.YtpmjiifdnnhecaaGreatDoor
open Go.RowKit
set_option linter.unusedVariables false
set_option linter.unusedSimpArgs false

theorem lm_facts (w : World) : (w.alloc (.cells #[.int .i64 0, .int .i64 0, .slice none 0 0] 121)).heap[w.heap.size]? = some (.cells #[.int .i64 0, .int .i64 0, .slice none 0 0] 121 (0, 0)) := blk_alloc_new _ _

set_option maxRecDepth 100000 in
set_option maxHeartbeats 3200000 in
theorem unpack_bad (a : Option Addr) (n cp : Nat) (r W H : Int) (L : List Int) (hr : r ≠ 0) (w : World)
    (hK : ∀ w1 : World, Below w.heap.size w w1 → Calls Tryz.prog 170 #[.slice a n cp] w1 fun e w' => e = .returned (.int .i64 r) ∧ Below w1.heap.size w1 w') :
    Calls Tryz.prog 76 #[.slice a n cp] w (UnRes w r W H L) := by
  have e0 : (r != 0) = true := by simp [hr]
  obtain ⟨W0, hW0⟩ : ∃ W0, w.alloc (.cells #[.int .i64 0, .int .i64 0, .slice none 0 0] 121) = W0 := ⟨_, rfl⟩
  have hB0 : Below w.heap.size w W0 := by rw [← hW0]; exact (Below.refl _ w).alloc (Nat.le_refl _) _
  have r0 := lm_facts w
  rw [hW0] at r0
  have K := Lib.hid (hK W0 hB0)
  have HB0 := Lib.hid hB0
  have HR0 := Lib.hid r0
  have H0 := Lib.hid hr
  clear hK hB0 r0 hr
  go_enter Tryz.func76, Tryz.ntmps76
  go_upto_region 1 with fail
  try rw [hW0]
  clear hW0
  go_upto_region 2 with (go_at_call 170; with_reducible refine K.out.mono ?_; rintro e w1 ⟨rfl, hb1⟩)
  have r1 := (hb1.block _ (lt_of_blk HR0.out)).trans HR0.out
  have HE := Lib.hid (map_ends r1 (HB0.out.trans (hb1.mono HB0.out.size)) (Nat.le_refl _))
  obtain ⟨z0, z1, z2⟩ := row_cells r1
  have q0 : w1.frozen? ⟨w.heap.size, 0, none⟩ = false := frozen_of_row _ _ _ _ _ r1
  have q1 : w1.frozen? ⟨w.heap.size, 1, none⟩ = false := frozen_of_row _ _ _ _ _ r1
  have q2 : w1.frozen? ⟨w.heap.size, 2, none⟩ = false := frozen_of_row _ _ _ _ _ r1
  clear r1 hb1
  go_wp2
  exact bodyPost_ret (v := .tuple #[.agg #[.int .i64 0, .int .i64 0, .slice none 0 0], .int .i64 r]) (results_row_tmp Tryz.results76 _ _ w.heap.size 121 _ (0, 0) _ rfl (HE.out _ _ _).1 Tryz.underlying121 rfl (by kernel_rfl)) rfl (UnRes.bad H0.out (HE.out _ _ _).2)

theorem blw_alloc {W w' : World} (h : Blw W.heap.size W w') (o : Obj) : Blw W.heap.size W (w'.alloc o) := Below.alloc h (Below.size h) o
set_option maxRecDepth 100000 in
set_option maxHeartbeats 12800000 in
theorem unpack_body (S : List Int) (b q n cp W H : Nat) (r : Int) (hr : unErr S = r) (h00 : unErr0 S = 0) (hS : BytesV S n) (eW : S[4]?.getD 0 = (W : Int)) (eH : S[5]?.getD 0 = (H : Int)) (h6 : 6 ≤ n) (hn : n ≤ 2000) (hcp : n ≤ cp) (hcq : cp ≤ 9223372036854775807) (w : World) (hb : b < w.heap.size) (hra : w.rangeAt b q (S.map (Value.int .u8))) (hne : S.take 4 = magicL) :
    Calls Tryz.prog 76 #[.slice (some ⟨b, q, none⟩) n cp] w (UnRes w r W H (unL S)) := by
  have hE0 : r = if mapErr (unW S) (unH S) (unN S) (unXs S) = 0 then (if mzB (unXs S) then 1 else 0) else mapErr (unW S) (unH S) (unN S) (unXs S) := by
    rw [← hr]; unfold unErr; rw [if_pos h00, mzB_err]
  have hsm := fun h1 h2 => un_smpOf hS (n := n) h1 h2
  have hEn : unEnd S + 4 = n := by
    have h := h00
    unfold unErr0 at h
    rw [if_neg (by have := hS.1; omega), if_neg (by simp [hne]), if_neg (by have := hS.1; omega), hS.1] at h
    by_cases h1 : n < unEnd S + 4
    · rw [if_pos h1] at h; exact absurd h (by decide)
    · rw [if_neg h1] at h
      by_cases h2 : unEnd S + 4 < n
      · rw [if_pos h2] at h; exact absurd h (by decide)
      · omega
  have eN : unN S = W * H := by unfold unN unW unH byteAt; rw [eW, eH]; rfl
  have eE : unEnd S = 6 + 4 * (W * H) := by unfold unEnd; rw [eN]
  have ew : unW S = (W : Int) := eW
  have eh : unH S = (H : Int) := eH
  rw [hr, eN, eE, ew, eh] at hsm
  rw [eN, ew, eh] at hE0
  rw [eE] at hEn
  have hl := hS.1
  have bd : ∀ j, j < n → 0 ≤ S[j]?.getD 0 ∧ S[j]?.getD 0 ≤ 255 := fun j hj => by
    rw [List.getElem?_eq_getElem (by omega)]; exact hS.2 _ (List.getElem_mem _)
  have bW := (bd 4 (by omega)); rw [eW] at bW
  have bH := (bd 5 (by omega)); rw [eH] at bH
  obtain ⟨bW0, bW1⟩ := bW
  obtain ⟨bH0, bH1⟩ := bH
  have wW : IntKind.i64.wrap (W : Int) = (W : Int) := IntWalk.i64_in _ ⟨by omega, by omega⟩
  have wH : IntKind.i64.wrap (H : Int) = (H : Int) := IntWalk.i64_in _ ⟨by omega, by omega⟩
  obtain ⟨N, hN⟩ : ∃ N, W * H = N := ⟨_, rfl⟩
  rw [hN] at hE0 hsm eN hEn
  obtain ⟨E, hE⟩ : ∃ E, 6 + 4 * N = E := ⟨_, rfl⟩
  rw [hE] at hsm hEn
  have wE : IntKind.i64.wrap ((n : Int) - 4) = (E : Int) := by rw [show (n : Int) - 4 = (E : Int) by omega]; exact IntWalk.i64_in _ ⟨by omega, by omega⟩
  have eI : (n : Int) - 4 = (E : Int) := by omega
  have i3 : (4 : Int) ≤ (n : Int) := by omega
  have i7 : (4 : Int) < (n : Int) := by omega
  have i8 : (5 : Int) < (n : Int) := by omega
  have i10 : (n : Int) ≤ 2000 := by omega
  obtain ⟨W0, hW0⟩ : ∃ W0, w.alloc (.cells #[.int .i64 0, .int .i64 0, .slice none 0 0] 121) = W0 := ⟨_, rfl⟩
  have hB0 : Below w.heap.size w W0 := by rw [← hW0]; exact (Below.refl _ w).alloc (Nat.le_refl _) _
  have hS0 : W0.heap.size = w.heap.size + 1 := by rw [← hW0]; simp
  have r0 := lm_facts w
  rw [hW0] at r0
  have hab : AnyBytes w (some ⟨b, q, none⟩) n S := ⟨hS, fun j hj => ⟨b, q, rfl, hb, hra⟩⟩
  have K0 := checkStream_all S (some ⟨b, q, none⟩) n cp hn hcp hcq W0 (hab.kept hB0)
  rw [h00] at K0
  have K := Lib.hid K0
  have HE0 := Lib.hid hE0
  have HSM := Lib.hid hsm
  have HB0 := Lib.hid hB0
  have HR0 := Lib.hid r0
  have HS := Lib.hid hS
  have HRA := Lib.hid hra
  have HQE : Hid (6 + 4 * N = E) := Lib.hid hE
  have HEN := Lib.hid eN
  have HE4 := Lib.hid hEn
  have HCW : Hid (∀ w1 : World, Below w.heap.size w w1 → w1.cell? ⟨b, q + 4, none⟩ = some (.int .u8 (W : Int)) ∧ w1.cell? ⟨b, q + 5, none⟩ = some (.int .u8 (H : Int))) := Lib.hid fun w1 h => by
    have h4 := range_cells (range_below hra h hb) 4 (by omega)
    have h5 := range_cells (range_below hra h hb) 5 (by omega)
    rw [List.getD_eq_getElem?_getD, eW] at h4
    rw [List.getD_eq_getElem?_getD, eH] at h5
    exact ⟨h4, h5⟩
  have HWE := Lib.hid wE
  have HIE := Lib.hid eI
  clear hE0 hsm hB0 r0 hS hra hE hN eN eE ew eh hne eW eH hl bd hr h00 K0 hab hEn wE eI
  go_enter Tryz.func76, Tryz.ntmps76
  go_upto_region 1 with fail
  try rw [hW0]
  clear hW0
  go_upto_region 4 with (go_at_call 170; with_reducible refine K.out.mono ?_; rintro e w1 ⟨rfl, hb1⟩)
  have hB1' := HB0.out.trans (hb1.mono HB0.out.size)
  have r1 := (hb1.block _ (lt_of_blk HR0.out)).trans HR0.out
  have hs1 : w.heap.size + 1 ≤ w1.heap.size := by have := hb1.size; omega
  obtain ⟨c4, c5⟩ := HCW.out w1 hB1'
  have HB1' := Lib.hid hB1'
  have HR1 := Lib.hid r1
  clear hb1 hB1' r1 HB0 HR0
  go_region_held3 (fun w' => w'.cell? ⟨b, q + 4, none⟩ = some (.int .u8 (W : Int)) ∧ w'.cell? ⟨b, q + 5, none⟩ = some (.int .u8 (H : Int))) (go_keep) (fail)
  generalize hW1 : World.drew _ = W2
  have HB2 : Hid (Below w.heap.size w W2) := Lib.hid (by rw [← hW1]; exact (HB1'.out.alloc (by omega) _).drew)
  have bR2 : W2.heap[w.heap.size]? = some (.cells #[.int .i64 0, .int .i64 0, .slice none 0 0] 121 (0, 0)) := by rw [← hW1]; exact blk_alloc_other HR1.out _
  have bM2 : W2.heap[w1.heap.size]? = some (.cells #[.int .i64 W, .int .i64 H, .slice none 0 0] 121 (0, 0)) := by
    rw [← hW1]; exact blk_alloc_new _ _
  have hz2 : w1.heap.size + 1 ≤ W2.heap.size := by rw [← hW1]; simp
  clear hW1 c4 c5 K hS0
  have HBM := Lib.hid bM2
  have HBR := Lib.hid bR2
  obtain ⟨C, hC⟩ : ∃ C, w1.heap.size = C := ⟨_, rfl⟩
  rw [hC] at HBM hz2 hs1 ⊢
  clear bM2 bR2 hC
  have wE := HWE.out
  go_wp2_with fail
  have KQ : Hid (∀ k, k < N → ∀ w1 : World, Below w.heap.size w w1 → ∀ c', Calls Tryz.prog 171 #[.slice (some ⟨b, q + (6 + 4 * k), none⟩) 4 c'] w1 fun e w' => e = .returned (.int .i64 (wordAt S k)) ∧ w1 = w') := Lib.hid fun k hk w1 h c' => by
    have hlq : 6 + 4 * k + 4 ≤ n := by have := HQE.out; have := HE4.out; omega
    obtain ⟨g1, g2⟩ := quad_bytes HS.out k hlq
    rw [← (word_bd HS.out k hlq).2]
    refine readNumber_any b (q + (6 + 4 * k)) 4 c' (quad S k) w1 g1 (by omega) g2 (fun j hj => ?_)
    have := range_cells (range_take 4 (range_drop (6 + 4 * k) (range_below HRA.out h hb))) j (by have := g1; unfold quad at this; omega)
    rwa [List.getD_eq_getElem?_getD] at this
  have HWB : Hid (∀ k, k < N → wordAt S k < 2 ^ 32) := Lib.hid fun k hk => (word_bd HS.out k (by have := HQE.out; have := HE4.out; omega)).1
  have hNb : N ≤ 500 := by have := HQE.out; have := HE4.out; omega
  obtain ⟨i0, hi, hz0, hz1, hzb⟩ := info_parts Tryz.infoF32
  go_loopw [6, 7] (fun iv _ wr => ∃ (k : Nat) (v : Value), k ≤ N ∧ iv = .int .i64 ((6 + 4 * k : Nat) : Int) ∧ wr.heap[C]? = some (.cells #[.int .i64 W, .int .i64 H, v] 121 (0, 0)) ∧ wr.heap[w.heap.size]? = some (.cells #[.int .i64 0, .int .i64 0, .slice none 0 0] 121 (0, 0)) ∧
      wr.ownsRow (C + 1) 119 1 v k (((unXs S).take k).map (fun x => Value.float .f32 x)) ∧ Below w.heap.size w wr ∧ C + 1 ≤ wr.heap.size) (fun iv _ _ => E - (intOf iv).toNat)
  case atStart => exact ⟨0, _, Nat.zero_le _, rfl, HBM.out, HBR.out, World.ownsRow_nil _ _ _ _, HB2.out, hz2⟩
  case round =>
    obtain ⟨k, v, hk, rfl, bM, bR, hown, hnx, hsz⟩ := hrel
    obtain ⟨av, cv, rfl⟩ := owns_slice hown
    obtain ⟨p, hp⟩ : ∃ p : Nat, 6 + 4 * k = p := ⟨_, rfl⟩
    by_cases hlt : k < N
    · have g1 : (p : Int) < (E : Int) := by have := HQE.out; omega
      have g2 : (p : Int) + 4 ≤ (n : Int) := by have := HQE.out; have := HE4.out; omega
      have g3 : (p : Int) + 4 ≤ (cp : Int) := by omega
      have g4 : (0 : Int) ≤ (p : Int) := by omega
      have g5 : IntKind.i64.wrap ((p : Int) + 4) = (p : Int) + 4 := IntWalk.i64_in _ ⟨by omega, by omega⟩
      have g6 : p < cp := by omega
      have g7 : p + 4 ≤ cp := by omega
      have g8 : p + 4 ≤ n := by omega
      have g9 : (p : Int) < (cp : Int) := by omega
      have g10 : ((p : Int) + 4).toNat = p + 4 := by omega
      have g11 : ¬ (cp = p) := by omega
      have g12 : (p : Int) ≤ (n : Int) := by omega
      have KQk := Lib.hid (KQ.out k hlt _ hnx)
      rw [hp] at KQk ⊢
      have hwb := HWB.out k hlt
      have hsu := unXs_take S k (by rw [HEN.out]; exact hlt)
      obtain ⟨x, hx⟩ : ∃ x, wordAt S k = x := ⟨_, rfl⟩
      rw [hx] at KQk hwb hsu
      have hux : IntKind.u32.wrap (x : Int) = (x : Int) := IntWalk.u32_in _ ⟨by omega, by omega⟩
      have HSU := Lib.hid hsu
      have hf32 := run_from32 x
      have c2 : wr.cell? ⟨C, 2, none⟩ = some (.slice av k cv) := by rw [cell_of_row wr _ 2 _ _ (0, 0) bM]; rfl
      have hy1 : ¬ (C = wr.heap.size) := by omega
      have hy2 : ¬ (wr.heap.size = C) := by omega
      have ca1 : ∀ o, (wr.alloc o).cell? ⟨C, 2, none⟩ = some (.slice av k cv) := fun o => (((Below.refl _ wr).alloc (Nat.le_refl _) _).cell (p := ⟨C, 2, none⟩) (by show C < _; omega)).trans c2
      have hvb : (Value.slice av k cv).ownBlock ≠ some (C) := fun e => by have := (hown.lt _ e).1; omega
      have hvb3 : (Value.slice av k cv).ownBlock ≠ some w.heap.size := fun e => by have := (hown.lt _ e).1; omega
      have hlw := hown.lt
      have HLW := Lib.hid hlw
      have HBM' := Lib.hid bM
      have HBR' := Lib.hid bR
      have HNX := Lib.hid hnx
      have HP := Lib.hid hp
      clear bM bR hsu hx hnx hp hlw
      all_goals
        go_upto_region 9 with (go_at_call 171; with_reducible refine (KQk.out _).mono ?_; rintro e w' ⟨rfl, rfl⟩)
        go_region_law
          (refine step_append_lies _ (by rfl) (.tmp 38) (.tmp 42) 115 (by rfl) (C + 1) 119 i0 (.float .f32 0) 1 4 Tryz.underlying115 hi hz0 hz1 hzb (by rfl) (by omega) (.slice av k cv) k _ (by rfl) (hown.alloc _) ⟨wr.heap.size, 0, none⟩ 1 1 [.float .f32 x] (by rfl) (by rfl) (cell_one_new _ _ _) (by intro u hu; simp at hu; subst hu; rfl) (by omega) (by unfold maxLen; omega) (by omega) (by simp; omega) (wr.heap.size + 1) (by simp) ?_; intro g cap w1 hown1 hgrow hat hglt
           have bM1 : w1.heap[C]? = some (.cells #[.int .i64 W, .int .i64 H, .slice av k cv] 121 (0, 0)) := (hgrow.block (C) (by simp; omega) (Ne.symm hvb)).trans ((((Below.refl _ wr).alloc (Nat.le_refl _) _).block (C) (by omega)).trans HBM'.out)
           have bR1 : w1.heap[w.heap.size]? = some (.cells #[.int .i64 0, .int .i64 0, .slice none 0 0] 121 (0, 0)) := (hgrow.block w.heap.size (by simp; omega) (Ne.symm hvb3)).trans ((((Below.refl _ wr).alloc (Nat.le_refl _) _).block w.heap.size (by omega)).trans HBR'.out)
           have c2w : w1.cell? ⟨C, 2, none⟩ = some (.slice av k cv) := by rw [cell_of_row w1 _ 2 _ _ (0, 0) bM1]; rfl
           have q2w : w1.frozen? ⟨C, 2, none⟩ = false := frozen_of_row _ _ _ _ _ bM1
           have HM1 := Lib.hid bM1
           have HR1 := Lib.hid bR1
           have HG := Lib.hid hgrow
           have HO1 := Lib.hid hown1
           clear bM1 bR1)
        all_goals
          go_wp2_with fail
          have hS1 : wr.heap.size + 1 ≤ w1.heap.size := by have := HG.out.size; simpa using this
          have e1 : ((unXs S).take (k + 1)).map (fun x => Value.float .f32 x) = ((unXs S).take k).map (fun x => Value.float .f32 x) ++ [.float .f32 x] := by rw [HSU.out, List.map_append]; rfl
          have fB : Below w.heap.size w w1 := (HNX.out.alloc (by omega) _).drew.grown HG.out (by simp; omega) (fun j hj => by have := (HLW.out j hj).1; omega)
          have HE1 := Lib.hid e1
          have HFB := Lib.hid fB
          have HS1 := Lib.hid hS1
          clear e1 fB hS1
          go_roundw
          case rel => exact ⟨k + 1, _, by omega, by rw [← HP.out]; first | (congr 1; done) | (congr 1; omega) | (simp; omega), blk_last HM1.out _, (setCell_other (by omega)).trans HR1.out, by rw [HE1.out]; exact ownsRow_setCell_below HO1.out (by dsimp only; omega) _, HFB.out.setCell (p := ⟨C, 2, none⟩) (by show w.heap.size ≤ C; omega) _, by have := HS1.out; simp; omega⟩
          case measure => simp [intOf]; omega
    · obtain rfl : k = N := by omega
      have hxl : (unXs S).length = k := by rw [unXs_len]; exact HEN.out
      rw [List.take_of_length_le (Nat.le_of_eq hxl)] at hown
      have g1 : ¬ ((p : Int) < (E : Int)) := by have := HQE.out; omega
      rw [hp]
      have hcs : ∀ w1 : World, Below wr.heap.size wr w1 → ∀ j, j < k → ∃ b o, av = some ⟨b, o, none⟩ ∧ b < w1.heap.size ∧ ∀ j, j < k → w1.cell? ⟨b, o + j, none⟩ = some (.float .f32 ((unXs S)[j]?.getD 0)) := fun w1 h j hj => by
        have ho := owns_kept hown h (Nat.le_refl _)
        obtain ⟨g, c', e, hg, _⟩ := owns_some ho (by omega)
        cases e
        refine ⟨g, 0, rfl, hg, fun i hi2 => ?_⟩
        rw [Nat.zero_add]
        exact owns_cell ho (by rw [List.getElem?_map, List.getElem?_eq_getElem (by omega)]; rfl)
      have hwd : ∀ j, j < k → (unXs S)[j]?.getD 0 < 2 ^ 32 := fun j hj => by rw [unXs_get S j (by rw [HEN.out]; exact hj)]; exact HWB.out j hj
      obtain ⟨er, her⟩ : ∃ er, mapErr W H k (unXs S) = er := ⟨_, rfl⟩
      have KM : Hid (∀ w1 : World, Blw wr.heap.size wr w1 → Calls Tryz.prog 134 #[.agg #[.int .i64 W, .int .i64 H, .slice av k cv]] w1 fun e w' => e = .returned (.int .i64 er) ∧ Blw wr.heap.size wr w' ∧ Below w1.heap.size w1 w') := Lib.hid fun w1 h => by
        rw [← her]
        exact (checkMap_all W H av k cv (unXs S) hxl w1 hwd (hcs w1 h)).mono fun e w' ⟨h1, h2⟩ => ⟨h1, Below.trans h (h2.mono (Below.size h)), h2⟩
      obtain ⟨zs, hzs⟩ : ∃ zs, (unXs S).map zeroErr = zs := ⟨_, rfl⟩
      have hzl : zs.length = k := by rw [← hzs, List.length_map]; exact hxl
      have KZ : Hid (∀ w1 : World, Blw wr.heap.size wr w1 → Calls Tryz.prog 155 #[.slice av k cv, .func (.func 173) #[] #[]] w1 fun e w' =>
          ∃ g, e = .returned (.slice (some ⟨g, 0, none⟩) k k) ∧ w'.ownsRow w1.heap.size 26 1 (.slice (some ⟨g, 0, none⟩) k k) k (zs.map (Value.int .i64)) ∧ Blw wr.heap.size wr w' ∧ Below w1.heap.size w1 w') := Lib.hid fun w1 h => by
        refine (mapped_zero av k cv (unXs S) hxl (by omega) (hcs w1 h) hwd).mono fun e w' ⟨h1, h2, h3⟩ => ⟨w1.heap.size, h1, ?_, Below.trans h (h3.mono (Below.size h)), h3⟩
        rw [← hzs, List.map_map]
        exact h2
      have hq : firstNZ zs = if mzB (unXs S) then 1 else 0 := by rw [← hzs]; exact mzB_err _
      obtain ⟨fz, hfz⟩ : ∃ fz, firstNZ zs = fz := ⟨_, rfl⟩
      have hrr : r = if er = 0 then fz else er := by have h := HE0.out; rw [her, ← hq, hfz] at h; exact h
      obtain ⟨m0, m1, m2⟩ := row_cells bM
      have KF : Hid (∀ (w1 : World) (g : Nat), (∀ j, j < k → w1.cell? ⟨g, j, none⟩ = some (.int .i64 (zs[j]?.getD 0))) → Calls Tryz.prog 77 #[.slice (some ⟨g, 0, none⟩) k k] w1 fun e w' => e = .returned (.int .i64 fz) ∧ w1 = w') := Lib.hid fun w1 g hc => by
        rw [← hfz]
        exact first_any g 0 k k zs hzl (by omega) w1 (fun j hj => by rw [Nat.zero_add]; exact hc j hj)
      have KR : Hid (∀ (w1 : World) (g : Nat) (x y : Int), w1.cell? ⟨g, 0, none⟩ = some (.int .i64 x) → w1.cell? ⟨g, 1, none⟩ = some (.int .i64 y) → Calls Tryz.prog 77 #[.slice (some ⟨g, 0, none⟩) 2 2] w1 fun e w' => e = .returned (.int .i64 (firstNZ [x, y])) ∧ w1 = w') := Lib.hid fun w1 g x y h1 h2 => by
        refine first_any g 0 2 2 [x, y] rfl (by omega) w1 (fun j hj => ?_)
        match j, hj with
        | 0, _ => exact h1
        | 1, _ => exact h2
      have hzc : ∀ j, j < k → (zs.map (Value.int .i64))[j]? = some (.int .i64 (zs[j]?.getD 0)) := fun j hj => by
        rw [List.getElem?_map, List.getElem?_eq_getElem (by omega)]; rfl
      have HZC := Lib.hid hzc
      have HRR := Lib.hid hrr
      have HER := Lib.hid her
      have HBM' := Lib.hid bM
      have HBR' := Lib.hid bR
      have HNX := Lib.hid hnx
      have HO := Lib.hid hown
      have HXL := Lib.hid hxl
      have hB : Blw wr.heap.size wr wr := show Below _ _ _ from Below.refl _ _
      have hB' : Blw wr.heap.size wr wr.drew := show Below _ _ _ from (Below.refl wr.heap.size wr).drew
      clear bM bR hnx hp hown hxl hcs her hwd hzs hzl hq hfz hrr hzc
      go_upto_region 10 with fail
      go_cut [8] (fun s8 wc => s8 = .int .i64 (firstNZ [er, fz]) ∧ Blw wr.heap.size wr wc)
      case first =>
        go_region_held3 (fun w' => w'.cell? ⟨C, 0, none⟩ = some (.int .i64 W) ∧ w'.cell? ⟨C, 1, none⟩ = some (.int .i64 H) ∧ w'.cell? ⟨C, 2, none⟩ = some (.slice av k cv) ∧ Blw wr.heap.size wr w')
          (first
            | (go_split_ands; refine ⟨?_, ?_, ?_, ?_⟩ <;> with_reducible assumption)
            | (go_split_ands; refine ⟨?_, ?_, ?_, ?_⟩ <;> first | (with_reducible assumption) | exact blw_alloc (by assumption) _ | (rw [Below.cell (w := wr) (by assumption : Blw wr.heap.size wr _) (by show C < wr.heap.size; omega)]; assumption) | (rw [Below.cell (w := wr) (blw_alloc (by assumption) _) (by show C < wr.heap.size; omega)]; assumption))
            | (go_keep; done))
          (first
            | (go_at_call 134; with_reducible refine (KM.out _ (by assumption)).mono ?_; rintro e w3 ⟨rfl, hb3, hk3⟩)
            | (go_at_call 155; with_reducible refine (KZ.out _ (by assumption)).mono ?_; rintro e w4 ⟨g4, rfl, ho4, hb4, hk4⟩)
            | (go_at_call 77; with_reducible refine (KF.out _ g4 (fun j hj => by first | exact owns_cell ho4 (HZC.out j hj) | exact owns_cell (owns_kept ho4 hk3 (Nat.le_refl _)) (HZC.out j hj))).mono ?_; rintro e w5 ⟨rfl, rfl⟩)
            | (go_at_call 77; with_reducible refine (KR.out _ _ er fz (by simp [go_sem]) (by simp [go_sem])).mono ?_; rintro e w5 ⟨rfl, rfl⟩))
        all_goals
          go_wp2_with fail
          go_meet
          exact ⟨rfl, blw_alloc (by assumption) _⟩
      case rest =>
        obtain ⟨rfl, hb6⟩ := hcut
        have hqr : firstNZ [er, fz] = r := by
          rw [HRR.out]
          simp only [firstNZ]
          by_cases h : er = 0
          · by_cases h2 : fz = 0 <;> simp [h, h2]
          · simp [h]
        have b6R := (Below.block hb6 _ (lt_of_blk HBR'.out)).trans HBR'.out
        have b6M := (Below.block hb6 _ (lt_of_blk HBM'.out)).trans HBM'.out
        have hb6' : Below w.heap.size w wc := HNX.out.trans (Below.mono hb6 HNX.out.size)
        have HO6 := Lib.hid (owns_kept HO.out hb6 (Nat.le_refl _))
        have HEN2 := Lib.hid (map_ends b6R hb6' (Nat.le_refl _))
        obtain ⟨z0, z1, z2⟩ := row_cells b6R
        obtain ⟨y0, y1, y2⟩ := row_cells b6M
        have q0 : wc.frozen? ⟨w.heap.size, 0, none⟩ = false := frozen_of_row _ _ _ _ _ b6R
        have q1 : wc.frozen? ⟨w.heap.size, 1, none⟩ = false := frozen_of_row _ _ _ _ _ b6R
        have q2 : wc.frozen? ⟨w.heap.size, 2, none⟩ = false := frozen_of_row _ _ _ _ _ b6R
        rw [hqr]
        clear b6R b6M hb6 hb6' m0 m1 m2 hqr HRR hB hB'
        by_cases h0 : r = 0
        · subst h0
          go_wp2
          refine bodyPost_ret (v := .tuple #[.agg #[.int .i64 W, .int .i64 H, .slice av k cv], .int .i64 0]) (results_row_tmp Tryz.results76 _ _ w.heap.size 121 _ (0, 0) _ rfl (HEN2.out _ _ _).1 Tryz.underlying121 rfl (by kernel_rfl)) rfl ⟨W, H, av, k, cv, rfl, ?_, (HEN2.out _ _ _).2⟩
          obtain ⟨s1, s2, s3⟩ := HSM.out (by simp) (by have := HE4.out; omega)
          have hk1 : 1 ≤ k := by
            obtain ⟨w1', w2', h1', h2', hA', _⟩ := mapErr_zero HXL.out s1
            have := Int.mul_le_mul w1' h1' (by omega) (by omega)
            omega
          have hoF := ownsRow_setCell_below (ownsRow_setCell_below (ownsRow_setCell_below HO6.out (a := ⟨w.heap.size, 0, none⟩) (show w.heap.size < C + 1 by omega) (.int .i64 W)) (a := ⟨w.heap.size, 1, none⟩) (show w.heap.size < C + 1 by omega) (.int .i64 H)) (a := ⟨w.heap.size, 2, none⟩) (show w.heap.size < C + 1 by omega) (.slice av k cv)
          obtain ⟨g, c', e, hg, _⟩ := owns_some hoF hk1
          cases e
          refine ResV.some (by unfold unL; rw [List.length_map]; exact HXL.out) (by omega) s3 hg (fun j hj => ?_)
          rw [← s2 j hj]
          exact owns_cell hoF (by rw [List.getElem?_map, List.getElem?_eq_getElem (by have := HXL.out; omega)]; rfl)
        · have e2 : (r != 0) = true := by simp [h0]
          have H0 := Lib.hid h0
          clear h0
          go_wp2
          exact bodyPost_ret (v := .tuple #[.agg #[.int .i64 0, .int .i64 0, .slice none 0 0], .int .i64 r]) (results_row_tmp Tryz.results76 _ _ w.heap.size 121 _ (0, 0) _ rfl (HEN2.out _ _ _).1 Tryz.underlying121 rfl (by kernel_rfl)) rfl (UnRes.bad H0.out (HEN2.out _ _ _).2)

theorem unpack_all (S : List Int) (a : Option Addr) (n cp : Nat) (hn : n ≤ 2000) (hcp : n ≤ cp) (hcq : cp ≤ 9223372036854775807) (w : World) (hA : AnyBytes w a n S) :
    Calls Tryz.prog 76 #[.slice a n cp] w (UnRes w (unErr S) (unW S) (unH S) (unL S)) := by
  have hS := hA.1
  have hl := hS.1
  by_cases h0 : unErr0 S = 0
  · have h4 : ¬ n < 4 := fun h => by unfold unErr0 at h0; rw [if_pos (by omega)] at h0; exact absurd h0 (by decide)
    obtain ⟨b, q, rfl, hb, hr⟩ := hA.2 0 (by omega)
    have hm : S.take 4 = magicL := Classical.byContradiction fun h => by unfold unErr0 at h0; rw [if_neg (by omega), if_pos h] at h0; exact absurd h0 (by decide)
    have h6 : ¬ n < 6 := fun h => by unfold unErr0 at h0; rw [if_neg (by omega), if_neg (by simp [hm]), if_pos (by omega)] at h0; exact absurd h0 (by decide)
    have bd : ∀ j, j < n → 0 ≤ S[j]?.getD 0 ∧ S[j]?.getD 0 ≤ 255 := fun j hj => by
      rw [List.getElem?_eq_getElem (by omega)]; exact hS.2 _ (List.getElem_mem _)
    obtain ⟨W, hW⟩ := Int.eq_ofNat_of_zero_le (bd 4 (by omega)).1
    obtain ⟨H, hH⟩ := Int.eq_ofNat_of_zero_le (bd 5 (by omega)).1
    have ew : unW S = (W : Int) := hW
    have eh : unH S = (H : Int) := hH
    rw [ew, eh]
    exact unpack_body S b q n cp W H _ rfl h0 hS hW hH (by omega) hn hcp hcq w hb hr hm
  · have e : unErr S = unErr0 S := by unfold unErr; rw [if_neg h0]
    rw [e]
    exact unpack_bad a n cp _ _ _ _ h0 w fun w1 h1 => checkStream_all S a n cp hn hcp hcq w1 (hA.kept h1)

end Go.Proofs.YtpmjiifdnnhecaaGreatDoor
