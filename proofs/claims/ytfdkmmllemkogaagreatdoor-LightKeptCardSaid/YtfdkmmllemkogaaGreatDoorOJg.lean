/-
  Contract of the reference's Unpack for any bytes, in parts: the loop over the samples.
-/
import Derived.Test.YtfdkmmllemkogaaGreatDoorOJa
import Derived.Deep.QuietTactic
import Derived.BigQuiet
import Derived.Deep.AppendLies
import Derived.Deep.RegionHeldLaw
import Derived.Deep.RegionLaw
namespace Go.Proofs.YtfdkmmllemkogaaGreatDoor
open Go.RowKit
set_option linter.unusedVariables false
set_option linter.unusedSimpArgs false

def mzB (xs : List Nat) : Bool := xs.any (· == 2147483648)
theorem cast_big (x : Nat) : ((x : Int) == 2147483648) = (x == 2147483648) := by
  rw [Bool.eq_iff_iff]; simp; omega
theorem mzB_snoc (xs : List Nat) (x : Nat) : mzB (xs ++ [x]) = (mzB xs || (x == 2147483648)) := by simp [mzB]
theorem mzB_err (xs : List Nat) : firstNZ (xs.map zeroErr) = if mzB xs then 1 else 0 := by
  induction xs with
  | nil => rfl
  | cons x xs ih =>
    simp only [List.map_cons, firstNZ]
    by_cases h : x = 2147483648
    · simp [zeroErr, mzB, h]
    · have hz : zeroErr x = 0 := by simp [zeroErr, h]
      rw [hz]
      simp only [ne_eq, not_true_eq_false, if_false, ih]
      have : mzB (x :: xs) = mzB xs := by simp [mzB, h]
      rw [this]

/-- The error of a stream whose head is right. -/
theorem unErr_body {S : List Int} {n W H : Nat} (hl : S.length = n) (eW : S[4]?.getD 0 = (W : Int)) (eH : S[5]?.getD 0 = (H : Int)) (h6 : 6 ≤ n) (hne : S.take 4 = magicL) :
    unErr S = if n < 6 + 4 * (W * H) + 4 then 28 else if 6 + 4 * (W * H) + 4 < n then 2 else if numOf (S.drop (6 + 4 * (W * H))) ≠ chkOf (S.take (6 + 4 * (W * H))) then 27
      else if mapErr W H (W * H) (unXs S) = 0 then (if mzB (unXs S) then 1 else 0) else mapErr W H (W * H) (unXs S) := by
  have eN : unN S = W * H := by unfold unN unW unH byteAt; rw [eW, eH]; rfl
  have eE : unEnd S = 6 + 4 * (W * H) := by unfold unEnd; rw [eN]
  have e0 : unErr0 S = if n < 6 + 4 * (W * H) + 4 then 28 else if 6 + 4 * (W * H) + 4 < n then 2 else if numOf (S.drop (6 + 4 * (W * H))) ≠ chkOf (S.take (6 + 4 * (W * H))) then 27 else 0 := by
    unfold unErr0
    rw [if_neg (by omega), if_neg (by simp [hne]), if_neg (by omega), eE, hl]
  have ew : unW S = (W : Int) := eW
  have eh : unH S = (H : Int) := eH
  unfold unErr
  rw [e0, ew, eh, eN, mzB_err]
  by_cases h1 : n < 6 + 4 * (W * H) + 4
  · simp [h1]
  · by_cases h2 : 6 + 4 * (W * H) + 4 < n
    · simp [h1, h2]
    · by_cases h3 : numOf (S.drop (6 + 4 * (W * H))) = chkOf (S.take (6 + 4 * (W * H)))
      · simp [h1, h2, h3]
      · simp [h1, h2, h3]

theorem run_from32 (d : Nat) : ∀ w : World, (callFunc 180 #[.int .u32 d]).run Tryz.prog w = .ok (.value (.float .f32 d)) w := fun w => by
  have h : ∀ w : World, (callFunc 180 #[.int .u32 d]).run Tryz.prog w = .ok (.value (.float .f32 (d : Int).toNat)) w := fun w => by kernel_rfl
  rw [Int.toNat_natCast] at h
  exact h w

set_option maxRecDepth 100000 in
set_option maxHeartbeats 12800000 in
theorem refUnpack_body (S : List Int) (b q n cp W H : Nat) (r : Int) (hr : unErr S = r) (hS : BytesV S n) (eW : S[4]?.getD 0 = (W : Int)) (eH : S[5]?.getD 0 = (H : Int)) (h6 : 6 ≤ n) (hn : n ≤ 2000) (hcp : n ≤ cp) (hcq : cp ≤ 9223372036854775807) (w : World) (hb : b < w.heap.size) (hra : w.rangeAt b q (S.map (Value.int .u8))) (hne : S.take 4 = magicL) :
    Calls Tryz.prog 91 #[.slice (some ⟨b, q, none⟩) n cp] w (UnRes w r W H (unL S)) := by
  have hE0 := unErr_body hS.1 eW eH h6 hne
  rw [hr] at hE0
  have hsm := fun h1 h2 => un_smpOf hS (n := n) h1 h2
  have eN : unN S = W * H := by unfold unN unW unH byteAt; rw [eW, eH]; rfl
  have eE : unEnd S = 6 + 4 * (W * H) := by unfold unEnd; rw [eN]
  have ew : unW S = (W : Int) := eW
  have eh : unH S = (H : Int) := eH
  rw [hr, eN, eE, ew, eh] at hsm
  have hl := hS.1
  have bd : ∀ j, j < n → 0 ≤ S[j]?.getD 0 ∧ S[j]?.getD 0 ≤ 255 := fun j hj => by
    rw [List.getElem?_eq_getElem (by omega)]; exact hS.2 _ (List.getElem_mem _)
  have bW := (bd 4 (by omega)); rw [eW] at bW
  have bH := (bd 5 (by omega)); rw [eH] at bH
  obtain ⟨bW0, bW1⟩ := bW
  obtain ⟨bH0, bH1⟩ := bH
  have hW : W ≤ 255 := by omega
  have hH : H ≤ 255 := by omega
  have hm : W * H ≤ 255 * 255 := Nat.mul_le_mul hW hH
  have wW : IntKind.i64.wrap (W : Int) = (W : Int) := IntWalk.i64_in _ ⟨by omega, by omega⟩
  have wH : IntKind.i64.wrap (H : Int) = (H : Int) := IntWalk.i64_in _ ⟨by omega, by omega⟩
  have w4 : IntKind.i64.wrap (4 * (W : Int)) = 4 * (W : Int) := IntWalk.i64_in _ ⟨by omega, by omega⟩
  obtain ⟨N, hN⟩ : ∃ N, W * H = N := ⟨_, rfl⟩
  have e1 : 4 * (W : Int) * (H : Int) = ((4 * N : Nat) : Int) := by rw [← hN]; push_cast; rw [Int.mul_assoc]
  rw [hN] at hE0 hsm eN hm
  obtain ⟨Q, hQ⟩ : ∃ Q, 4 * N = Q := ⟨_, rfl⟩
  rw [hQ] at e1
  obtain ⟨E, hE⟩ : ∃ E, 6 + 4 * N = E := ⟨_, rfl⟩
  rw [hE] at hE0 hsm
  have w5 : IntKind.i64.wrap (4 * (W : Int) * (H : Int)) = (Q : Int) := by rw [e1]; exact IntWalk.i64_in _ ⟨by omega, by omega⟩
  have w6 : IntKind.i64.wrap (6 + (Q : Int)) = (E : Int) := by
    rw [show (6 : Int) + (Q : Int) = (E : Int) by omega]; exact IntWalk.i64_in _ ⟨by omega, by omega⟩
  have w7 : IntKind.i64.wrap ((E : Int) + 4) = (E : Int) + 4 := IntWalk.i64_in _ ⟨by omega, by omega⟩
  have i1 : ¬ ((400000 : Int) < (n : Int)) := by omega
  have i2 : ¬ ((n : Int) < 4) := by omega
  have i3 : (4 : Int) ≤ (n : Int) := by omega
  have i4 : (4 : Int) ≤ (cp : Int) := by omega
  have i5 : (cp : Int) ≤ 9223372036854775807 := by omega
  have i6 : 4 ≤ cp := by omega
  have i7 : (4 : Int) < (n : Int) := by omega
  have i8 : (5 : Int) < (n : Int) := by omega
  have i9 : ¬ ((n : Int) < 6) := by omega
  have i10 : (n : Int) ≤ 2000 := by omega
  obtain ⟨W0, hW0⟩ : ∃ W0, w.alloc (.cells #[.int .i64 0, .int .i64 0, .slice none 0 0] 48) = W0 := ⟨_, rfl⟩
  have hB0 : Below w.heap.size w W0 := by rw [← hW0]; exact (Below.refl _ w).alloc (Nat.le_refl _) _
  have hS0 : W0.heap.size = w.heap.size + 1 := by rw [← hW0]; simp
  have r0 := zm_facts w
  rw [hW0] at r0
  have hr0 := range_below hra hB0 hb
  have hl4 : (S.take 4).length = 4 := by rw [List.length_take, hS.1]; omega
  have kc := run_convert_bytes_arg (P := Tryz.prog) W0 109 5 Tryz.underlying109 Tryz.underlying5 b q 4 cp (S.take 4) hl4 (fun i hi => range_cells (range_take 4 hr0) i (by rw [hl4]; exact hi)) 9 Tryz.underlying9
  have em := magic_str hS.2
  rw [decide_eq_true hne] at em
  obtain ⟨s, hs⟩ : ∃ s, strOfNums (S.take 4) = s := ⟨_, rfl⟩
  rw [hs] at kc em
  have c4 : W0.cell? ⟨b, q + 4, none⟩ = some (.int .u8 (W : Int)) := by
    have := range_cells hr0 4 (by omega)
    rwa [List.getD_eq_getElem?_getD, eW] at this
  have c5 : W0.cell? ⟨b, q + 5, none⟩ = some (.int .u8 (H : Int)) := by
    have := range_cells hr0 5 (by omega)
    rwa [List.getD_eq_getElem?_getD, eH] at this
  have KN : Hid (E + 4 = n → ∀ w1 : World, Below w.heap.size w w1 → ∀ c', Calls Tryz.prog 170 #[.slice (some ⟨b, q + E, none⟩) (n - E) c'] w1 fun e w' => e = .returned (.int .i64 (numOf (S.drop E))) ∧ w' = w1) := Lib.hid fun h4 w1 h c' => by
    refine (refNumber_any b (q + E) (n - E) c' (S.drop E) w1 (by rw [List.length_drop, hl]) (by omega) (fun j hj => ?_) (fun j hj => ?_)).mono fun e w' ⟨k1, k2⟩ => ⟨k1, k2.symm⟩
    · rw [List.getElem?_drop]; exact bd _ (by omega)
    · have := range_cells (range_drop E (range_below hra h hb)) j (by rw [List.length_drop, hl]; omega)
      rwa [List.getD_eq_getElem?_getD] at this
  have KC : Hid (E + 4 = n → ∀ w1 : World, Below w.heap.size w w1 → ∀ c', Calls Tryz.prog 169 #[.slice (some ⟨b, q, none⟩) E c'] w1 fun e w' => e = .returned (.int .i64 (chkOf (S.take E))) ∧ w' = w1) := Lib.hid fun h4 w1 h c' => by
    refine (refChecksum_any b q E c' (S.take E) w1 (by rw [List.length_take, hl]; omega) (by omega) (fun j hj => ?_) (fun j hj => ?_)).mono fun e w' ⟨k1, k2⟩ => ⟨k1, k2.symm⟩
    · rw [List.getElem?_take_of_lt hj]; exact bd _ (by omega)
    · have := range_cells (range_take E (range_below hra h hb)) j (by rw [List.length_take, hl]; omega)
      rwa [List.getD_eq_getElem?_getD] at this
  obtain ⟨x, hx⟩ : ∃ x, numOf (S.drop E) = x := ⟨_, rfl⟩
  obtain ⟨y, hy⟩ : ∃ y, chkOf (S.take E) = y := ⟨_, rfl⟩
  rw [hx] at KN hE0
  rw [hy] at KC hE0
  clear hx hy
  have HE0 := Lib.hid hE0
  have HSM := Lib.hid hsm
  have HB0 := Lib.hid hB0
  have HR0 := Lib.hid r0
  have HS := Lib.hid hS
  have HRA := Lib.hid hra
  have HQE : Hid (6 + 4 * N = E) := Lib.hid hE
  have HEN := Lib.hid eN
  have BD := Lib.hid bd
  clear hE0 hsm hB0 r0 hS hra hE hQ hN e1 eN eE ew eh hr0 hl4 hs hne eW eH hm hl bd hr
  go_enter Tryz.func91, Tryz.ntmps91
  go_upto_region 9 with fail
  try rw [hW0]
  clear hW0
  go_region_held3 (fun w' => w'.cell? ⟨b, q + 4, none⟩ = some (.int .u8 (W : Int)) ∧ w'.cell? ⟨b, q + 5, none⟩ = some (.int .u8 (H : Int))) (go_keep) (fail)
  generalize hW1 : World.drew _ = W1
  have hB1 : Below w.heap.size w W1 := by rw [← hW1]; exact (HB0.out.alloc (by omega) _).drew
  have bR : W1.heap[w.heap.size]? = some (.cells #[.int .i64 0, .int .i64 0, .slice none 0 0] 48 (0, 0)) := by rw [← hW1]; exact blk_alloc_other HR0.out _
  have bM : W1.heap[w.heap.size + 1]? = some (.cells #[.int .i64 W, .int .i64 H, .slice none 0 0] 48 (0, 0)) := by
    rw [← hW1, ← hS0]; exact blk_alloc_new _ _
  have hZ1 : w.heap.size + 2 ≤ W1.heap.size := by rw [← hW1]; simp [hS0]
  clear hW1 c4 c5 em kc
  obtain ⟨m0, m1, m2⟩ := row_cells bM
  obtain ⟨z0, z1, z2⟩ := row_cells bR
  have q0 : W1.frozen? ⟨w.heap.size, 0, none⟩ = false := frozen_of_row _ _ _ _ _ bR
  have q1 : W1.frozen? ⟨w.heap.size, 1, none⟩ = false := frozen_of_row _ _ _ _ _ bR
  have q2 : W1.frozen? ⟨w.heap.size, 2, none⟩ = false := frozen_of_row _ _ _ _ _ bR
  have HB1 := Lib.hid hB1
  have HBM := Lib.hid bM
  have HBR := Lib.hid bR
  clear hB1 bM bR hS0 HB0 HR0
  rcases Nat.lt_trichotomy n (E + 4) with hlt | heq | hgt
  · obtain rfl : r = 28 := by have h := HE0.out; rw [if_pos hlt] at h; exact h
    have t1 : (n : Int) < (E : Int) + 4 := by omega
    have HEN2 := Lib.hid (map_ends HBR.out HB1.out (Nat.le_refl _))
    go_wp2
    exact bodyPost_ret (v := .tuple #[.agg #[.int .i64 0, .int .i64 0, .slice none 0 0], .int .i64 28]) (results_row_tmp Tryz.results91 _ _ w.heap.size 48 _ (0, 0) _ rfl (HEN2.out _ _ _).1 Tryz.underlying48 rfl (by kernel_rfl)) rfl (UnRes.bad (by decide) (HEN2.out _ _ _).2)
  · have hEn : E + 4 = n := heq.symm
    have t1 : ¬ ((n : Int) < (E : Int) + 4) := by omega
    have t2 : ¬ ((E : Int) + 4 < (n : Int)) := by omega
    have j1 : (E : Int) ≤ (n : Int) := by omega
    have j2 : (E : Int) ≤ (cp : Int) := by omega
    have j3 : (n : Int) ≤ (cp : Int) := by omega
    have j4 : E ≤ n := by omega
    have j5 : E ≤ cp := by omega
    have j6 : E < cp := by omega
    have j7 : (E : Int) < (cp : Int) := by omega
    have j8 : (E : Int) < (n : Int) := by omega
    have j9 : (0 : Int) ≤ (E : Int) := by omega
    have j10 : ¬ (cp = E) := by omega
    have KQN := Lib.hid (KN.out hEn)
    have KQC := Lib.hid (KC.out hEn)
    have HB4 : Hid (∀ m, Below w.heap.size w (W1.drewN m)) := Lib.hid fun m => below_drewN HB1.out m
    have HE4 := Lib.hid hEn
    have hE1 : (if y ≠ x then 27 else 0) = (if y ≠ x then (27 : Int) else 0) := rfl
    have hEE := HE0.out
    rw [if_neg (by omega), if_neg (by omega)] at hEE
    have HEE := Lib.hid hEE
    clear hEn heq KN KC hE1 hEE HE0
    go_upto_region 15 with fail
    go_quiet (first | (go_at_call 170; with_reducible exact Calls.quiet_of_same (KQN.out _ (HB4.out _) _)) | (go_at_call 169; with_reducible exact Calls.quiet_of_same (KQC.out _ (HB4.out _) _)))
    generalize hW2 : World.drewN W1 _ = W2
    have HB2 : Hid (Below w.heap.size w W2) := Lib.hid (by rw [← hW2]; exact HB4.out _)
    have hz2 : w.heap.size + 2 ≤ W2.heap.size := by rw [← hW2]; exact hZ1
    have bM2 : W2.heap[w.heap.size + 1]? = some (.cells #[.int .i64 W, .int .i64 H, .slice none 0 0] 48 (0, 0)) := by rw [← hW2]; exact HBM.out
    have bR2 : W2.heap[w.heap.size]? = some (.cells #[.int .i64 0, .int .i64 0, .slice none 0 0] 48 (0, 0)) := by rw [← hW2]; exact HBR.out
    clear hW2 m0 m1 m2 z0 z1 z2 q0 q1 q2 HB1 HBM HBR hZ1 HB4
    have HBM := Lib.hid bM2
    by_cases hxy : x = y
    · have e1 : (y != x) = false := by simp [hxy]
      have HBR := Lib.hid bR2
      have hEE := HEE.out
      rw [if_neg (by simp [hxy])] at hEE
      have HEE2 := Lib.hid hEE
      clear hxy bM2 bR2 HEE hEE
      go_wp2_with fail
      have KQ : Hid (∀ k, k < N → ∀ w1 : World, Below w.heap.size w w1 → ∀ c', Calls Tryz.prog 170 #[.slice (some ⟨b, q + (6 + 4 * k), none⟩) 4 c'] w1 fun e w' => e = .returned (.int .i64 (wordAt S k)) ∧ w1 = w') := Lib.hid fun k hk w1 h c' => by
        have hlq : 6 + 4 * k + 4 ≤ n := by have := HQE.out; have := HE4.out; omega
        obtain ⟨g1, g2⟩ := quad_bytes HS.out k hlq
        rw [← (word_bd HS.out k hlq).2]
        refine refNumber_any b (q + (6 + 4 * k)) 4 c' (quad S k) w1 g1 (by omega) g2 (fun j hj => ?_)
        have := range_cells (range_take 4 (range_drop (6 + 4 * k) (range_below HRA.out h hb))) j (by have := g1; unfold quad at this; omega)
        rwa [List.getD_eq_getElem?_getD] at this
      have HWB : Hid (∀ k, k < N → wordAt S k < 2 ^ 32) := Lib.hid fun k hk => (word_bd HS.out k (by have := HQE.out; have := HE4.out; omega)).1
      have hNb : N ≤ 500 := by have := HQE.out; have := HE4.out; omega
      obtain ⟨i0, hi, hz0, hz1, hzb⟩ := info_parts Tryz.infoF32
      go_loopw [6, 7, 8] (fun mv iv _ wr => ∃ (k : Nat) (v : Value), k ≤ N ∧ mv = .bool (mzB ((unXs S).take k)) ∧ iv = .int .i64 ((6 + 4 * k : Nat) : Int) ∧ wr.heap[w.heap.size + 1]? = some (.cells #[.int .i64 W, .int .i64 H, v] 48 (0, 0)) ∧ wr.heap[w.heap.size]? = some (.cells #[.int .i64 0, .int .i64 0, .slice none 0 0] 48 (0, 0)) ∧
          wr.ownsRow (w.heap.size + 2) 23 1 v k (((unXs S).take k).map (fun x => Value.float .f32 x)) ∧ Below w.heap.size w wr ∧ w.heap.size + 2 ≤ wr.heap.size) (fun _ iv _ _ => E - (intOf iv).toNat)
      case atStart => exact ⟨0, _, Nat.zero_le _, rfl, rfl, HBM.out, HBR.out, World.ownsRow_nil _ _ _ _, HB2.out, hz2⟩
      case round =>
        obtain ⟨k, v, hk, rfl, rfl, bM, bR, hown, hnx, hsz⟩ := hrel
        obtain ⟨av, cv, rfl⟩ := owns_slice hown
        obtain ⟨p, hp⟩ : ∃ p : Nat, 6 + 4 * k = p := ⟨_, rfl⟩
        by_cases hlt : k < N
        · have g1 : (p : Int) < (E : Int) := by have := HQE.out; omega
          have g2 : (p : Int) + 4 ≤ (n : Int) := by have := HQE.out; have := HE4.out; omega
          have g3 : (p : Int) + 4 ≤ (cp : Int) := by omega
          have g4 : (0 : Int) ≤ (p : Int) := by omega
          have g5 : IntKind.i64.wrap ((p : Int) + 4) = (p : Int) + 4 := IntWalk.i64_in _ ⟨by omega, by omega⟩
          have g6 : p < cp := by omega
          have g7 : p + 4 ≤ cp := by omega
          have g8 : p + 4 ≤ n := by omega
          have g9 : (p : Int) < (cp : Int) := by omega
          have g10 : ((p : Int) + 4).toNat = p + 4 := by omega
          have g11 : ¬ (cp = p) := by omega
          have g12 : (p : Int) ≤ (n : Int) := by omega
          have KQk := Lib.hid (KQ.out k hlt _ hnx)
          rw [hp] at KQk ⊢
          have hwb := HWB.out k hlt
          have hsu := unXs_take S k (by rw [HEN.out]; exact hlt)
          have hms := mzB_snoc ((unXs S).take k) (wordAt S k)
          rw [← hsu] at hms
          obtain ⟨x, hx⟩ : ∃ x, wordAt S k = x := ⟨_, rfl⟩
          rw [hx] at KQk hwb hsu hms
          have hux : IntKind.u32.wrap (x : Int) = (x : Int) := IntWalk.u32_in _ ⟨by omega, by omega⟩
          obtain ⟨mv, hmv⟩ : ∃ mv, mzB ((unXs S).take k) = mv := ⟨_, rfl⟩
          rw [hmv] at hms ⊢
          have HMS := Lib.hid hms
          have HSU := Lib.hid hsu
          have hf32 := run_from32 x
          have c2 : wr.cell? ⟨w.heap.size + 1, 2, none⟩ = some (.slice av k cv) := by rw [cell_of_row wr _ 2 _ _ (0, 0) bM]; rfl
          have hy1 : ¬ (w.heap.size + 1 = wr.heap.size) := by omega
          have hy2 : ¬ (wr.heap.size = w.heap.size + 1) := by omega
          have ca1 : ∀ o, (wr.alloc o).cell? ⟨w.heap.size + 1, 2, none⟩ = some (.slice av k cv) := fun o => (((Below.refl _ wr).alloc (Nat.le_refl _) _).cell (p := ⟨w.heap.size + 1, 2, none⟩) (by show w.heap.size + 1 < _; omega)).trans c2
          have hvb : (Value.slice av k cv).ownBlock ≠ some (w.heap.size + 1) := fun e => by have := (hown.lt _ e).1; omega
          have hvb3 : (Value.slice av k cv).ownBlock ≠ some w.heap.size := fun e => by have := (hown.lt _ e).1; omega
          have hlw := hown.lt
          have HLW := Lib.hid hlw
          have HBM' := Lib.hid bM
          have HBR' := Lib.hid bR
          have HNX := Lib.hid hnx
          have HP := Lib.hid hp
          clear bM bR hms hsu hmv hx hnx hp hlw
          cases mv
          all_goals
            go_upto_region 23 with (go_at_call 170; with_reducible refine (KQk.out _).mono ?_; rintro e w' ⟨rfl, rfl⟩)
            go_region_law
              (refine step_append_lies _ (by rfl) (.tmp 82) (.tmp 86) 46 (by rfl) (w.heap.size + 2) 23 i0 (.float .f32 0) 1 4 Tryz.underlying46 hi hz0 hz1 hzb (by rfl) (by omega) (.slice av k cv) k _ (by rfl) (hown.alloc _) ⟨wr.heap.size, 0, none⟩ 1 1 [.float .f32 x] (by rfl) (by rfl) (cell_one_new _ _ _) (by intro u hu; simp at hu; subst hu; rfl) (by omega) (by unfold maxLen; omega) (by omega) (by simp; omega) (wr.heap.size + 1) (by simp) ?_; intro g cap w1 hown1 hgrow hat hglt
               have bM1 : w1.heap[w.heap.size + 1]? = some (.cells #[.int .i64 W, .int .i64 H, .slice av k cv] 48 (0, 0)) := (hgrow.block (w.heap.size + 1) (by simp; omega) (Ne.symm hvb)).trans ((((Below.refl _ wr).alloc (Nat.le_refl _) _).block (w.heap.size + 1) (by omega)).trans HBM'.out)
               have bR1 : w1.heap[w.heap.size]? = some (.cells #[.int .i64 0, .int .i64 0, .slice none 0 0] 48 (0, 0)) := (hgrow.block w.heap.size (by simp; omega) (Ne.symm hvb3)).trans ((((Below.refl _ wr).alloc (Nat.le_refl _) _).block w.heap.size (by omega)).trans HBR'.out)
               have c2w : w1.cell? ⟨w.heap.size + 1, 2, none⟩ = some (.slice av k cv) := by rw [cell_of_row w1 _ 2 _ _ (0, 0) bM1]; rfl
               have q2w : w1.frozen? ⟨w.heap.size + 1, 2, none⟩ = false := frozen_of_row _ _ _ _ _ bM1
               have HM1 := Lib.hid bM1
               have HR1 := Lib.hid bR1
               have HG := Lib.hid hgrow
               have HO1 := Lib.hid hown1
               clear bM1 bR1)
            all_goals
              go_wp2_with fail
              have hS1 : wr.heap.size + 1 ≤ w1.heap.size := by have := HG.out.size; simpa using this
              have e1 : ((unXs S).take (k + 1)).map (fun x => Value.float .f32 x) = ((unXs S).take k).map (fun x => Value.float .f32 x) ++ [.float .f32 x] := by rw [HSU.out, List.map_append]; rfl
              have fB : Below w.heap.size w w1 := (HNX.out.alloc (by omega) _).drew.grown HG.out (by simp; omega) (fun j hj => by have := (HLW.out j hj).1; omega)
              have HE1 := Lib.hid e1
              have HFB := Lib.hid fB
              have HS1 := Lib.hid hS1
              clear e1 fB hS1
              go_roundw
              case rel => exact ⟨k + 1, _, by omega, by rw [HMS.out]; first | rfl | (rw [cast_big]; rfl), by rw [← HP.out]; first | (congr 1; done) | (congr 1; omega) | (simp; omega), blk_last HM1.out _, (setCell_other (by omega)).trans HR1.out, by rw [HE1.out]; exact ownsRow_setCell_below HO1.out (by dsimp only; omega) _, HFB.out.setCell (p := ⟨w.heap.size + 1, 2, none⟩) (by show w.heap.size ≤ w.heap.size + 1; omega) _, by have := HS1.out; simp; omega⟩
              case measure => simp [intOf]; omega
        · obtain rfl : k = N := by omega
          have hxl : (unXs S).length = k := by rw [unXs_len]; exact HEN.out
          rw [List.take_of_length_le (Nat.le_of_eq hxl)] at hown ⊢
          have g1 : ¬ ((p : Int) < (E : Int)) := by have := HQE.out; omega
          rw [hp]
          have hcs : ∀ j, j < k → ∃ b o, av = some ⟨b, o, none⟩ ∧ b < wr.heap.size ∧ ∀ j, j < k → wr.cell? ⟨b, o + j, none⟩ = some (.float .f32 ((unXs S)[j]?.getD 0)) := fun j hj => by
            obtain ⟨g, c', e, hg, _⟩ := owns_some hown (by omega)
            cases e
            refine ⟨g, 0, rfl, hg, fun i hi2 => ?_⟩
            rw [Nat.zero_add]
            exact owns_cell hown (by rw [List.getElem?_map, List.getElem?_eq_getElem (by omega)]; rfl)
          have KM := Lib.hid (refCheckMap_all W H av k cv (unXs S) hxl wr hcs)
          obtain ⟨m0, m1, m2⟩ := row_cells bM
          obtain ⟨er, her⟩ : ∃ er, mapErr W H k (unXs S) = er := ⟨_, rfl⟩
          obtain ⟨mv, hmv⟩ : ∃ mv, mzB (unXs S) = mv := ⟨_, rfl⟩
          have HEE3 := HEE2.out
          rw [her] at KM HEE3
          rw [hmv] at HEE3 ⊢
          have HER := Lib.hid her
          have HH := Lib.hid HEE3
          have HBM' := Lib.hid bM
          have HBR' := Lib.hid bR
          have HNX := Lib.hid hnx
          have HO := Lib.hid hown
          have HXL := Lib.hid hxl
          clear bM bR hnx hp hown hxl hcs her hmv HEE3 HEE2
          by_cases h0 : er = 0
          · have e2 : (er != 0) = false := by simp [h0]
            have H0 := Lib.hid h0
            have hrr := HH.out
            rw [if_pos h0] at hrr
            clear h0 HH
            cases mv
            · obtain rfl : r = 0 := hrr
              go_upto_region 25 with (go_at_call 41; with_reducible refine KM.out.mono ?_; rintro e w5 ⟨rfl, hb5⟩)
              have b5R := (hb5.block _ (lt_of_blk HBR'.out)).trans HBR'.out
              have b5M := (hb5.block _ (lt_of_blk HBM'.out)).trans HBM'.out
              have hb5' := HNX.out.trans (hb5.mono HNX.out.size)
              have HO5 := Lib.hid (owns_kept HO.out hb5 (Nat.le_refl _))
              have HEN2 := Lib.hid (map_ends b5R hb5' (Nat.le_refl _))
              obtain ⟨z0, z1, z2⟩ := row_cells b5R
              obtain ⟨y0, y1, y2⟩ := row_cells b5M
              have q0 : w5.frozen? ⟨w.heap.size, 0, none⟩ = false := frozen_of_row _ _ _ _ _ b5R
              have q1 : w5.frozen? ⟨w.heap.size, 1, none⟩ = false := frozen_of_row _ _ _ _ _ b5R
              have q2 : w5.frozen? ⟨w.heap.size, 2, none⟩ = false := frozen_of_row _ _ _ _ _ b5R
              clear b5R b5M hb5 hb5' m0 m1 m2
              go_wp2
              refine bodyPost_ret (v := .tuple #[.agg #[.int .i64 W, .int .i64 H, .slice av k cv], .int .i64 0]) (results_row_tmp Tryz.results91 _ _ w.heap.size 48 _ (0, 0) _ rfl (HEN2.out _ _ _).1 Tryz.underlying48 rfl (by kernel_rfl)) rfl ⟨W, H, av, k, cv, rfl, ?_, (HEN2.out _ _ _).2⟩
              obtain ⟨s1, s2, s3⟩ := HSM.out (by simp) (by have := HE4.out; omega)
              have hk1 : 1 ≤ k := by
                obtain ⟨w1', w2', h1', h2', hA', _⟩ := mapErr_zero HXL.out s1
                have := Int.mul_le_mul w1' h1' (by omega) (by omega)
                omega
              have hoF := ownsRow_setCell_below (ownsRow_setCell_below (ownsRow_setCell_below HO5.out (a := ⟨w.heap.size, 0, none⟩) (show w.heap.size < w.heap.size + 2 by omega) (.int .i64 W)) (a := ⟨w.heap.size, 1, none⟩) (show w.heap.size < w.heap.size + 2 by omega) (.int .i64 H)) (a := ⟨w.heap.size, 2, none⟩) (show w.heap.size < w.heap.size + 2 by omega) (.slice av k cv)
              obtain ⟨g, c', e, hg, _⟩ := owns_some hoF hk1
              cases e
              refine ResV.some (by unfold unL; rw [List.length_map]; exact HXL.out) (by omega) s3 hg (fun j hj => ?_)
              rw [← s2 j hj]
              exact owns_cell hoF (by rw [List.getElem?_map, List.getElem?_eq_getElem (by have := HXL.out; omega)]; rfl)
            · obtain rfl : r = 1 := hrr
              go_upto_region 25 with (go_at_call 41; with_reducible refine KM.out.mono ?_; rintro e w5 ⟨rfl, hb5⟩)
              have b5R := (hb5.block _ (lt_of_blk HBR'.out)).trans HBR'.out
              have hb5' := HNX.out.trans (hb5.mono HNX.out.size)
              have HEN2 := Lib.hid (map_ends b5R hb5' (Nat.le_refl _))
              obtain ⟨z0, z1, z2⟩ := row_cells b5R
              have q0 : w5.frozen? ⟨w.heap.size, 0, none⟩ = false := frozen_of_row _ _ _ _ _ b5R
              have q1 : w5.frozen? ⟨w.heap.size, 1, none⟩ = false := frozen_of_row _ _ _ _ _ b5R
              have q2 : w5.frozen? ⟨w.heap.size, 2, none⟩ = false := frozen_of_row _ _ _ _ _ b5R
              clear b5R hb5 hb5' m0 m1 m2
              go_wp2
              exact bodyPost_ret (v := .tuple #[.agg #[.int .i64 0, .int .i64 0, .slice none 0 0], .int .i64 1]) (results_row_tmp Tryz.results91 _ _ w.heap.size 48 _ (0, 0) _ rfl (HEN2.out _ _ _).1 Tryz.underlying48 rfl (by kernel_rfl)) rfl (UnRes.bad (by decide) (HEN2.out _ _ _).2)
          · have e2 : (er != 0) = true := by simp [h0]
            obtain rfl : r = er := by have h := HH.out; rw [if_neg h0] at h; exact h
            go_upto_region 25 with (go_at_call 41; with_reducible refine KM.out.mono ?_; rintro e w5 ⟨rfl, hb5⟩)
            have b5R := (hb5.block _ (lt_of_blk HBR'.out)).trans HBR'.out
            have hb5' := HNX.out.trans (hb5.mono HNX.out.size)
            have HEN2 := Lib.hid (map_ends b5R hb5' (Nat.le_refl _))
            obtain ⟨z0, z1, z2⟩ := row_cells b5R
            have q0 : w5.frozen? ⟨w.heap.size, 0, none⟩ = false := frozen_of_row _ _ _ _ _ b5R
            have q1 : w5.frozen? ⟨w.heap.size, 1, none⟩ = false := frozen_of_row _ _ _ _ _ b5R
            have q2 : w5.frozen? ⟨w.heap.size, 2, none⟩ = false := frozen_of_row _ _ _ _ _ b5R
            have H0 := Lib.hid h0
            clear b5R hb5 hb5' m0 m1 m2 h0
            go_wp2
            exact bodyPost_ret (v := .tuple #[.agg #[.int .i64 0, .int .i64 0, .slice none 0 0], .int .i64 r]) (results_row_tmp Tryz.results91 _ _ w.heap.size 48 _ (0, 0) _ rfl (HEN2.out _ _ _).1 Tryz.underlying48 rfl (by kernel_rfl)) rfl (UnRes.bad H0.out (HEN2.out _ _ _).2)
    · have e1 : (y != x) = true := by simp; exact fun h => hxy h.symm
      have HEN2 := Lib.hid (map_ends bR2 HB2.out (Nat.le_refl _))
      obtain rfl : r = 27 := by have h := HEE.out; rw [if_pos hxy] at h; exact h
      obtain ⟨z0, z1, z2⟩ := row_cells bR2
      have q0 : W2.frozen? ⟨w.heap.size, 0, none⟩ = false := frozen_of_row _ _ _ _ _ bR2
      have q1 : W2.frozen? ⟨w.heap.size, 1, none⟩ = false := frozen_of_row _ _ _ _ _ bR2
      have q2 : W2.frozen? ⟨w.heap.size, 2, none⟩ = false := frozen_of_row _ _ _ _ _ bR2
      clear hxy bM2 bR2
      go_wp2
      exact bodyPost_ret (v := .tuple #[.agg #[.int .i64 0, .int .i64 0, .slice none 0 0], .int .i64 27]) (results_row_tmp Tryz.results91 _ _ w.heap.size 48 _ (0, 0) _ rfl (HEN2.out _ _ _).1 Tryz.underlying48 rfl (by kernel_rfl)) rfl (UnRes.bad (by decide) (HEN2.out _ _ _).2)
  · obtain rfl : r = 2 := by have h := HE0.out; rw [if_neg (by omega), if_pos hgt] at h; exact h
    have t1 : ¬ ((n : Int) < (E : Int) + 4) := by omega
    have t2 : (E : Int) + 4 < (n : Int) := by omega
    have HEN2 := Lib.hid (map_ends HBR.out HB1.out (Nat.le_refl _))
    go_wp2
    exact bodyPost_ret (v := .tuple #[.agg #[.int .i64 0, .int .i64 0, .slice none 0 0], .int .i64 2]) (results_row_tmp Tryz.results91 _ _ w.heap.size 48 _ (0, 0) _ rfl (HEN2.out _ _ _).1 Tryz.underlying48 rfl (by kernel_rfl)) rfl (UnRes.bad (by decide) (HEN2.out _ _ _).2)
end Go.Proofs.YtfdkmmllemkogaaGreatDoor
