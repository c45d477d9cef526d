/-
  Contract of checkStream for any bytes.
-/
import Derived.Deep.CutBlock
import Derived.Deep.QuietTactic
import Derived.BigQuiet
import Derived.Deep.DeepCutAuto
import Derived.Test.YtpmjiifdnnhecaaGreatDoorOaaBr
namespace Go.Proofs.YtpmjiifdnnhecaaGreatDoor
open Go.RowKit
set_option linter.unusedVariables false
set_option linter.unusedSimpArgs false

theorem magic_const (w : World) : (convert 143 143 (.slice (some ⟨w.heap.size, 0, none⟩) 4 4)).run Tryz.prog (w.alloc (.cells #[.int .u8 76, .int .u8 77, .int .u8 65, .int .u8 80] 5)) = .ok (.slice (some ⟨w.heap.size, 0, none⟩) 4 4) (w.alloc (.cells #[.int .u8 76, .int .u8 77, .int .u8 65, .int .u8 80] 5 (4, 5))) :=
  Lib.run_convert_bytes_const w 143 5 #[.int .u8 76, .int .u8 77, .int .u8 65, .int .u8 80] 4 4 Tryz.underlying143 Tryz.underlying5

set_option maxHeartbeats 3200000 in
theorem checkStream_form (S : List Int) (b q n cp : Nat) (hS : BytesV S n) (h4 : 4 ≤ n) (hn : n ≤ 2000) (hcp : n ≤ cp) (hcq : cp ≤ 9223372036854775807) (w : World) (hb : b < w.heap.size) (hr : w.rangeAt b q (S.map (Value.int .u8))) (hne : S.take 4 ≠ magicL) :
    Calls Tryz.prog 170 #[.slice (some ⟨b, q, none⟩) n cp] w fun e w' => e = .returned (.int .i64 1) ∧ Below w.heap.size w w' := by
  have i1 : ¬ ((400000 : Int) < (n : Int)) := by omega
  have i2 : ¬ ((n : Int) < 4) := by omega
  obtain ⟨W1, hW1⟩ : ∃ W1, w.alloc (.cells #[.int .u8 76, .int .u8 77, .int .u8 65, .int .u8 80] 5 (4, 5)) = W1 := ⟨_, rfl⟩
  have hB1 : Below w.heap.size w W1 := by rw [← hW1]; exact (Below.refl _ w).alloc (Nat.le_refl _) _
  have kc := magic_const w
  have hm := magic_row w
  rw [hW1] at kc hm
  have K := hasPrefix_any S b q n cp w.heap.size hS h4 (by omega) hcp hcq W1 (range_below hr hB1 hb) hm
  rw [decide_eq_false hne] at K
  have HK := Lib.hid K
  have HB := Lib.hid hB1
  clear K hB1 hW1 hr hm hS hne
  go_enter Tryz.func170, Tryz.ntmps170
  go_wp2_with (go_at_call 213; refine HK.out.mono ?_; rintro e w' ⟨rfl, rfl⟩)
  go_ret
  exact ⟨rfl, HB.out⟩

set_option maxHeartbeats 3200000 in
theorem checkStream_head (S : List Int) (b q n cp : Nat) (hS : BytesV S n) (h4 : 4 ≤ n) (hn : n < 6) (hcp : n ≤ cp) (hcq : cp ≤ 9223372036854775807) (w : World) (hb : b < w.heap.size) (hr : w.rangeAt b q (S.map (Value.int .u8))) (hne : S.take 4 = magicL) :
    Calls Tryz.prog 170 #[.slice (some ⟨b, q, none⟩) n cp] w fun e w' => e = .returned (.int .i64 28) ∧ Below w.heap.size w w' := by
  have i1 : ¬ ((400000 : Int) < (n : Int)) := by omega
  have i2 : ¬ ((n : Int) < 4) := by omega
  have i3 : (n : Int) < 6 := by omega
  obtain ⟨W1, hW1⟩ : ∃ W1, w.alloc (.cells #[.int .u8 76, .int .u8 77, .int .u8 65, .int .u8 80] 5 (4, 5)) = W1 := ⟨_, rfl⟩
  have hB1 : Below w.heap.size w W1 := by rw [← hW1]; exact (Below.refl _ w).alloc (Nat.le_refl _) _
  have kc := magic_const w
  have hm := magic_row w
  rw [hW1] at kc hm
  have K := hasPrefix_any S b q n cp w.heap.size hS h4 (by omega) hcp hcq W1 (range_below hr hB1 hb) hm
  rw [decide_eq_true hne] at K
  have HK := Lib.hid K
  have HB := Lib.hid hB1
  clear K hB1 hW1 hr hm hS hne
  go_enter Tryz.func170, Tryz.ntmps170
  go_upto_region 7 with (go_at_call 213; refine HK.out.mono ?_; rintro e w' ⟨rfl, rfl⟩)
  go_quiet (fail)
  go_wp2
  go_ret
  exact ⟨rfl, below_drewN HB.out _⟩

set_option maxRecDepth 100000 in
set_option maxHeartbeats 6400000 in
theorem checkStream_body (S : List Int) (b q n cp W H : Nat) (hS : BytesV S n) (eW : S[4]?.getD 0 = (W : Int)) (eH : S[5]?.getD 0 = (H : Int)) (h6 : 6 ≤ n) (hn : n ≤ 2000) (hcp : n ≤ cp) (hcq : cp ≤ 9223372036854775807) (w : World) (hb : b < w.heap.size) (hr : w.rangeAt b q (S.map (Value.int .u8))) (hne : S.take 4 = magicL) :
    Calls Tryz.prog 170 #[.slice (some ⟨b, q, none⟩) n cp] w fun e w' => e = .returned (.int .i64 (if n < 10 + 4 * (W * H) then 28 else if 10 + 4 * (W * H) < n then 2 else if numOf (S.drop (n - 4)) ≠ chkOf (S.take (n - 4)) then 27 else 0)) ∧ Below w.heap.size w w' := by
  have i1 : ¬ ((400000 : Int) < (n : Int)) := by omega
  have i2 : ¬ ((n : Int) < 4) := by omega
  have i3 : ¬ ((n : Int) < 6) := by omega
  have i4 : (4 : Int) < (n : Int) := by omega
  have i5 : (5 : Int) < (n : Int) := by omega
  have i6 : (n : Int) ≤ 2000 := by omega
  obtain ⟨W1, hW1⟩ : ∃ W1, w.alloc (.cells #[.int .u8 76, .int .u8 77, .int .u8 65, .int .u8 80] 5 (4, 5)) = W1 := ⟨_, rfl⟩
  have hB1 : Below w.heap.size w W1 := by rw [← hW1]; exact (Below.refl _ w).alloc (Nat.le_refl _) _
  have kc := magic_const w
  have hm := magic_row w
  rw [hW1] at kc hm
  have hr1 := range_below hr hB1 hb
  have K := hasPrefix_any S b q n cp w.heap.size hS (by omega) (by omega) hcp hcq W1 hr1 hm
  rw [decide_eq_true hne] at K
  have HK := Lib.hid K
  have HB := Lib.hid hB1
  have hl := hS.1
  have bd : ∀ j, j < n → 0 ≤ S[j]?.getD 0 ∧ S[j]?.getD 0 ≤ 255 := fun j hj => by
    rw [List.getElem?_eq_getElem (by omega)]; exact hS.2 _ (List.getElem_mem _)
  have c4 : W1.cell? ⟨b, q + 4, none⟩ = some (.int .u8 (W : Int)) := by
    have := range_cells hr1 4 (by omega)
    rwa [List.getD_eq_getElem?_getD, eW] at this
  have c5 : W1.cell? ⟨b, q + 5, none⟩ = some (.int .u8 (H : Int)) := by
    have := range_cells hr1 5 (by omega)
    rwa [List.getD_eq_getElem?_getD, eH] at this
  have bW := (bd 4 (by omega)); rw [eW] at bW
  have bH := (bd 5 (by omega)); rw [eH] at bH
  have hW : W ≤ 255 := by omega
  have hH : H ≤ 255 := by omega
  obtain ⟨bW0, bW1⟩ := bW
  obtain ⟨bH0, bH1⟩ := bH
  have wW : IntKind.i64.wrap (W : Int) = (W : Int) := IntWalk.i64_in _ ⟨by omega, by omega⟩
  have wH : IntKind.i64.wrap (H : Int) = (H : Int) := IntWalk.i64_in _ ⟨by omega, by omega⟩
  have KZ : Hid (∀ w1 : World, Calls Tryz.prog 165 #[.int .i64 W, .int .i64 H] w1 fun e w' => e = .returned (.int .i64 ((10 + 4 * (W * H) : Nat) : Int)) ∧ w1 = w') := Lib.hid (streamSize_wide W H hW hH)
  obtain ⟨E, hE⟩ : ∃ E : Nat, n = E + 4 := ⟨n - 4, by omega⟩
  have eE : n - 4 = E := by omega
  rw [eE]
  have eI : (n : Int) - 4 = (E : Int) := by omega
  have wI : IntKind.i64.wrap ((n : Int) - 4) = (E : Int) := by rw [eI]; exact IntWalk.i64_in _ ⟨by omega, by omega⟩
  have j1 : (E : Int) ≤ (n : Int) := by omega
  have j2 : (E : Int) ≤ (cp : Int) := by omega
  have j3 : (n : Int) ≤ (cp : Int) := by omega
  have j4 : E ≤ n := by omega
  have j5 : E ≤ cp := by omega
  have j6 : E < cp := by omega
  have j7 : (E : Int) < (cp : Int) := by omega
  have j8 : (E : Int) < (n : Int) := by omega
  have j9 : (0 : Int) ≤ (E : Int) := by omega
  have j10 : ¬ (cp = E) := by omega
  have KN : Hid (∀ w1 : World, Below w.heap.size w w1 → ∀ c', Calls Tryz.prog 171 #[.slice (some ⟨b, q + E, none⟩) (n - E) c'] w1 fun e w' => e = .returned (.int .i64 (numOf (S.drop E))) ∧ w1 = w') := Lib.hid fun w1 h c' => by
    refine readNumber_any b (q + E) (n - E) c' (S.drop E) w1 (by rw [List.length_drop, hl]) (by omega) (fun j hj => ?_) (fun j hj => ?_)
    · rw [List.getElem?_drop]; exact bd _ (by omega)
    · have := range_cells (range_drop E (range_below hr h hb)) j (by rw [List.length_drop, hl]; omega)
      rwa [List.getD_eq_getElem?_getD] at this
  have KC : Hid (∀ w1 : World, Below w.heap.size w w1 → ∀ c', Calls Tryz.prog 169 #[.slice (some ⟨b, q, none⟩) E c'] w1 fun e w' => e = .returned (.int .i64 (chkOf (S.take E))) ∧ w1 = w') := Lib.hid fun w1 h c' => by
    refine checksum_any b q E c' (S.take E) w1 (by rw [List.length_take, hl]; omega) (by omega) (fun j hj => ?_) (fun j hj => ?_)
    · rw [List.getElem?_take_of_lt hj]; exact bd _ (by omega)
    · have := range_cells (range_take E (range_below hr h hb)) j (by rw [List.length_take, hl]; omega)
      rwa [List.getD_eq_getElem?_getD] at this
  obtain ⟨Z, hZ⟩ : ∃ Z, 10 + 4 * (W * H) = Z := ⟨_, rfl⟩
  rw [hZ] at KZ ⊢
  obtain ⟨x, hx⟩ : ∃ x, numOf (S.drop E) = x := ⟨_, rfl⟩
  obtain ⟨y, hy⟩ : ∃ y, chkOf (S.take E) = y := ⟨_, rfl⟩
  rw [hx] at KN ⊢
  rw [hy] at KC ⊢
  have HE := Lib.hid hE
  have HI := Lib.hid wI
  clear K hB1 hW1 hr hm hS hne eW eH hr1 bd hl hZ hx hy hE wI eE eI
  have KQ : Hid (∀ w1 : World, Calls Tryz.prog 165 #[.int .i64 (IntKind.i64.wrap W), .int .i64 (IntKind.i64.wrap H)] w1 fun e w' => e = .returned (.int .i64 (Z : Int)) ∧ w' = w1) := Lib.hid fun w1 => by rw [wW, wH]; exact (KZ.out w1).mono fun e w' ⟨h1, h2⟩ => ⟨h1, h2.symm⟩
  have KQN : Hid (∀ w1 : World, Below w.heap.size w w1 → ∀ c', Calls Tryz.prog 171 #[.slice (some ⟨b, q + E, none⟩) (n - E) c'] w1 fun e w' => e = .returned (.int .i64 x) ∧ w' = w1) := Lib.hid fun w1 h c' => (KN.out w1 h c').mono fun e w' ⟨h1, h2⟩ => ⟨h1, h2.symm⟩
  have KQC : Hid (∀ w1 : World, Below w.heap.size w w1 → ∀ c', Calls Tryz.prog 169 #[.slice (some ⟨b, q, none⟩) E c'] w1 fun e w' => e = .returned (.int .i64 y) ∧ w' = w1) := Lib.hid fun w1 h c' => (KC.out w1 h c').mono fun e w' ⟨h1, h2⟩ => ⟨h1, h2.symm⟩
  clear KZ KN KC wW wH
  rcases Nat.lt_trichotomy n Z with hlt | heq | hgt
  · rw [if_pos hlt]
    have t1 : (n : Int) < (Z : Int) := by omega
    go_enter Tryz.func170, Tryz.ntmps170
    go_upto_region 7 with (go_at_call 213; refine HK.out.mono ?_; rintro e w' ⟨rfl, rfl⟩)
    go_quiet ((go_at_call 165; with_reducible exact Calls.quiet_of_same (KQ.out _)))
    go_wp2
    go_ret
    exact ⟨rfl, below_drewN HB.out _⟩
  · subst heq
    rw [if_neg (Nat.lt_irrefl _), if_neg (Nat.lt_irrefl _)]
    obtain ⟨r, hr⟩ : ∃ r : Int, (if x ≠ y then 27 else 0) = r := ⟨_, rfl⟩
    have hz : ((x != y) = false ∧ r = 0) ∨ ((x != y) = true ∧ r = 27) := by
      rw [← hr]
      by_cases h : x = y
      · exact .inl ⟨by simp [h], by simp [h]⟩
      · exact .inr ⟨by simp [h], by simp [h]⟩
    rw [hr]
    have HZ := Lib.hid hz
    clear hr hz
    have t1 : ¬ ((n : Int) < (n : Int)) := by omega
    go_enter Tryz.func170, Tryz.ntmps170
    go_upto_region 7 with (go_at_call 213; refine HK.out.mono ?_; rintro e w' ⟨rfl, rfl⟩)
    go_quiet ((go_at_call 165; with_reducible exact Calls.quiet_of_same (KQ.out _)))
    rename_i nq
    obtain ⟨W2, hW2⟩ : ∃ W2, W1.drewN nq = W2 := ⟨_, rfl⟩
    have HB2 : Hid (Below w.heap.size w W2) := Lib.hid (by rw [← hW2]; exact below_drewN HB.out _)
    have d4 : W2.cell? ⟨b, q + 4, none⟩ = some (.int .u8 (W : Int)) := by rw [← hW2]; exact c4
    have d5 : W2.cell? ⟨b, q + 5, none⟩ = some (.int .u8 (H : Int)) := by rw [← hW2]; exact c5
    rw [hW2]
    clear hW2 c4 c5
    go_upto_region 9 with fail
    go_quiet ((go_at_call 165; with_reducible exact Calls.quiet_of_same (KQ.out _)))
    generalize hW3 : World.drewN W2 _ = W3
    have HB3 : Hid (Below w.heap.size w W3) := Lib.hid (by rw [← hW3]; exact below_drewN HB2.out _)
    clear hW3 d4 d5
    have wI := HI.out
    have HB4 : Hid (∀ m, Below w.heap.size w (W3.drewN m)) := Lib.hid fun m => below_drewN HB3.out m
    rcases HZ.out with ⟨e1, e2⟩ | ⟨e1, e2⟩
    all_goals
      have E2 := Lib.hid e2
      clear e2
      go_upto_region 12 with fail
      go_quiet (first | (go_at_call 171; with_reducible exact Calls.quiet_of_same (KQN.out _ (HB4.out _) _)) | (go_at_call 169; with_reducible exact Calls.quiet_of_same (KQC.out _ (HB4.out _) _)))
      go_wp2
      go_ret
      exact ⟨ret_int E2.out.symm, HB4.out _⟩
  · rw [if_neg (by omega), if_pos hgt]
    have t1 : ¬ ((n : Int) < (Z : Int)) := by omega
    have t2 : (Z : Int) < (n : Int) := by omega
    go_enter Tryz.func170, Tryz.ntmps170
    go_upto_region 7 with (go_at_call 213; refine HK.out.mono ?_; rintro e w' ⟨rfl, rfl⟩)
    go_quiet ((go_at_call 165; with_reducible exact Calls.quiet_of_same (KQ.out _)))
    rename_i nq
    obtain ⟨W2, hW2⟩ : ∃ W2, W1.drewN nq = W2 := ⟨_, rfl⟩
    have HB2 : Hid (Below w.heap.size w W2) := Lib.hid (by rw [← hW2]; exact below_drewN HB.out _)
    have d4 : W2.cell? ⟨b, q + 4, none⟩ = some (.int .u8 (W : Int)) := by rw [← hW2]; exact c4
    have d5 : W2.cell? ⟨b, q + 5, none⟩ = some (.int .u8 (H : Int)) := by rw [← hW2]; exact c5
    rw [hW2]
    clear hW2 c4 c5
    go_upto_region 9 with fail
    go_quiet ((go_at_call 165; with_reducible exact Calls.quiet_of_same (KQ.out _)))
    go_wp2
    go_ret
    exact ⟨rfl, below_drewN HB2.out _⟩

theorem checkStream_all (S : List Int) (a : Option Addr) (n cp : Nat) (hn : n ≤ 2000) (hcp : n ≤ cp) (hcq : cp ≤ 9223372036854775807) (w : World) (hA : AnyBytes w a n S) :
    Calls Tryz.prog 170 #[.slice a n cp] w fun e w' => e = .returned (.int .i64 (unErr0 S)) ∧ Below w.heap.size w w' := by
  have hS := hA.1
  have hl := hS.1
  by_cases h4 : n < 4
  · unfold unErr0
    rw [if_pos (by omega)]
    exact checkStream_short a n cp h4 w
  obtain ⟨b, q, rfl, hb, hr⟩ := hA.2 0 (by omega)
  by_cases hm : S.take 4 = magicL
  · by_cases h6 : n < 6
    · unfold unErr0
      rw [if_neg (by omega), if_neg (by simp [hm]), if_pos (by omega)]
      exact checkStream_head S b q n cp hS (by omega) h6 hcp hcq w hb hr hm
    · have bd : ∀ j, j < n → 0 ≤ S[j]?.getD 0 ∧ S[j]?.getD 0 ≤ 255 := fun j hj => by
        rw [List.getElem?_eq_getElem (by omega)]; exact hS.2 _ (List.getElem_mem _)
      obtain ⟨W, hW⟩ := Int.eq_ofNat_of_zero_le (bd 4 (by omega)).1
      obtain ⟨H, hH⟩ := Int.eq_ofNat_of_zero_le (bd 5 (by omega)).1
      have h := checkStream_body S b q n cp W H hS hW hH (by omega) hn hcp hcq w hb hr hm
      have e : unErr0 S = (if n < 10 + 4 * (W * H) then 28 else if 10 + 4 * (W * H) < n then 2 else if numOf (S.drop (n - 4)) ≠ chkOf (S.take (n - 4)) then 27 else 0) := by
        have eN : unEnd S = 6 + 4 * (W * H) := by unfold unEnd unN unW unH byteAt; rw [hW, hH]; rfl
        unfold unErr0
        rw [if_neg (by omega), if_neg (by simp [hm]), if_neg (by omega), eN, hl]
        by_cases h1 : n < 10 + 4 * (W * H)
        · rw [if_pos h1, if_pos (by omega)]
        · rw [if_neg h1, if_neg (by omega)]
          by_cases h2 : 10 + 4 * (W * H) < n
          · rw [if_pos h2, if_pos (by omega)]
          · rw [if_neg h2, if_neg (by omega), show n - 4 = 6 + 4 * (W * H) by omega]
      rw [e]
      exact h
  · unfold unErr0
    rw [if_neg (by omega), if_pos hm]
    exact checkStream_form S b q n cp hS (by omega) hn hcp hcq w hb hr hm
end Go.Proofs.YtpmjiifdnnhecaaGreatDoor
