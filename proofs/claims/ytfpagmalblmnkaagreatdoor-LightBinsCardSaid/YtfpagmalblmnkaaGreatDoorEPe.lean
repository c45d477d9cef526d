/-
  The errors of a list of complex numbers; the quotient by 4.
-/
import Derived.Test.YtfpagmalblmnkaaGreatDoorEPd
namespace Go.Proofs.YtfpagmalblmnkaaGreatDoor
open Go.RowKit
open Ieee (Format single double Datum signed)
set_option linter.unusedVariables false
set_option linter.unusedSimpArgs false

set_option maxHeartbeats 2000000 in
set_option maxRecDepth 100000 in
theorem mapped_num {w : World} (b o n c : Nat) (zs : List (Nat × Nat)) (hx : zs.length = n) (hn : n ≤ 4096) (hb : b < w.heap.size)
    (hc : ∀ j, j < n → w.cell? ⟨b, o + j, none⟩ = some (.complex .f32 (zs[j]?.getD (0, 0)).1 (zs[j]?.getD (0, 0)).2)) (hs : ∀ j, j < n → (zs[j]?.getD (0, 0)).1 < 2 ^ 32 ∧ (zs[j]?.getD (0, 0)).2 < 2 ^ 32) :
    Calls Tryz.prog 45 #[.slice (some ⟨b, o, none⟩) n c, .func (.func 46) #[] #[]] w fun e w' =>
      e = .returned (.slice (some ⟨w.heap.size, 0, none⟩) n n) ∧ w'.ownsRow w.heap.size 27 1 (.slice (some ⟨w.heap.size, 0, none⟩) n n) n (zs.map (fun z => Value.int .i64 (numErr z.1 z.2))) ∧ Below w.heap.size w w' := by
  obtain ⟨i0, hi, hz0, hz1, hz2⟩ := info_parts Tryz.info27_check
  have Hx := Lib.hid hx
  have Hc := Lib.hid hc
  have Hs := Lib.hid hs
  clear hx hc hs
  go_enter Tryz.func45, Tryz.ntmps45
  go_wp2_with (at_make; refine wpList_make_own _ rfl _ _ 102 rfl w.heap.size 27 i0 (.int .i64 0) 1 Tryz.underlying102 hi hz0 hz1 _ _ _ n rfl rfl (by omega) ?b2 ?b3 (Nat.le_refl _) ?_)
  case b2 => rw [hz2]; omega
  case b3 => unfold maxLen; omega
  intro w0 hown0 hgrow0
  go_wp2
  go_loopw [5, 13] (fun out i wr => ∃ k : Nat, k ≤ n ∧ i = .int .i64 k ∧ out = .slice (some ⟨w.heap.size, 0, none⟩) k n ∧
      wr.ownsRow w.heap.size 27 1 (.slice (some ⟨w.heap.size, 0, none⟩) k n) k ((zs.take k).map (fun z => Value.int .i64 (numErr z.1 z.2))) ∧ Below w.heap.size w wr)
    (fun _ i _ => n - (intOf i).toNat)
  case atStart => exact ⟨0, Nat.zero_le _, rfl, rfl, hown0, (Below.refl _ _).grown hgrow0 (Nat.le_refl _) (fun k h => by cases h)⟩
  case round =>
    obtain ⟨k, hk, rfl, rfl, hown, hnx⟩ := hrel
    by_cases hlt : k < n
    · have hcell := (hnx.cell (p := ⟨b, o + k, none⟩) (by exact hb)).trans (Hc.out k hlt)
      have hh := Hs.out k hlt
      have hT := take_map_succ (fun z : Nat × Nat => Value.int .i64 (numErr z.1 z.2)) zs k (by have := Hx.out; omega) (0, 0)
      obtain ⟨zx, hzx⟩ : ∃ zx, (zs[k]?.getD (0, 0)).1 = zx := ⟨_, rfl⟩
      obtain ⟨zy, hzy⟩ : ∃ zy, (zs[k]?.getD (0, 0)).2 = zy := ⟨_, rfl⟩
      try dsimp only at hT
      rw [hzx, hzy] at hcell hh hT
      have K := Lib.hid hh
      have HT := Lib.hid hT
      have hsz := hnx.size
      clear hh hT hzx hzy
      go_wp2_with (first
        | (go_at_call 46; refine (checkNumber_all _ _ K.out.1 K.out.2 _).mono ?_; rintro e w2 ⟨rfl, hb2⟩; have hown2 := owns_kept hown hb2 (Nat.le_refl _); have hs2 := hb2.size)
        | (at_builtin; refine wpList_append_fits _ rfl (.tmp 17) (.tmp 21) 102 rfl w.heap.size 27 i0 1 Tryz.underlying102 hi hz1 w.heap.size k n _ rfl (hown2.alloc _) ⟨w2.heap.size, 0, none⟩ 1 1 [.int .i64 (numErr zx zy)] rfl rfl (cell_one_new _ _ _) (by intro u hu; simp at hu; subst hu; rfl) (by omega) ?_; intro w1 hown1 hgrow1))
      go_roundw
      case rel => exact ⟨k + 1, by omega, by go_num, rfl, by rw [HT.out]; exact hown1, ((hnx.trans (hb2.mono hnx.size)).alloc (Nat.le_trans hsz hs2) _).grown hgrow1 (by simp; omega) (fun j hj => by cases hj; exact Nat.le_refl _)⟩
      case measure => simp [intOf]; omega
    · go_wp2
      go_ret
      obtain rfl : k = n := by omega
      rw [List.take_of_length_le (by have := Hx.out; omega)] at hown
      exact ⟨rfl, hown, hnx⟩

/-- A quotient by 4 is exact. -/
theorem quo4 {x : Nat} {s : Bool} {K : Nat} (hK : K < 2 ^ 24) (h : IsNum single x s (K * 2 ^ 145)) : ∃ r, floatBits .quo .f32 x 1082130432 = some r ∧ IsNum single r s (K * 2 ^ 143) := by
  obtain ⟨m, e, h1, h2, h3, h4⟩ := h
  have hL : single.leastPlace = -149 := by decide
  have hc : single.read 1082130432 = .number false (2 ^ 23) (-21) := by decide +kernel
  have h3' : m < 2 ^ 24 := h3
  rw [hL] at h2 h4
  have hlog : (2 ^ 23 : Nat).log2 = 23 := by decide +kernel
  by_cases h0 : K = 0
  · subst h0
    have hm : m = 0 := by
      have : m * 2 ^ (e - -149).toNat = 0 := h4.trans (Nat.zero_mul _)
      rcases Nat.mul_eq_zero.1 this with h | h
      · exact h
      · exact absurd h (by have := Nat.two_pow_pos (e - -149).toNat; omega)
    subst hm
    refine ⟨single.word s 0, ?_, ?_⟩
    · show single.div _ _ = _
      unfold Format.div
      rw [h1, hc]
      simp [Datum.quotient, Format.write, nearest_zero]
    · have h := isNum_nearest two32 s 0 0 single.leastPlace (Nat.two_pow_pos _) (Int.le_refl _) (by rw [Nat.zero_mul]; exact Nat.two_pow_pos _)
      rw [Nat.zero_mul, nearest_zero, Nat.zero_mul] at h
      rw [Nat.zero_mul]
      exact h
  · have hm0 : m ≠ 0 := by
      rintro rfl
      rw [Nat.zero_mul] at h4
      rcases Nat.mul_eq_zero.1 h4.symm with h | h
      · omega
      · exact absurd h (by have := Nat.two_pow_pos 145; omega)
    have hml : m.log2 ≤ 23 := log2_le_of_lt hm0 h3
    have he : -147 ≤ e := by
      refine Classical.byContradiction fun hh => ?_
      have k1 : m * 2 ^ (e - -149).toNat < 2 ^ (24 + 2) := by
        refine Nat.lt_of_lt_of_le (pow_split h3') (Nat.pow_le_pow_right (by omega) (by omega))
      rw [h4] at k1
      have k2 : 2 ^ 145 ≤ K * 2 ^ 145 := Nat.le_mul_of_pos_left _ (by omega)
      have k3 : (2 : Nat) ^ 145 < 2 ^ (24 + 2) := Nat.lt_of_le_of_lt k2 k1
      have := (Nat.pow_lt_pow_iff_right (show 1 < 2 by omega)).1 k3
      omega
    have hmax : m * 2 ^ (e - 2 - single.leastPlace).toNat < 2 ^ (single.fractionBits + 2 ^ single.exponentBits - 2) := by
      refine Nat.lt_of_le_of_lt (Nat.mul_le_mul_left _ (Nat.pow_le_pow_right (by omega) (show (e - 2 - single.leastPlace).toNat ≤ (e - -149).toNat by omega))) ?_
      rw [h4]
      exact Nat.lt_trans (pow_split hK) (by decide +kernel)
    have hk := isNum_nearest two32 s m (25 + 23 - m.log2 - 22) (e - 2) h3 (by omega) hmax
    refine ⟨single.nearest s (m * 2 ^ (25 + 23 - m.log2 - 22)) (e - 2 - ((25 + 23 - m.log2 - 22 : Nat) : Int)), ?_, ?_⟩
    rotate_left
    · have ev : m * 2 ^ (e - 2 - single.leastPlace).toNat = K * 2 ^ 143 := by
        have e1 : (e - -149).toNat = (e - 2 - single.leastPlace).toNat + 2 := by omega
        rw [e1, Nat.pow_add, ← Nat.mul_assoc] at h4
        have e2 : K * 2 ^ 145 = K * 2 ^ 143 * 2 ^ 2 := by rw [Nat.mul_assoc]
        rw [e2] at h4
        exact Nat.eq_of_mul_eq_mul_right (by decide) h4
      rw [ev] at hk
      exact hk
    · show single.div _ _ = _
      unfold Format.div
      rw [h1, hc]
      have hsplit : m <<< (25 + 23 - m.log2) = m * 2 ^ (25 + 23 - m.log2 - 23) * 2 ^ 23 := by
        rw [Nat.shiftLeft_eq, Nat.mul_assoc, ← Nat.pow_add]; congr 2; omega
      have hd : m <<< (25 + 23 - m.log2) / 2 ^ 23 = m * 2 ^ (25 + 23 - m.log2 - 23) := by rw [hsplit]; exact Nat.mul_div_cancel _ (by decide)
      have hr : m <<< (25 + 23 - m.log2) % 2 ^ 23 = 0 := by rw [hsplit]; exact Nat.mul_mod_left _ _
      have hne : ¬ (2 ^ 23 : Nat) = 0 := by decide
      simp only [Datum.quotient, hne, if_false, Option.map_some, Format.write, Bool.xor_false, hlog, show single.fractionBits + 2 = 25 from rfl, hd, hr]
      congr 2
      · have : (25 + 23 - m.log2 - 22 : Nat) = (25 + 23 - m.log2 - 23) + 1 := by omega
        rw [this, Nat.pow_succ]
        simp [Nat.mul_comm, Nat.mul_left_comm]
      · omega
/-- The quotient by 4 of an integer, and what the check of a sample says of it. -/
theorem quo4_smp {x : Nat} {k : Int} (hx : Smp x k) (hk : k.natAbs < 2 ^ 24) :
    ∃ r, floatBits .quo .f32 x 1082130432 = some r ∧ (smpErr r = 0 ↔ k % 4 = 0 ∧ (k / 4).natAbs ≤ 16384) ∧ (k % 4 = 0 → Smp r (k / 4)) := by
  obtain ⟨s, h1, h2, h3⟩ := hx
  obtain ⟨r, hr, hn⟩ := quo4 hk h1
  have hm : k.natAbs * 2 ^ 143 % 2 ^ 145 = 0 ↔ k % 4 = 0 := by
    have e : (2 : Nat) ^ 145 = 4 * 2 ^ 143 := by decide +kernel
    rw [e, Nat.mul_mod_mul_right]
    constructor
    · intro h
      rcases Nat.mul_eq_zero.1 h with h | h
      · omega
      · exact absurd h (by decide +kernel)
    · intro h
      have : k.natAbs % 4 = 0 := by omega
      rw [this, Nat.zero_mul]
  have hle : k.natAbs * 2 ^ 143 ≤ 1024 * 2 ^ 149 ↔ k.natAbs ≤ 65536 := by
    have e : 1024 * (2 : Nat) ^ 149 = 65536 * 2 ^ 143 := by decide +kernel
    rw [e]
    exact Nat.mul_le_mul_right_iff (Nat.two_pow_pos _)
  refine ⟨r, hr, ?_, fun h0 => ⟨s, ?_, fun h => h2 (by omega), fun h => h3 (by omega)⟩⟩
  · rw [smpErr_num hn]
    constructor
    · intro h
      split at h
      · rename_i hh
        have h4 := hm.1 hh.2
        have h5 := hle.1 hh.1
        exact ⟨h4, by omega⟩
      · cases h
    · rintro ⟨h4, h5⟩
      rw [if_pos ⟨hle.2 (by omega), hm.2 h4⟩]
  · have e : k.natAbs * 2 ^ 143 = (k / 4).natAbs * 2 ^ 145 := by
      have e1 : k.natAbs = (k / 4).natAbs * 4 := by omega
      rw [e1, Nat.mul_assoc]
    rw [e] at hn
    exact hn
end Go.Proofs.YtfpagmalblmnkaaGreatDoor
