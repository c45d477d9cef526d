/-
  The reference's CheckPanel for every panel: the same error as the program's.
-/
import Derived.Test.YtfpagmalblmnkaaGreatDoorEPk
namespace Go.Proofs.YtfpagmalblmnkaaGreatDoor
open Go.RowKit
open Ieee (Format single double Datum signed)
set_option linter.unusedVariables false
set_option linter.unusedSimpArgs false

theorem prtErr_cases (x : Nat) : prtErr x = 0 ∨ prtErr x = 1 ∨ prtErr x = 3 := by
  rcases smp_class x with ⟨a, b, hd⟩ | ⟨s, hd⟩ | ⟨s, v, hn, _⟩
  · exact .inr (.inl (prtErr_nan hd))
  · exact .inr (.inl (prtErr_inf hd))
  · rw [prtErr_num hn]
    split
    · exact .inl rfl
    · exact .inr (.inr rfl)
theorem finB_prt (x : Nat) : finB x = true ↔ prtErr x ≠ 1 := by
  rcases smp_class x with ⟨a, b, hd⟩ | ⟨s, hd⟩ | ⟨s, v, hn, _⟩
  · rw [prtErr_nan hd]; unfold finB; rw [hd]; simp
  · rw [prtErr_inf hd]; unfold finB; rw [hd]; simp
  · rw [finB_num hn, prtErr_num hn]
    split <;> simp
theorem mulB_prt {x : Nat} (h : finB x = true) : mulB x = true ↔ prtErr x = 0 := by
  rcases smp_class x with ⟨a, b, hd⟩ | ⟨s, hd⟩ | ⟨s, v, hn, _⟩
  · unfold finB at h; rw [hd] at h; cases h
  · unfold finB at h; rw [hd] at h; cases h
  · rw [mulB_num hn, prtErr_num hn, decide_eq_true_iff]
    constructor
    · intro hh; rw [if_pos hh]
    · intro hh
      refine Classical.byContradiction fun hn' => ?_
      rw [if_neg hn'] at hh
      cases hh
/-- The error of a number of a panel, by those of its parts. -/
theorem numErr_prt (x y : Nat) : numErr x y = if prtErr x = 1 ∨ prtErr y = 1 then 1 else if prtErr x = 0 ∧ prtErr y = 0 then 0 else 3 := by
  unfold numErr
  by_cases h : prtErr x = 1 ∨ prtErr y = 1
  · rw [if_pos h, if_neg]
    rintro ⟨h1, h2⟩
    rcases h with h | h
    · exact (finB_prt x).1 h1 h
    · exact (finB_prt y).1 h2 h
  · have h1 : finB x = true := (finB_prt x).2 fun hh => h (.inl hh)
    have h2 : finB y = true := (finB_prt y).2 fun hh => h (.inr hh)
    rw [if_neg h, if_pos ⟨h1, h2⟩]
    simp only [mulB_prt h1, mulB_prt h2]
theorem numErr_zero {x y : Nat} (h : numErr x y = 0) : ∃ k l, Smp x k ∧ Smp y l ∧ k.natAbs ≤ 65536 ∧ l.natAbs ≤ 65536 := by
  rw [numErr_prt] at h
  split at h
  · cases h
  · split at h
    · rename_i hh
      obtain ⟨k, h1, h2⟩ := prtErr_zero hh.1
      obtain ⟨l, h3, h4⟩ := prtErr_zero hh.2
      exact ⟨k, l, h1, h3, h2, h4⟩
    · cases h

set_option maxRecDepth 1000000 in
set_option maxHeartbeats 12800000 in
theorem refCheckPanel_any (x0 y0 x1 y1 x2 y2 x3 y3 : Nat) (w : World) :
    Calls Tryz.prog 11 #[.agg #[.complex .f32 x0 y0, .complex .f32 x1 y1, .complex .f32 x2 y2, .complex .f32 x3 y3]] w fun e w' =>
      e = .returned (.int .i64 (firstNZ (([(x0, y0), (x1, y1), (x2, y2), (x3, y3)] : List (Nat × Nat)).map (fun z => numErr z.1 z.2)))) ∧ Below w.heap.size w w' := by
  obtain ⟨zs, hzs⟩ : ∃ zs : List (Nat × Nat), zs = [(x0, y0), (x1, y1), (x2, y2), (x3, y3)] := ⟨_, rfl⟩
  rw [← hzs]
  have hlen : (zs.map (fun z => numErr z.1 z.2)).length = 4 := by rw [hzs]; rfl
  have hcell : ∀ k, k < 4 → (#[.complex .f32 x0 y0, .complex .f32 x1 y1, .complex .f32 x2 y2, .complex .f32 x3 y3] : Array Value)[k]? = some (.complex .f32 (zs[k]?.getD (0, 0)).1 (zs[k]?.getD (0, 0)).2) := fun k hk => by
    rw [hzs]
    match k, hk with
    | 0, _ => rfl
    | 1, _ => rfl
    | 2, _ => rfl
    | 3, _ => rfl
  have hat : ∀ k, k < 4 → (zs.map (fun z => numErr z.1 z.2)).getD k 0 = numErr (zs[k]?.getD (0, 0)).1 (zs[k]?.getD (0, 0)).2 := fun k hk => by
    have : k < zs.length := by rw [hzs]; exact hk
    simp [this]
  obtain ⟨W0, hW0⟩ : ∃ W0, w.alloc (.cells #[.complex .f32 x0 y0, .complex .f32 x1 y1, .complex .f32 x2 y2, .complex .f32 x3 y3] 26) = W0 := ⟨_, rfl⟩
  have hB0 : Below w.heap.size w W0 := by rw [← hW0]; exact (Below.refl _ w).alloc (Nat.le_refl _) _
  have bX : W0.heap[w.heap.size]? = some (.cells #[.complex .f32 x0 y0, .complex .f32 x1 y1, .complex .f32 x2 y2, .complex .f32 x3 y3] 26 (0, 0)) := by rw [← hW0]; exact blk_alloc_new _ _
  have HB0 := Lib.hid hB0
  have HX0 := Lib.hid bX
  have HL := Lib.hid hlen
  have HC := Lib.hid hcell
  have HA := Lib.hid hat
  clear hB0 bX hlen hcell hat hzs
  go_enter Tryz.func11, Tryz.ntmps11
  go_upto_region 1 with fail
  try rw [hW0]
  clear hW0
  go_wp2_with fail
  go_loopw [3] (fun s3 wq => ∃ k : Nat, k ≤ 4 ∧ s3 = .int .i64 k ∧ (∀ j, j < k → (zs.map (fun z => numErr z.1 z.2)).getD j 0 = 0) ∧ wq.heap[w.heap.size]? = some (.cells #[.complex .f32 x0 y0, .complex .f32 x1 y1, .complex .f32 x2 y2, .complex .f32 x3 y3] 26 (0, 0)) ∧ Below w.heap.size w wq) (fun i _ => 4 - (intOf i).toNat)
  case atStart => exact ⟨0, by omega, rfl, fun j hj => by omega, HX0.out, HB0.out⟩
  case round =>
    obtain ⟨k, hk, rfl, hz, hx, hbr⟩ := hrel
    have HZ := Lib.hid hz
    have HX1 := Lib.hid hx
    have HBR := Lib.hid hbr
    by_cases hlt : k < 4
    · have hltI : (k : Int) < 4 := by omega
      have hce := HC.out k hlt
      have hae := HA.out k hlt
      obtain ⟨x, hxv⟩ : ∃ x, (zs[k]?.getD (0, 0)).1 = x := ⟨_, rfl⟩
      obtain ⟨y, hyv⟩ : ∃ y, (zs[k]?.getD (0, 0)).2 = y := ⟨_, rfl⟩
      rw [hxv, hyv] at hce hae
      rw [numErr_prt] at hae
      have g0 : wr.cell? ⟨w.heap.size, k, none⟩ = some (.complex .f32 x y) := by
        rw [cell_of_row _ _ k _ _ (0, 0) hx]
        exact hce
      have KX := Lib.hid (fun w1 => checkPart4_all x w1)
      have KY := Lib.hid (fun w1 => checkPart4_all y w1)
      have hcx := prtErr_cases x
      have hcy := prtErr_cases y
      obtain ⟨a, ha⟩ : ∃ a, prtErr x = a := ⟨_, rfl⟩
      obtain ⟨b, hb⟩ : ∃ b, prtErr y = b := ⟨_, rfl⟩
      rw [ha] at hae hcx KX
      rw [hb] at hae hcy KY
      have hend : ∀ q : Int, q ≠ 0 → (zs.map (fun z => numErr z.1 z.2)).getD k 0 = q → firstNZ (zs.map (fun z => numErr z.1 z.2)) = q := fun q h0 h1 => by
        rw [← h1]
        exact firstNZ_at (by rw [HL.out]; exact hlt) HZ.out (by rw [h1]; exact h0)
      have HEND := Lib.hid hend
      clear hz hx hbr hce hxv hyv ha hb hend
      rcases hcx with rfl | rfl | rfl <;> rcases hcy with rfl | rfl | rfl
      all_goals
        have HAE := Lib.hid hae
        clear hae
        go_upto_region 4 with fail
        go_region_held3 (fun w' => w'.cell? ⟨w.heap.size, k, none⟩ = some (.complex .f32 x y))
          (first | (go_keep; done) | (with_reducible assumption))
          (first
            | (go_at_call_of 48 (Value.float .f32 x); refine (KX.out _).mono ?_; rintro e w6 ⟨rfl, rfl⟩)
            | (go_at_call_of 48 (Value.float .f32 y); refine (KY.out _).mono ?_; rintro e w7 ⟨rfl, rfl⟩))
        all_goals
          go_wp2_with fail
          first
            | (go_roundw
               case rel => exact ⟨k + 1, by omega, by go_num, fun j hj => (by
                 by_cases hjk : j < k
                 · exact HZ.out j hjk
                 · obtain rfl : j = k := by omega
                   rw [HAE.out]; decide), HX1.out, HBR.out.drew⟩
               case measure => simp [intOf]; omega)
            | (go_ret
               exact ⟨by rw [HEND.out 1 (by decide) (by rw [HAE.out]; decide)]; rfl, HBR.out.drew⟩)
            | (go_ret
               exact ⟨by rw [HEND.out 3 (by decide) (by rw [HAE.out]; decide)]; rfl, HBR.out.drew⟩)
    · obtain rfl : k = 4 := by omega
      have hfin : firstNZ (zs.map (fun z => numErr z.1 z.2)) = 0 := firstNZ_end fun j hj => hz j (by rw [HL.out] at hj; exact hj)
      clear hz hx hbr
      go_wp2_with fail
      go_ret
      exact ⟨by rw [hfin]; rfl, HBR.out⟩
end Go.Proofs.YtfpagmalblmnkaaGreatDoor
