/-
  Contract of the reference's Unpack for any bytes, in parts: its errors.
-/
import Derived.Test.YthmaoeajbmfmaaaGreatDoorDBe
import Derived.Test.YthmaoeajbmfmaaaGreatDoorDHf
import Derived.Test.YthmaoeajbmfmaaaGreatDoorDBo
namespace Go.Proofs.YthmaoeajbmfmaaaGreatDoor
open Go.RowKit
set_option linter.unusedVariables false
set_option linter.unusedSimpArgs false

/-- A result that is a map, and an error. -/
def UnRes (w : World) (r W H : Int) (L : List Int) (e : Ending) (w' : World) : Prop :=
  ∃ X Y a n c, e = .returned (.tuple #[.agg #[.int .i64 X, .int .i64 Y, .slice a n c], .int .i64 r]) ∧ ResV w' r W H L X Y a n c ∧ Below w.heap.size w w'
theorem UnRes.bad {w w' : World} {r W H : Int} {L : List Int} (hr : r ≠ 0) (hb : Below w.heap.size w w') : UnRes w r W H L (.returned (.tuple #[.agg #[.int .i64 0, .int .i64 0, .slice none 0 0], .int .i64 r])) w' :=
  ⟨0, 0, none, 0, 0, rfl, ResV.none _ _ _ _ _ hr, hb⟩

/-- A map's block behind three stores. -/
theorem map_ends {w W : World} {B : Nat} {x0 y0 s0 : Value} {T : TypeId} (hB : W.heap[B]? = some (.cells #[x0, y0, s0] T (0, 0))) (hb : Below w.heap.size w W) (hle : w.heap.size ≤ B) (x y s : Value) :
    (((W.setCell ⟨B, 0, none⟩ x).setCell ⟨B, 1, none⟩ y).setCell ⟨B, 2, none⟩ s).heap[B]? = some (.cells #[x, y, s] T (0, 0)) ∧ Below w.heap.size w (((W.setCell ⟨B, 0, none⟩ x).setCell ⟨B, 1, none⟩ y).setCell ⟨B, 2, none⟩ s) :=
  ⟨blk_set3 hB _ _ _, ((hb.setCell (p := ⟨B, 0, none⟩) hle _).setCell (p := ⟨B, 1, none⟩) hle _).setCell (p := ⟨B, 2, none⟩) hle _⟩

theorem magic_str {S : List Int} (hS : ∀ x ∈ S, 0 ≤ x ∧ x ≤ 255) : ((strOfNums (S.take 4)).toList == ([76, 77, 65, 80] : List UInt8)) = decide (S.take 4 = magicL) := by
  have h := str_eq (xs := S.take 4) (ys := magicL) (fun x hx => hS x (List.mem_of_mem_take hx)) (by decide)
  have e : (strOfNums magicL).toList = [76, 77, 65, 80] := by rw [ByteArray.toList_eq]; rfl
  rwa [e] at h

def ZM : Obj := .cells #[.int .i64 0, .int .i64 0, .slice none 0 0] 66
theorem zm_facts (w : World) : (w.alloc (.cells #[.int .i64 0, .int .i64 0, .slice none 0 0] 66)).heap[w.heap.size]? = some (.cells #[.int .i64 0, .int .i64 0, .slice none 0 0] 66 (0, 0)) := blk_alloc_new _ _

set_option maxRecDepth 100000 in
set_option maxHeartbeats 3200000 in
theorem refUnpack_long (S : List Int) (W H : Int) (L : List Int) (a : Option Addr) (n cp : Nat) (hm : 400000 < n) (hl : n ≤ 1000000) (w : World) :
    Calls Tryz.prog 34 #[.slice a n cp] w (UnRes w 26 W H L) := by
  have i1 : (400000 : Int) < (n : Int) := by omega
  have i2 : (n : Int) ≤ 1000000 := by omega
  obtain ⟨W0, hW0⟩ : ∃ W0, w.alloc (.cells #[.int .i64 0, .int .i64 0, .slice none 0 0] 66) = W0 := ⟨_, rfl⟩
  have hB0 : Below w.heap.size w W0 := by rw [← hW0]; exact (Below.refl _ w).alloc (Nat.le_refl _) _
  have r0 := zm_facts w
  rw [hW0] at r0
  obtain ⟨c0, c1, c2⟩ := row_cells r0
  have q0 : W0.frozen? ⟨w.heap.size, 0, none⟩ = false := frozen_of_row _ _ _ _ _ r0
  have q1 : W0.frozen? ⟨w.heap.size, 1, none⟩ = false := frozen_of_row _ _ _ _ _ r0
  have q2 : W0.frozen? ⟨w.heap.size, 2, none⟩ = false := frozen_of_row _ _ _ _ _ r0
  have HE := Lib.hid (map_ends r0 hB0 (Nat.le_refl _))
  clear r0 hB0
  go_enter Tryz.func34, Tryz.ntmps34
  go_upto_region 1 with fail
  try rw [hW0]
  clear hW0
  go_wp2
  exact bodyPost_ret (v := .tuple #[.agg #[.int .i64 0, .int .i64 0, .slice none 0 0], .int .i64 26]) (results_row_tmp Tryz.results34 _ _ w.heap.size 66 _ (0, 0) _ rfl (HE.out _ _ _).1 Tryz.underlying66 rfl (by kernel_rfl)) rfl (UnRes.bad (by decide) (HE.out _ _ _).2)

set_option maxRecDepth 100000 in
set_option maxHeartbeats 3200000 in
theorem refUnpack_short (S : List Int) (W H : Int) (L : List Int) (a : Option Addr) (n cp : Nat) (hm : n < 4) (w : World) :
    Calls Tryz.prog 34 #[.slice a n cp] w (UnRes w 28 W H L) := by
  have i1 : ¬ ((400000 : Int) < (n : Int)) := by omega
  have i2 : (n : Int) < 4 := by omega
  obtain ⟨W0, hW0⟩ : ∃ W0, w.alloc (.cells #[.int .i64 0, .int .i64 0, .slice none 0 0] 66) = W0 := ⟨_, rfl⟩
  have hB0 : Below w.heap.size w W0 := by rw [← hW0]; exact (Below.refl _ w).alloc (Nat.le_refl _) _
  have r0 := zm_facts w
  rw [hW0] at r0
  obtain ⟨c0, c1, c2⟩ := row_cells r0
  have q0 : W0.frozen? ⟨w.heap.size, 0, none⟩ = false := frozen_of_row _ _ _ _ _ r0
  have q1 : W0.frozen? ⟨w.heap.size, 1, none⟩ = false := frozen_of_row _ _ _ _ _ r0
  have q2 : W0.frozen? ⟨w.heap.size, 2, none⟩ = false := frozen_of_row _ _ _ _ _ r0
  have HE := Lib.hid (map_ends r0 hB0 (Nat.le_refl _))
  clear r0 hB0
  go_enter Tryz.func34, Tryz.ntmps34
  go_upto_region 1 with fail
  try rw [hW0]
  clear hW0
  go_wp2
  exact bodyPost_ret (v := .tuple #[.agg #[.int .i64 0, .int .i64 0, .slice none 0 0], .int .i64 28]) (results_row_tmp Tryz.results34 _ _ w.heap.size 66 _ (0, 0) _ rfl (HE.out _ _ _).1 Tryz.underlying66 rfl (by kernel_rfl)) rfl (UnRes.bad (by decide) (HE.out _ _ _).2)

set_option maxRecDepth 100000 in
set_option maxHeartbeats 3200000 in
/-- Bytes that do not begin as a stream does, or end behind it. -/
theorem refUnpack_head (S : List Int) (W H : Int) (L : List Int) (r : Int) (b q n cp : Nat) (hS : BytesV S n) (h4 : 4 ≤ n) (hn : n ≤ 400) (hcp : n ≤ cp) (hcq : cp ≤ 9223372036854775807) (w : World) (hb : b < w.heap.size) (hr : w.rangeAt b q (S.map (Value.int .u8)))
    (hw : (S.take 4 ≠ magicL ∧ r = 1) ∨ (S.take 4 = magicL ∧ n < 6 ∧ r = 28)) :
    Calls Tryz.prog 34 #[.slice (some ⟨b, q, none⟩) n cp] w (UnRes w r W H L) := by
  have i1 : ¬ ((400000 : Int) < (n : Int)) := by omega
  have i2 : ¬ ((n : Int) < 4) := by omega
  have i3 : (4 : Int) ≤ (n : Int) := by omega
  have i4 : (4 : Int) ≤ (cp : Int) := by omega
  have i5 : (cp : Int) ≤ 9223372036854775807 := by omega
  have i6 : 4 ≤ cp := by omega
  obtain ⟨W0, hW0⟩ : ∃ W0, w.alloc (.cells #[.int .i64 0, .int .i64 0, .slice none 0 0] 66) = W0 := ⟨_, rfl⟩
  have hB0 : Below w.heap.size w W0 := by rw [← hW0]; exact (Below.refl _ w).alloc (Nat.le_refl _) _
  have r0 := zm_facts w
  rw [hW0] at r0
  obtain ⟨c0, c1, c2⟩ := row_cells r0
  have q0 : W0.frozen? ⟨w.heap.size, 0, none⟩ = false := frozen_of_row _ _ _ _ _ r0
  have q1 : W0.frozen? ⟨w.heap.size, 1, none⟩ = false := frozen_of_row _ _ _ _ _ r0
  have q2 : W0.frozen? ⟨w.heap.size, 2, none⟩ = false := frozen_of_row _ _ _ _ _ r0
  have HE := Lib.hid (map_ends r0 hB0 (Nat.le_refl _))
  have hr0 := range_take 4 (range_below hr hB0 hb)
  have hl4 : (S.take 4).length = 4 := by rw [List.length_take, hS.1]; omega
  have kc := run_convert_bytes_arg (P := Tryz.prog) W0 45 5 Tryz.underlying45 Tryz.underlying5 b q 4 cp (S.take 4) hl4 (fun i hi => range_cells hr0 i (by rw [hl4]; exact hi)) 9 Tryz.underlying9
  have e1 := magic_str hS.2
  obtain ⟨s, hs⟩ : ∃ s, strOfNums (S.take 4) = s := ⟨_, rfl⟩
  rw [hs] at kc e1
  have HW := Lib.hid hw
  clear r0 hB0 hr hr0 hl4 hs hS hw
  rcases HW.out with ⟨h1, h2⟩ | ⟨h1, h5, h2⟩
  · rw [decide_eq_false h1] at e1
    have H2 := Lib.hid h2
    subst h2
    clear h1 HW
    go_enter Tryz.func34, Tryz.ntmps34
    go_upto_region 1 with fail
    try rw [hW0]
    clear hW0
    go_wp2
    exact bodyPost_ret (v := .tuple #[.agg #[.int .i64 0, .int .i64 0, .slice none 0 0], .int .i64 1]) (results_row_tmp Tryz.results34 _ _ w.heap.size 66 _ (0, 0) _ rfl (HE.out _ _ _).1 Tryz.underlying66 rfl (by kernel_rfl)) rfl (UnRes.bad (by decide) (HE.out _ _ _).2)
  · rw [decide_eq_true h1] at e1
    subst h2
    have h6 : (n : Int) < 6 := by omega
    clear h1 HW h5
    go_enter Tryz.func34, Tryz.ntmps34
    go_upto_region 1 with fail
    try rw [hW0]
    clear hW0
    go_wp2
    exact bodyPost_ret (v := .tuple #[.agg #[.int .i64 0, .int .i64 0, .slice none 0 0], .int .i64 28]) (results_row_tmp Tryz.results34 _ _ w.heap.size 66 _ (0, 0) _ rfl (HE.out _ _ _).1 Tryz.underlying66 rfl (by kernel_rfl)) rfl (UnRes.bad (by decide) (HE.out _ _ _).2)
end Go.Proofs.YthmaoeajbmfmaaaGreatDoor
