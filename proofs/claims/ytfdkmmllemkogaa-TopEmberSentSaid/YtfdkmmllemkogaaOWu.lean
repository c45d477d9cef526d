/-
  Contract of telegramAt where the stream holds, at the given place, the frame of a telegram whose numbers are in their ranges.
-/
import Derived.Test.YtfdkmmllemkogaaOWt
import Derived.Laws.CopyRow
namespace Go.Proofs.Ytfdkmmllemkogaa
open Go.RowKit
set_option linter.unusedVariables false

set_option maxRecDepth 100000 in
set_option maxHeartbeats 3200000 in
theorem telegramAt_any (s c o x y z : Int) (h : GoodT s c o x y z) (b q n cp : Nat) (k : Nat) (hk : k + 24 ≤ n) (hn : n ≤ 12288) (hcp : n ≤ cp) (hcq : cp ≤ 9223372036854775807) (w : World) (hb : b < w.heap.size)
    (hc : w.rangeAt b (q + k) ((frame s c o x y z).map (Value.int .u8))) :
    Calls Try.prog 24 #[.slice (some ⟨b, q, none⟩) n cp, .int .i64 k] w fun e w' =>
      e = .returned (.tuple #[.agg #[.int .i64 s, .int .i64 c, .int .i64 o, .int .i64 x, .int .i64 y, .int .i64 z], .bool true]) ∧ Below w.heap.size w w' := by
  have K1 := Lib.hid (decode_any s c o x y z h)
  clear h
  obtain ⟨V, hV⟩ : ∃ V, ((frame s c o x y z).map (Value.int .u8)) = V := ⟨_, rfl⟩
  have V24 : V.length = 24 := by rw [← hV]; simp [frame_len]
  have V1 : ∀ v ∈ V, v.oneCell' = true := by
    rw [← hV]; intro v hv
    obtain ⟨u, _, rfl⟩ := List.mem_map.1 hv
    rfl
  rw [hV] at K1 hc
  have HC := Lib.hid hc
  clear hV hc
  have i1 : ((k : Int) + 24 ≤ (n : Int)) := by omega
  have i2 : ((n : Int) ≤ (cp : Int)) := by omega
  have i3 : ((n : Int) ≤ 12288) := by omega
  have i4 : ((k : Int) ≤ (n : Int)) := by omega
  have i5 : k ≤ n := by omega
  have i6 : (0 : Int) ≤ (k : Int) := by omega
  have i7 : ((k : Int) ≤ (cp : Int)) := by omega
  go_enter Try.func24, Try.ntmps24
  go_wp2_with fail
  obtain ⟨W2, hW2⟩ : ∃ W2, ((w.alloc (.cells #[.int .i64 0, .int .i64 0, .int .i64 0, .int .i64 0, .int .i64 0, .int .i64 0] 35)).alloc (.cells ((List.replicate 24 (Value.int .u8 0)).toArray) 36)) = W2 := ⟨_, rfl⟩
  have z2 : W2.heap.size = w.heap.size + 2 := by rw [← hW2]; simp
  have hB2 : Below w.heap.size w W2 := by rw [← hW2]; exact (((Below.refl _ w).alloc (Nat.le_refl _) _).alloc (by simp) _)
  have r0 : W2.heap[w.heap.size]? = some (.cells #[.int .i64 0, .int .i64 0, .int .i64 0, .int .i64 0, .int .i64 0, .int .i64 0] 35 (0, 0)) := by
    rw [← hW2, Below.heap_alloc _ _ _ (by simp)]
    exact heap_alloc_new w _
  have r1 : W2.heap[w.heap.size + 1]? = some (.cells ((List.replicate 24 (Value.int .u8 0)).toArray) 36 (0, 0)) := by
    rw [← hW2]
    exact heap_alloc2_new w _ _
  simp only [List.replicate] at hW2
  rw [hW2]
  clear hW2
  obtain ⟨W3, hW3⟩ : ∃ W3, W2.drew = W3 := ⟨_, rfl⟩
  have hcp' : (Builtin.copy_ #[31, 31] 3 #[.slice (some ⟨w.heap.size + 1, 0, none⟩) 24 24, .slice (some ⟨b, q + k, none⟩) (n - k) (cp - k)]).run Try.prog W2.drew = .ok (goInt 24) (W2.drew.setRow (w.heap.size + 1) V.toArray) := by
    have e := run_copy_row (P := Try.prog) W2.drew 31 31 3 5 (w.heap.size + 1) 0 24 24 ⟨b, q + k, none⟩ (n - k) (cp - k) _ 36 V Try.underlying31 (by kernel_rfl) (show W2.drew.heap[w.heap.size + 1]? = _ from r1)
      (by rw [V24]; show 24 = Nat.min (n - k) 24; simp only [Nat.min_def]; split <;> omega)
      (fun j v hv => by rw [Addr.add_mid]; exact (hB2.cell (w' := W2) hb).trans (HC.out j v hv)) (by simp [V24]) V1
    rw [V24] at e
    simpa [V24] using e
  refine wp_region_still_tail 4 (by kernel_rfl) (by kernel_rfl) ?_
  simp only [List.take_succ_cons, List.take_zero, List.drop_succ_cons, List.drop_zero]
  change wpStill _ _ W2.drew (fun a' => wpList _ _ _ _ a' W2.drew) _ _
  rw [hW3] at hcp' ⊢
  have HW3 := Lib.hid hW3
  have R0 := Lib.hid r0
  have R1 := Lib.hid r1
  have HB2 := Lib.hid hB2
  clear hW3 r0 r1 hB2
  repeat still_step
  refine wpStill_nil ?_
  have R3 := Lib.hid (setRow_heap W3 (w.heap.size + 1) _ V.toArray _ _ (by rw [← HW3.out]; exact R1.out : W3.heap[w.heap.size + 1]? = _))
  have Q3 : Hid ((W3.setRow (w.heap.size + 1) V.toArray).heap[w.heap.size]? = some (.cells #[.int .i64 0, .int .i64 0, .int .i64 0, .int .i64 0, .int .i64 0, .int .i64 0] 35 (0, 0))) := Lib.hid (by
    rw [setRow_other W3 _ _ _ (by omega), ← HW3.out]; exact R0.out)
  have HB3 : Hid (Below w.heap.size w (W3.setRow (w.heap.size + 1) V.toArray)) := Lib.hid (by
    have e : Below w.heap.size w W3 := by rw [← HW3.out]; exact HB2.out.drew
    exact e.trans ((OnlyBlk.setRow W3 (w.heap.size + 1) _).below e.size (by omega)))
  have Z3 : w.heap.size + 2 ≤ (W3.setRow (w.heap.size + 1) V.toArray).heap.size := by rw [← HW3.out]; simp [z2]
  have hi36 : (Try.prog.info? 36).map (·.size) = some V.toArray.size := by rw [size24]; simp [V24]
  obtain ⟨W4, hW4⟩ : ∃ W4, W3.setRow (w.heap.size + 1) V.toArray = W4 := ⟨_, rfl⟩
  rw [hW4] at hcp' R3 Q3 HB3 Z3
  clear hW4 z2
  go_wp2_with (first
    | (refine wpList_load_row rfl 36 (.tmp 6) rfl (w.heap.size + 1) rfl 36 _ (0, 0) _ R3.out Try.underlying36 rfl hi36 ?_)
    | (refine wpList_store_row rfl 35 (.tmp 4) (.tmp 25) rfl w.heap.size rfl _ rfl 35 _ Q4.out ?i2 ?i3 ?i4 ?_)
    | ((go_at_call 50; refine (K1.out _).mono ?_; rintro e w4 ⟨rfl, hb4⟩
        have hs4 := hb4.size
        have Q4 : Hid ((w4.alloc (.cells #[.int .i64 s, .int .i64 c, .int .i64 o, .int .i64 x, .int .i64 y, .int .i64 z] 35)).heap[w.heap.size]? = some (.cells #[.int .i64 0, .int .i64 0, .int .i64 0, .int .i64 0, .int .i64 0, .int .i64 0] 35 (0, 0))) := Lib.hid (by
          rw [Below.heap_alloc _ _ _ (by omega), hb4.block _ (by omega)]; exact Q3.out)
        have HB4 := Lib.hid ((HB3.out.trans (hb4.mono (by omega))).alloc (by omega) (.cells #[.int .i64 s, .int .i64 c, .int .i64 o, .int .i64 x, .int .i64 y, .int .i64 z] 35))
        clear hb4)))
  case i2 => rfl
  case i3 => kernel_rfl
  case i4 => exact ⟨rfl, rfl, rfl, rfl, rfl, rfl⟩
  go_wp2
  refine bodyPost_ret (results_row_tmp Try.results24 _ _ w.heap.size 35 _ (0, 0) _ rfl (setRow_heap _ _ _ _ _ _ Q4.out) Try.underlying35 rfl (by kernel_rfl)) rfl ⟨rfl, ?_⟩
  exact HB4.out.trans ((OnlyBlk.setRow _ w.heap.size _).below HB4.out.size (by omega))
end Go.Proofs.Ytfdkmmllemkogaa
