/-
  Bytes are equal to themselves; the contract of Decode for the frame of a telegram whose numbers are in their ranges.
-/
import Derived.Test.YtfpagmalblmnkaaGreatDoorEWr
import Derived.Stop.BytesEq
import Derived.Deep.MidRow
import Derived.Laws.CopyRow
import Derived.Test.YtfpagmalblmnkaaGreatDoorEWi
namespace Go.Proofs.YtfpagmalblmnkaaGreatDoor
open Go.RowKit
set_option linter.unusedVariables false

section
variable {P : Program} (w : World)
theorem run_equalIn_same (d : Nat) (t e : TypeId) (n : Nat) (ht : P.underlying t = some (.array n e)) (he : P.underlying e = some (.int .u8)) (hsz : ∀ w, (sizeOf e).run P w = .ok 1 w) (xs : List Int) (hx : xs.length = n) :
    (Op.equalIn (d + 2) t (.agg (xs.map (Value.int .u8)).toArray) (.agg (xs.map (Value.int .u8)).toArray)).run P w = .ok true w := by
  rw [Op.equalIn]
  simp only [Sem.run_bind, run_underlying ht, Result.andThen_ok, hsz, Std.Legacy.Range.forIn_eq_forIn_range', Std.Legacy.Range.size, Nat.sub_zero, Nat.add_sub_cancel, Nat.div_one]
  have hl : ∀ i ∈ List.range' 0 n 1, i < n := fun i hi => by simpa using (List.mem_range'_1.1 hi).2
  generalize List.range' 0 n 1 = l at hl ⊢
  induction l with
  | nil => simp
  | cons i l ih =>
    have hi : i < n := hl i (by simp)
    have px : (part e (xs.map (Value.int .u8)).toArray (i * 1)).run P w = .ok (Value.int .u8 (xs[i]?.getD 0)) w := by
      simp [part, isAgg, run_underlying he, List.getElem?_eq_getElem (show i < xs.length by omega)]
    have pe : (Op.equalIn (d + 1) e (Value.int .u8 (xs[i]?.getD 0)) (Value.int .u8 (xs[i]?.getD 0))).run P w = .ok true w := by
      rw [run_equalIn_int w d e .u8 .u8 _ _ he]
      simp
    simp only [List.forIn_cons, Sem.run_bind, px, pe, Result.andThen_ok]
    simp only [Bool.not_true, Bool.false_eq_true, if_false, Sem.run_pure, Result.andThen_ok]
    exact ih fun j hj => hl j (by simp [hj])
theorem rangeAt_below' (w w' : World) (B b : Nat) (cs : List Value) (h : w.rangeAt b 0 cs) (hb : Below B w w') (hB : b < B) : w'.rangeAt b 0 cs := fun j v hv => by rw [hb.cell hB]; exact h j v hv
theorem run_neq_same (t e : TypeId) (n : Nat) (ht : P.underlying t = some (.array n e)) (he : P.underlying e = some (.int .u8)) (hsz : ∀ w, (sizeOf e).run P w = .ok 1 w) (xs : List Int) (hx : xs.length = n) :
    (binOp .neq t (.agg (xs.map (Value.int .u8)).toArray) (.agg (xs.map (Value.int .u8)).toArray)).run P w = .ok (.bool false) w := by
  rw [run_neq_struct, run_equalIn_same w 9998 t e n ht he hsz xs hx]
  rfl
end

set_option maxRecDepth 100000 in
set_option maxHeartbeats 3200000 in
theorem decode_any (s c o x y z : Int) (h : GoodT s c o x y z) (w : World) :
    Calls Tryz.prog 33 #[.agg ((frame s c o x y z).map (Value.int .u8)).toArray] w fun e w' =>
      e = .returned (.tuple #[.agg #[.int .i64 s, .int .i64 c, .int .i64 o, .int .i64 x, .int .i64 y, .int .i64 z], .int .i64 0]) ∧ Below w.heap.size w w' := by
  have K1 := Lib.hid (telegramOf_any s c o x y z h)
  have K2 := Lib.hid (frameOf_any s c o x y z h)
  have K3 := Lib.hid (checkTelegram_any s c o x y z h)
  clear h
  obtain ⟨V, hV⟩ : ∃ V, ((frame s c o x y z).map (Value.int .u8)) = V := ⟨_, rfl⟩
  have V24 : V.length = 24 := by rw [← hV]; simp [frame_len]
  have V0 : V[0]? = some (.int .u8 77) := by rw [← hV]; rfl
  have V0' : ∀ (h : 0 < V.length), V[0]'h = .int .u8 77 := fun h => by rw [List.getElem?_eq_getElem h] at V0; exact Option.some.inj V0
  have hne : ∀ w, (binOp .neq 80 (.agg V.toArray) (.agg V.toArray)).run Tryz.prog w = .ok (.bool false) w := fun w => by
    rw [← hV]
    exact run_neq_same w _ _ 24 Tryz.underlying80 Tryz.underlying5 (fun _ => by kernel_rfl) _ (frame_len ..)
  rw [hV] at K1 K2 ⊢
  clear hV
  have hi36 : (Tryz.prog.info? 80).map (·.size) = some V.length := by rw [size24, V24]
  have r0 : ((w.alloc (.cells V.toArray 80)).alloc (.cells #[.int .i64 0, .int .i64 0, .int .i64 0, .int .i64 0, .int .i64 0, .int .i64 0] 79)).heap[w.heap.size]? = some (.cells V.toArray 80 (0, 0)) := by
    rw [Below.heap_alloc _ _ _ (by simp)]
    exact heap_alloc_new w _
  have r2 : ((w.alloc (.cells V.toArray 80)).alloc (.cells #[.int .i64 0, .int .i64 0, .int .i64 0, .int .i64 0, .int .i64 0, .int .i64 0] 79)).heap[w.heap.size + 1]? = some (.cells #[.int .i64 0, .int .i64 0, .int .i64 0, .int .i64 0, .int .i64 0, .int .i64 0] 79 (0, 0)) := heap_alloc2_new w _ _
  have R0 := Lib.hid r0
  have R2 := Lib.hid r2
  clear r0 r2 V0
  go_enter Tryz.func33, Tryz.ntmps33
  go_wp2_with (first
    | (refine wpList_load_row rfl 80 (.tmp 1) rfl w.heap.size rfl 80 _ (0, 0) _ R0.out Tryz.underlying80 rfl ?i1 ?_)
    | (go_at_call 98; refine (K1.out _).mono ?_; rintro e w1 ⟨rfl, hb1⟩))
  case i1 => rw [hi36]; simp
  obtain ⟨W2, hW2⟩ : ∃ W2, w1.alloc (.cells #[.int .i64 s, .int .i64 c, .int .i64 o, .int .i64 x, .int .i64 y, .int .i64 z] 79) = W2 := ⟨_, rfl⟩
  have hs1 : w.heap.size + 2 ≤ w1.heap.size := by have := hb1.size; simpa using this
  have z2 : W2.heap.size = w1.heap.size + 1 := by rw [← hW2]; simp
  have b0 : W2.cell? ⟨w1.heap.size, 0, none⟩ = some (.int .i64 s) := by rw [← hW2]; simp [go_sem]
  have b1 : W2.cell? ⟨w1.heap.size, 1, none⟩ = some (.int .i64 c) := by rw [← hW2]; simp [go_sem]
  have b2 : W2.cell? ⟨w1.heap.size, 2, none⟩ = some (.int .i64 o) := by rw [← hW2]; simp [go_sem]
  have b3 : W2.cell? ⟨w1.heap.size, 3, none⟩ = some (.int .i64 x) := by rw [← hW2]; simp [go_sem]
  have b4 : W2.cell? ⟨w1.heap.size, 4, none⟩ = some (.int .i64 y) := by rw [← hW2]; simp [go_sem]
  have b5 : W2.cell? ⟨w1.heap.size, 5, none⟩ = some (.int .i64 z) := by rw [← hW2]; simp [go_sem]
  have hB2 : Below w.heap.size w W2 := by
    rw [← hW2]
    exact ((((Below.refl _ w).alloc (Nat.le_refl _) _).alloc (by simp) _).trans (hb1.mono (by simp; omega))).alloc (by omega) _
  have q0 : W2.heap[w.heap.size]? = some (.cells V.toArray 80 (0, 0)) := by
    rw [← hW2, Below.heap_alloc _ _ _ (by omega), hb1.block _ (by simp; omega)]; exact R0.out
  have q2 : W2.heap[w.heap.size + 1]? = some (.cells #[.int .i64 0, .int .i64 0, .int .i64 0, .int .i64 0, .int .i64 0, .int .i64 0] 79 (0, 0)) := by
    rw [← hW2, Below.heap_alloc _ _ _ (by omega), hb1.block _ (by simp)]; exact R2.out
  have hr0 : W2.rangeAt w.heap.size 0 V := fun j v hv => by
    rw [cell_of_row W2 w.heap.size (0 + j) _ _ (0, 0) q0]
    simpa using hv
  have U := Tryz.underlying80
  have Q2 := Lib.hid q2
  have HB2 := Lib.hid hB2
  rw [hW2]
  clear hW2 q0 q2 hB2 hb1 R0 R2 K1
  go_region_held3 (fun w' => w'.rangeAt w.heap.size 0 V ∧ w'.cell? ⟨w1.heap.size, 0, none⟩ = some (.int .i64 s) ∧ w'.cell? ⟨w1.heap.size, 1, none⟩ = some (.int .i64 c) ∧ w'.cell? ⟨w1.heap.size, 2, none⟩ = some (.int .i64 o) ∧ w'.cell? ⟨w1.heap.size, 3, none⟩ = some (.int .i64 x) ∧ w'.cell? ⟨w1.heap.size, 4, none⟩ = some (.int .i64 y) ∧ w'.cell? ⟨w1.heap.size, 5, none⟩ = some (.int .i64 z))
    (first | go_keep | (go_split_ands; refine ⟨?_, ?_, ?_, ?_, ?_, ?_, ?_⟩ <;> first | (rw [hb2.cell (by simp; omega)]; assumption) | (refine rangeAt_below' _ _ _ _ _ ?_ hb2 ?_ <;> first | assumption | (simp; try omega))))
    ((go_at_call 97; refine (K2.out _).mono ?_; rintro e w2 ⟨rfl, hb2⟩))
  have hs2 : W2.heap.size ≤ w2.heap.size := by have := hb2.size; simpa using this
  have d0 : w2.cell? ⟨w1.heap.size, 0, none⟩ = some (.int .i64 s) := by rw [hb2.cell (by simp; omega)]; assumption
  have d1 : w2.cell? ⟨w1.heap.size, 1, none⟩ = some (.int .i64 c) := by rw [hb2.cell (by simp; omega)]; assumption
  have d2 : w2.cell? ⟨w1.heap.size, 2, none⟩ = some (.int .i64 o) := by rw [hb2.cell (by simp; omega)]; assumption
  have d3 : w2.cell? ⟨w1.heap.size, 3, none⟩ = some (.int .i64 x) := by rw [hb2.cell (by simp; omega)]; assumption
  have d4 : w2.cell? ⟨w1.heap.size, 4, none⟩ = some (.int .i64 y) := by rw [hb2.cell (by simp; omega)]; assumption
  have d5 : w2.cell? ⟨w1.heap.size, 5, none⟩ = some (.int .i64 z) := by rw [hb2.cell (by simp; omega)]; assumption
  have HB3 := Lib.hid (HB2.out.drew.trans (hb2.mono (by simpa using HB2.out.size)))
  have Q3 := Lib.hid ((hb2.block _ (by simp; omega)).trans Q2.out)
  clear hb2 K2 hne U hr0 b0 b1 b2 b3 b4 b5
  go_wp2_with (first
    | (refine wpList_store_row rfl 79 (.tmp 2) (.tmp 23) rfl (w.heap.size + 1) rfl _ rfl 79 _ Q4.out ?i2 ?i3 ?i4 ?_)
    | ((go_at_call 96; refine (K3.out _).mono ?_; rintro e w3 ⟨rfl, hb3⟩
        have e0 : w3.cell? ⟨w1.heap.size, 0, none⟩ = some (.int .i64 s) := by rw [hb3.cell (by simp; omega)]; assumption
        have e1 : w3.cell? ⟨w1.heap.size, 1, none⟩ = some (.int .i64 c) := by rw [hb3.cell (by simp; omega)]; assumption
        have e2 : w3.cell? ⟨w1.heap.size, 2, none⟩ = some (.int .i64 o) := by rw [hb3.cell (by simp; omega)]; assumption
        have e3 : w3.cell? ⟨w1.heap.size, 3, none⟩ = some (.int .i64 x) := by rw [hb3.cell (by simp; omega)]; assumption
        have e4 : w3.cell? ⟨w1.heap.size, 4, none⟩ = some (.int .i64 y) := by rw [hb3.cell (by simp; omega)]; assumption
        have e5 : w3.cell? ⟨w1.heap.size, 5, none⟩ = some (.int .i64 z) := by rw [hb3.cell (by simp; omega)]; assumption
        have HB4 := Lib.hid (HB3.out.trans (hb3.mono HB3.out.size))
        have Q4 := Lib.hid ((hb3.block _ (by omega)).trans Q3.out)
        clear hb3 d0 d1 d2 d3 d4 d5)))
  case i2 => rfl
  case i3 => kernel_rfl
  case i4 => exact ⟨rfl, rfl, rfl, rfl, rfl, rfl⟩
  go_wp2
  refine bodyPost_ret (results_row_tmp Tryz.results33 _ _ (w.heap.size + 1) 79 _ (0, 0) _ rfl (setRow_heap w3 _ _ _ _ _ Q4.out) Tryz.underlying79 rfl (by kernel_rfl)) rfl ⟨rfl, ?_⟩
  exact HB4.out.trans ((OnlyBlk.setRow w3 (w.heap.size + 1) _).below HB4.out.size (by omega))
end Go.Proofs.YtfpagmalblmnkaaGreatDoor

/-
  Contract of telegramAt where the stream holds, at the given place, the frame of a telegram whose numbers are in their ranges.
-/
namespace Go.Proofs.YtfpagmalblmnkaaGreatDoor
open Go.RowKit
set_option linter.unusedVariables false

set_option maxRecDepth 100000 in
set_option maxHeartbeats 3200000 in
theorem telegramAt_any (s c o x y z : Int) (h : GoodT s c o x y z) (b q n cp : Nat) (k : Nat) (hk : k + 24 ≤ n) (hn : n ≤ 12288) (hcp : n ≤ cp) (hcq : cp ≤ 9223372036854775807) (w : World) (hb : b < w.heap.size)
    (hc : w.rangeAt b (q + k) ((frame s c o x y z).map (Value.int .u8))) :
    Calls Tryz.prog 99 #[.slice (some ⟨b, q, none⟩) n cp, .int .i64 k] w fun e w' =>
      e = .returned (.tuple #[.agg #[.int .i64 s, .int .i64 c, .int .i64 o, .int .i64 x, .int .i64 y, .int .i64 z], .bool true]) ∧ Below w.heap.size w w' := by
  have K1 := Lib.hid (decode_any s c o x y z h)
  clear h
  obtain ⟨V, hV⟩ : ∃ V, ((frame s c o x y z).map (Value.int .u8)) = V := ⟨_, rfl⟩
  have V24 : V.length = 24 := by rw [← hV]; simp [frame_len]
  have V1 : ∀ v ∈ V, v.oneCell' = true := by
    rw [← hV]; intro v hv
    obtain ⟨u, _, rfl⟩ := List.mem_map.1 hv
    rfl
  rw [hV] at K1 hc
  have HC := Lib.hid hc
  clear hV hc
  have i1 : ((k : Int) + 24 ≤ (n : Int)) := by omega
  have i2 : ((n : Int) ≤ (cp : Int)) := by omega
  have i3 : ((n : Int) ≤ 12288) := by omega
  have i4 : ((k : Int) ≤ (n : Int)) := by omega
  have i5 : k ≤ n := by omega
  have i6 : (0 : Int) ≤ (k : Int) := by omega
  have i7 : ((k : Int) ≤ (cp : Int)) := by omega
  go_enter Tryz.func99, Tryz.ntmps99
  go_wp2_with fail
  obtain ⟨W2, hW2⟩ : ∃ W2, ((w.alloc (.cells #[.int .i64 0, .int .i64 0, .int .i64 0, .int .i64 0, .int .i64 0, .int .i64 0] 79)).alloc (.cells ((List.replicate 24 (Value.int .u8 0)).toArray) 80)) = W2 := ⟨_, rfl⟩
  have z2 : W2.heap.size = w.heap.size + 2 := by rw [← hW2]; simp
  have hB2 : Below w.heap.size w W2 := by rw [← hW2]; exact (((Below.refl _ w).alloc (Nat.le_refl _) _).alloc (by simp) _)
  have r0 : W2.heap[w.heap.size]? = some (.cells #[.int .i64 0, .int .i64 0, .int .i64 0, .int .i64 0, .int .i64 0, .int .i64 0] 79 (0, 0)) := by
    rw [← hW2, Below.heap_alloc _ _ _ (by simp)]
    exact heap_alloc_new w _
  have r1 : W2.heap[w.heap.size + 1]? = some (.cells ((List.replicate 24 (Value.int .u8 0)).toArray) 80 (0, 0)) := by
    rw [← hW2]
    exact heap_alloc2_new w _ _
  simp only [List.replicate] at hW2
  rw [hW2]
  clear hW2
  obtain ⟨W3, hW3⟩ : ∃ W3, W2.drew = W3 := ⟨_, rfl⟩
  have hcp' : (Builtin.copy_ #[71, 71] 3 #[.slice (some ⟨w.heap.size + 1, 0, none⟩) 24 24, .slice (some ⟨b, q + k, none⟩) (n - k) (cp - k)]).run Tryz.prog W2.drew = .ok (goInt 24) (W2.drew.setRow (w.heap.size + 1) V.toArray) := by
    have e := run_copy_row (P := Tryz.prog) W2.drew 71 71 3 5 (w.heap.size + 1) 0 24 24 ⟨b, q + k, none⟩ (n - k) (cp - k) _ 80 V Tryz.underlying71 (by kernel_rfl) (show W2.drew.heap[w.heap.size + 1]? = _ from r1)
      (by rw [V24]; show 24 = Nat.min (n - k) 24; simp only [Nat.min_def]; split <;> omega)
      (fun j v hv => by rw [Addr.add_mid]; exact (hB2.cell (w' := W2) hb).trans (HC.out j v hv)) (by simp [V24]) V1
    rw [V24] at e
    simpa [V24] using e
  refine wp_region_still_tail 4 (by kernel_rfl) (by kernel_rfl) ?_
  simp only [List.take_succ_cons, List.take_zero, List.drop_succ_cons, List.drop_zero]
  change wpStill _ _ W2.drew (fun a' => wpList _ _ _ _ a' W2.drew) _ _
  rw [hW3] at hcp' ⊢
  have HW3 := Lib.hid hW3
  have R0 := Lib.hid r0
  have R1 := Lib.hid r1
  have HB2 := Lib.hid hB2
  clear hW3 r0 r1 hB2
  repeat still_step
  refine wpStill_nil ?_
  have R3 := Lib.hid (setRow_heap W3 (w.heap.size + 1) _ V.toArray _ _ (by rw [← HW3.out]; exact R1.out : W3.heap[w.heap.size + 1]? = _))
  have Q3 : Hid ((W3.setRow (w.heap.size + 1) V.toArray).heap[w.heap.size]? = some (.cells #[.int .i64 0, .int .i64 0, .int .i64 0, .int .i64 0, .int .i64 0, .int .i64 0] 79 (0, 0))) := Lib.hid (by
    rw [setRow_other W3 _ _ _ (by omega), ← HW3.out]; exact R0.out)
  have HB3 : Hid (Below w.heap.size w (W3.setRow (w.heap.size + 1) V.toArray)) := Lib.hid (by
    have e : Below w.heap.size w W3 := by rw [← HW3.out]; exact HB2.out.drew
    exact e.trans ((OnlyBlk.setRow W3 (w.heap.size + 1) _).below e.size (by omega)))
  have Z3 : w.heap.size + 2 ≤ (W3.setRow (w.heap.size + 1) V.toArray).heap.size := by rw [← HW3.out]; simp [z2]
  have hi36 : (Tryz.prog.info? 80).map (·.size) = some V.toArray.size := by rw [size24]; simp [V24]
  obtain ⟨W4, hW4⟩ : ∃ W4, W3.setRow (w.heap.size + 1) V.toArray = W4 := ⟨_, rfl⟩
  rw [hW4] at hcp' R3 Q3 HB3 Z3
  clear hW4 z2
  go_wp2_with (first
    | (refine wpList_load_row rfl 80 (.tmp 6) rfl (w.heap.size + 1) rfl 80 _ (0, 0) _ R3.out Tryz.underlying80 rfl hi36 ?_)
    | (refine wpList_store_row rfl 79 (.tmp 4) (.tmp 25) rfl w.heap.size rfl _ rfl 79 _ Q4.out ?i2 ?i3 ?i4 ?_)
    | ((go_at_call 33; refine (K1.out _).mono ?_; rintro e w4 ⟨rfl, hb4⟩
        have hs4 := hb4.size
        have Q4 : Hid ((w4.alloc (.cells #[.int .i64 s, .int .i64 c, .int .i64 o, .int .i64 x, .int .i64 y, .int .i64 z] 79)).heap[w.heap.size]? = some (.cells #[.int .i64 0, .int .i64 0, .int .i64 0, .int .i64 0, .int .i64 0, .int .i64 0] 79 (0, 0))) := Lib.hid (by
          rw [Below.heap_alloc _ _ _ (by omega), hb4.block _ (by omega)]; exact Q3.out)
        have HB4 := Lib.hid ((HB3.out.trans (hb4.mono (by omega))).alloc (by omega) (.cells #[.int .i64 s, .int .i64 c, .int .i64 o, .int .i64 x, .int .i64 y, .int .i64 z] 79))
        clear hb4)))
  case i2 => rfl
  case i3 => kernel_rfl
  case i4 => exact ⟨rfl, rfl, rfl, rfl, rfl, rfl⟩
  go_wp2
  refine bodyPost_ret (results_row_tmp Tryz.results99 _ _ w.heap.size 79 _ (0, 0) _ rfl (setRow_heap _ _ _ _ _ _ Q4.out) Tryz.underlying79 rfl (by kernel_rfl)) rfl ⟨rfl, ?_⟩
  exact HB4.out.trans ((OnlyBlk.setRow _ w.heap.size _).below HB4.out.size (by omega))
end Go.Proofs.YtfpagmalblmnkaaGreatDoor

/-
  Telegrams; the contract of Received for a stream of frames of telegrams whose numbers are in their ranges: these telegrams, nothing skipped, no error.
-/
namespace Go.Proofs.YtfpagmalblmnkaaGreatDoor
open Go.RowKit
set_option linter.unusedVariables false

/-- A telegram's numbers. -/
structure Tel where
  s : Int
  c : Int
  o : Int
  x : Int
  y : Int
  z : Int
def Tel.Good (t : Tel) : Prop := GoodT t.s t.c t.o t.x t.y t.z
def Tel.val (t : Tel) : List Value := [.int .i64 t.s, .int .i64 t.c, .int .i64 t.o, .int .i64 t.x, .int .i64 t.y, .int .i64 t.z]
def Tel.bytes (t : Tel) : List Value := (frame t.s t.c t.o t.x t.y t.z).map (Value.int .u8)
theorem Tel.val_len (t : Tel) : t.val.length = 6 := rfl
def tel0 : Tel := ⟨0, 0, 0, 0, 0, 0⟩

theorem owns_kept {w w' : World} {B T sz n N : Nat} {v : Value} {xs : List Value} (h : w.ownsRow B T sz v n xs) (hb : Below N w w') (hN : w.heap.size ≤ N) : w'.ownsRow B T sz v n xs := by
  refine ⟨h.1, ?_⟩
  rcases h.2 with h | ⟨g, cap, cur, h1, h2, h3, h4⟩
  · exact .inl h
  · exact .inr ⟨g, cap, cur, h1, h2, (hb.block g (by have := (Array.getElem?_eq_some_iff.1 h3).1; omega)).trans h3, h4⟩

theorem flat_take_succ (L : List Tel) (k : Nat) (hk : k < L.length) : (L.take (k + 1)).flatMap Tel.val = (L.take k).flatMap Tel.val ++ (L[k]?.getD tel0).val := by
  rw [List.take_succ_eq_append_getElem hk, List.flatMap_append, List.getElem?_eq_getElem hk]; simp

theorem Tryz.infoTel : (Tryz.prog.info? 79).map (fun i => (i.zero, i.size, i.bytes)) = some (some (.agg #[.int .i64 0, .int .i64 0, .int .i64 0, .int .i64 0, .int .i64 0, .int .i64 0]), 6, 48) := by kernel_rfl

theorem cells_new6 (w : World) (T : TypeId) (a b c d e f : Value) : ∀ j u, [a, b, c, d, e, f][j]? = some u → (w.alloc (.cells #[a, b, c, d, e, f] T)).cell? ((⟨w.heap.size, 0, none⟩ : Addr).add j) = some u := fun j u h => by
  rw [Addr.add_mid, cell_of_row _ w.heap.size (0 + j) _ _ (0, 0) (heap_alloc_new w _)]
  simpa using h

theorem cells_new6' (w : World) (o : Obj) (T : TypeId) (a b c d e f : Value) : ∀ j u, [a, b, c, d, e, f][j]? = some u → ((w.alloc o).alloc (.cells #[a, b, c, d, e, f] T)).cell? ((⟨w.heap.size + 1, 0, none⟩ : Addr).add j) = some u := fun j u h => by
  have := cells_new6 (w.alloc o) T a b c d e f j u h
  simpa using this
theorem telegramAt_tel (t : Tel) (h : t.Good) (b q n cp k : Nat) (hk : k + 24 ≤ n) (hn : n ≤ 12288) (hcp : n ≤ cp) (hcq : cp ≤ 9223372036854775807) (w : World) (hb : b < w.heap.size) (hc : w.rangeAt b (q + k) t.bytes) :
    Calls Tryz.prog 99 #[.slice (some ⟨b, q, none⟩) n cp, .int .i64 k] w fun e w' =>
      e = .returned (.tuple #[.agg #[.int .i64 t.s, .int .i64 t.c, .int .i64 t.o, .int .i64 t.x, .int .i64 t.y, .int .i64 t.z], .bool true]) ∧ Below w.heap.size w w' := by
  unfold Tel.bytes at hc
  exact telegramAt_any _ _ _ _ _ _ h b q n cp k hk hn hcp hcq w hb hc

set_option maxRecDepth 100000 in
set_option maxHeartbeats 3200000 in
theorem received_any (L : List Tel) (hg : ∀ t ∈ L, t.Good) (b q n cp : Nat) (hn : n = 24 * L.length) (hm : n ≤ 12288) (hcp : n ≤ cp) (hcq : cp ≤ 9223372036854775807) (w : World) (hb : b < w.heap.size)
    (hc : ∀ k, k < L.length → w.rangeAt b (q + 24 * k) (L[k]?.getD tel0).bytes) :
    Calls Tryz.prog 34 #[.slice (some ⟨b, q, none⟩) n cp] w fun e w' =>
      ∃ v, e = .returned (.tuple #[v, .slice none 0 0, .int .i64 0]) ∧ w'.ownsRow w.heap.size 79 6 v L.length (L.flatMap Tel.val) ∧ Below w.heap.size w w' := by
  obtain ⟨i0, hi, hz0, hz1, hz2⟩ := info_parts Tryz.infoTel
  have HC := Lib.hid hc
  have HG := Lib.hid hg
  have i1 : ((n : Int) ≤ 12288) := by omega
  have HN := Lib.hid hn
  clear hc hg hn
  go_enter Tryz.func34, Tryz.ntmps34
  go_wp2
  go_loopw [5, 6, 7] (fun out sk i wr => ∃ k m : Nat, k ≤ L.length ∧ m = 24 * k ∧ i = .int .i64 m ∧ sk = .slice none 0 0 ∧ wr.ownsRow w.heap.size 79 6 out k ((L.take k).flatMap Tel.val) ∧ Below w.heap.size w wr)
    (fun _ _ i _ => n - (intOf i).toNat)
  case atStart => exact ⟨0, 0, Nat.zero_le _, rfl, rfl, rfl, World.ownsRow_nil _ _ _ _, Below.refl _ _⟩
  case round =>
    obtain ⟨k, m, hk, hmk, rfl, rfl, hown, hnx⟩ := hrel
    have hsz : w.heap.size ≤ wr.heap.size := hnx.size
    have hn := HN.out
    by_cases hlt : k < L.length
    · have hi1 : ((m : Int) < (n : Int)) := by omega
      have hi2 : ((m : Int) + 24 ≤ 12288) := by omega
      have hS := flat_take_succ L k hlt
      have hc0 := HC.out k hlt
      have hT : (L[k]?.getD tel0).Good := by
        rw [List.getElem?_eq_getElem hlt]; exact HG.out _ (List.getElem_mem hlt)
      obtain ⟨t, ht⟩ : ∃ t, L[k]?.getD tel0 = t := ⟨_, rfl⟩
      rw [ht] at hT hc0 hS
      have hr : wr.rangeAt b (q + m) t.bytes := fun j v hv => by
        rw [hnx.cell (by exact hb), hmk]
        exact hc0 j v hv
      have K := Lib.hid (telegramAt_tel t hT b q n cp m (by omega) hm hcp hcq wr (by omega) hr)
      have HS := Lib.hid hS
      have HMK := Lib.hid hmk
      have hkm : k ≤ 512 := by omega
      clear ht hr hc0 hS hmk hn
      clear hT
      go_wp2_with (first
        | (go_at_call 99; refine K.out.mono ?_; rintro e w2 ⟨rfl, hb2⟩
           have hown2 := owns_kept hown hb2 (Nat.le_refl _)
           have hs2 := hb2.size)
        | (at_builtin; refine wpList_append_own _ rfl (.tmp 24) (.tmp 26) 73 rfl w.heap.size 79 i0 (.agg #[.int .i64 0, .int .i64 0, .int .i64 0, .int .i64 0, .int .i64 0, .int .i64 0]) 6 48 Tryz.underlying73 hi hz0 hz1 hz2 rfl (by decide) _ k _ rfl ((hown2.alloc _).alloc _) ⟨w2.heap.size + 1, 0, none⟩ 1 1 t.val rfl rfl (cells_new6' _ _ _ _ _ _ _ _ _) (by intro u hu; simp [Tel.val] at hu; rcases hu with rfl | rfl | rfl | rfl | rfl | rfl <;> rfl) (by unfold maxLen; omega) (by omega) (by simp; omega) ?_; intro v' w3 hown3 hgrow3 _))
      have hlt' := hown2.lt
      have hB2 : Below w.heap.size w w2 := hnx.trans (hb2.mono hsz)
      go_roundw
      case rel => exact ⟨k + 1, m + 24, by omega, by have := HMK.out; omega, by go_num, rfl, by rw [HS.out]; exact hown3, ((hB2.alloc (by omega) _).alloc (by simp; omega) _).grown hgrow3 (by simp; omega) (fun j hj => (hlt' j hj).1)⟩
      case measure => simp [intOf]; omega
    · have hi3 : ¬ ((m : Int) < (n : Int)) := by omega
      clear hn hmk
      go_wp2
      obtain rfl : k = L.length := by omega
      rw [List.take_length] at hown
      refine bodyPost_ret (v := .tuple #[u5, .slice none 0 0, .int .i64 0]) (by simp [results, Tryz.results34, go_sem]) rfl ⟨_, rfl, hown, hnx⟩
end Go.Proofs.YtfpagmalblmnkaaGreatDoor

/-
  Contracts of countersOf and of mapped at telegrams.
-/
namespace Go.Proofs.YtfpagmalblmnkaaGreatDoor
open Go.RowKit
set_option linter.unusedVariables false

/-- These telegrams lie at an address. -/
def TelsAt (w : World) (b q : Nat) (L : List Tel) : Prop := ∀ k, k < L.length → w.rangeAt b (q + k * 6) (L[k]?.getD tel0).val
theorem TelsAt.kept {w w' : World} {b q B : Nat} {L : List Tel} (h : TelsAt w b q L) (hb : Below B w w') (hB : b < B) : TelsAt w' b q L := fun k hk j v hv => by
  rw [hb.cell (by exact hB)]; exact h k hk j v hv
/-- The counters of a station's telegrams. -/
def countsOf (L : List Tel) (st : Int) : List Int := (L.filter (fun t => t.s == st)).map (·.c)
theorem countsOf_succ (L : List Tel) (st : Int) (k : Nat) (hk : k < L.length) : countsOf (L.take (k + 1)) st = if (L[k]?.getD tel0).s = st then countsOf (L.take k) st ++ [(L[k]?.getD tel0).c] else countsOf (L.take k) st := by
  rw [List.take_succ_eq_append_getElem hk, List.getElem?_eq_getElem hk]
  simp only [countsOf, List.filter_append, List.map_append, Option.getD_some]
  split
  · rename_i h; simp [h]
  · rename_i h; simp [h]
theorem counts_len (L : List Tel) (st : Int) : (countsOf L st).length ≤ L.length := by
  simp only [countsOf, List.length_map]; exact List.length_filter_le _ _

set_option maxRecDepth 100000 in
set_option maxHeartbeats 3200000 in
theorem countersOf_any (L : List Tel) (b q n cp : Nat) (st : Int) (hn : n = L.length) (hm : n ≤ 512) (w : World) (hb : b < w.heap.size) (hc : TelsAt w b q L) :
    Calls Tryz.prog 103 #[.slice (some ⟨b, q, none⟩) n cp, .int .i64 st] w fun e w' =>
      ∃ v, e = .returned v ∧ w'.ownsRow w.heap.size 3 1 v (countsOf L st).length ((countsOf L st).map (Value.int .i64)) ∧ Below w.heap.size w w' := by
  obtain ⟨i0, hi, hz0, hz1, hz2⟩ := info_parts Tryz.infoInt
  have HC := Lib.hid hc
  have HN := Lib.hid hn
  clear hc hn
  have s35 : (Tryz.prog.info? 79).map (·.size) = some 6 := by kernel_rfl
  go_enter Tryz.func103, Tryz.ntmps103
  go_wp2
  go_loopw [5, 10] (fun out i wr => ∃ k : Nat, k ≤ n ∧ i = .int .i64 k ∧ wr.ownsRow w.heap.size 3 1 out (countsOf (L.take k) st).length ((countsOf (L.take k) st).map (Value.int .i64)) ∧ Below w.heap.size w wr)
    (fun _ i _ => n - (intOf i).toNat)
  case atStart => exact ⟨0, Nat.zero_le _, rfl, World.ownsRow_nil _ _ _ _, Below.refl _ _⟩
  case round =>
    obtain ⟨k, hk, rfl, hown, hnx⟩ := hrel
    have hsz : w.heap.size ≤ wr.heap.size := hnx.size
    by_cases hlt : k < n
    · have hT := HC.out k (by have := HN.out; omega)
      have hS := countsOf_succ L st k (by have := HN.out; omega)
      obtain ⟨t, ht⟩ : ∃ t, L[k]?.getD tel0 = t := ⟨_, rfl⟩
      rw [ht] at hT hS
      have hr : wr.rangeAt b (q + k * 6) t.val := fun j v hv => by
        rw [hnx.cell (by exact hb)]
        exact hT j v hv
      have HR := Lib.hid hr
      have HS := Lib.hid hS
      clear ht hr hT hS
      have hv : t.val = [.int .i64 t.s, .int .i64 t.c, .int .i64 t.o, .int .i64 t.x, .int .i64 t.y, .int .i64 t.z] := rfl
      have hcl := counts_len (L.take k) st
      have hcl2 : (L.take k).length ≤ k := by simp; omega
      by_cases hst : t.s = st
      · have HST := Lib.hid hst
        have hst1 : (t.s == st) = true := by simp [hst]
        clear hst
        go_wp2_with (first
          | (refine wpList_load_mid rfl 79 (.tmp 12) rfl b (q + k * 6) rfl t.val _ HR.out Tryz.underlying79 rfl (by rw [s35]; rfl) ?_)
          | (at_builtin; refine wpList_append_own _ rfl (.tmp 18) (.tmp 21) 91 rfl w.heap.size 3 i0 (.int .i64 0) 1 8 Tryz.underlying91 hi hz0 hz1 hz2 rfl (by decide) _ _ _ rfl ((hown.alloc _).alloc _) ⟨wr.heap.size + 1, 0, none⟩ 1 1 [.int .i64 t.c] rfl rfl (by have h := cell_one_new (wr.alloc (.cells #[.int .i64 t.s, .int .i64 t.c, .int .i64 t.o, .int .i64 t.x, .int .i64 t.y, .int .i64 t.z] 79)) (.int .i64 t.c) 3; simpa using h) (by intro u hu; simp at hu; subst hu; rfl) (by unfold maxLen; omega) (by omega) (by simp; omega) ?_; intro v' w3 hown3 hgrow3 _))
        have hlt' := hown.lt
        go_roundw
        case rel => exact ⟨k + 1, by omega, by go_num, by rw [HS.out, if_pos HST.out, List.map_append, List.length_append]; exact hown3, ((hnx.alloc hsz _).alloc (by simp; omega) _).grown hgrow3 (by simp; omega) (fun j hj => (hlt' j hj).1)⟩
        case measure => simp [intOf]; omega
      · go_wp2_with (first
          | (refine wpList_load_mid rfl 79 (.tmp 12) rfl b (q + k * 6) rfl t.val _ HR.out Tryz.underlying79 rfl (by rw [s35]; rfl) ?_))
        go_roundw
        case rel => exact ⟨k + 1, by omega, by go_num, by rw [HS.out, if_neg hst]; exact hown.alloc _, hnx.alloc hsz _⟩
        case measure => simp [intOf]; omega
    · go_wp2
      go_ret
      obtain rfl : k = n := by omega
      rw [List.take_of_length_le (by have := HN.out; omega)] at hown
      exact ⟨_, rfl, hown, hnx⟩
end Go.Proofs.YtfpagmalblmnkaaGreatDoor

/-
  Contract of mapped at telegrams, with the check of a telegram: of right telegrams, as many zeros.
-/
namespace Go.Proofs.YtfpagmalblmnkaaGreatDoor
open Go.RowKit
set_option linter.unusedVariables false

theorem checkTelegram_tel (t : Tel) (h : t.Good) (w : World) :
    Calls Tryz.prog 96 #[.agg #[.int .i64 t.s, .int .i64 t.c, .int .i64 t.o, .int .i64 t.x, .int .i64 t.y, .int .i64 t.z]] w fun e w' =>
      e = .returned (.int .i64 0) ∧ Below w.heap.size w w' := checkTelegram_any _ _ _ _ _ _ h w

set_option maxRecDepth 100000 in
set_option maxHeartbeats 3200000 in
theorem mapped_tel (L : List Tel) (hg : ∀ t ∈ L, t.Good) (b q n cp : Nat) (hn : n = L.length) (hm : n ≤ 512) (w : World) (hb : b < w.heap.size) (hc : TelsAt w b q L) :
    Calls Tryz.prog 149 #[.slice (some ⟨b, q, none⟩) n cp, .func (.func 96) #[] #[]] w fun e w' =>
      e = .returned (.slice (some ⟨w.heap.size, 0, none⟩) n n) ∧ w'.ownsRow w.heap.size 27 1 (.slice (some ⟨w.heap.size, 0, none⟩) n n) n (List.replicate n (Value.int .i64 0)) ∧ Below w.heap.size w w' := by
  obtain ⟨i0, hi, hz0, hz1, hz2⟩ := info_parts Tryz.info27_check
  have HC := Lib.hid hc
  have HN := Lib.hid hn
  have HG := Lib.hid hg
  clear hc hn hg
  have s35 : (Tryz.prog.info? 79).map (·.size) = some 6 := by kernel_rfl
  go_enter Tryz.func149, Tryz.ntmps149
  go_wp2_with (at_make; refine wpList_make_own _ rfl _ _ 102 rfl w.heap.size 27 i0 (.int .i64 0) 1 Tryz.underlying102 hi hz0 hz1 _ _ _ n rfl rfl (by omega) ?b2 ?b3 (Nat.le_refl _) ?_)
  case b2 => rw [hz2]; omega
  case b3 => unfold maxLen; omega
  intro w0 hown0 hgrow0
  go_wp2
  go_loopw [5, 13] (fun out i wr => ∃ k : Nat, k ≤ n ∧ i = .int .i64 k ∧ out = .slice (some ⟨w.heap.size, 0, none⟩) k n ∧
      wr.ownsRow w.heap.size 27 1 (.slice (some ⟨w.heap.size, 0, none⟩) k n) k (List.replicate k (Value.int .i64 0)) ∧ Below w.heap.size w wr)
    (fun _ i _ => n - (intOf i).toNat)
  case atStart => exact ⟨0, Nat.zero_le _, rfl, rfl, hown0, (Below.refl _ _).grown hgrow0 (Nat.le_refl _) (fun k h => by cases h)⟩
  case round =>
    obtain ⟨k, hk, rfl, rfl, hown, hnx⟩ := hrel
    have hsz := hnx.size
    by_cases hlt : k < n
    · have hlt2 : k < L.length := by have := HN.out; omega
      have hT := HC.out k hlt2
      have hG : (L[k]?.getD tel0).Good := by
        rw [List.getElem?_eq_getElem hlt2]; exact HG.out _ (List.getElem_mem hlt2)
      obtain ⟨t, ht⟩ : ∃ t, L[k]?.getD tel0 = t := ⟨_, rfl⟩
      rw [ht] at hT hG
      have hr : wr.rangeAt b (q + k * 6) t.val := fun j v hv => by
        rw [hnx.cell (by exact hb)]
        exact hT j v hv
      have HR := Lib.hid hr
      have K := Lib.hid (checkTelegram_tel t hG)
      clear ht hr hT hG hlt2
      have hv : t.val = [.int .i64 t.s, .int .i64 t.c, .int .i64 t.o, .int .i64 t.x, .int .i64 t.y, .int .i64 t.z] := rfl
      go_wp2_with (first
        | (refine wpList_load_mid rfl 79 (.tmp 15) rfl b (q + k * 6) rfl t.val _ HR.out Tryz.underlying79 rfl (by rw [s35]; rfl) ?_)
        | (go_at_call 96; refine (K.out _).mono ?_; rintro e w2 ⟨rfl, hb2⟩
           have hown2 := owns_kept (hown.alloc _) hb2 (Nat.le_refl _)
           have hs2 : wr.heap.size + 1 ≤ w2.heap.size := by simpa using hb2.size)
        | (at_builtin; refine wpList_append_fits _ rfl (.tmp 17) (.tmp 21) 102 rfl w.heap.size 27 i0 1 Tryz.underlying102 hi hz1 w.heap.size k n _ rfl (hown2.alloc _) ⟨w2.heap.size, 0, none⟩ 1 1 [.int .i64 0] rfl rfl (cell_one_new _ _ _) (by intro u hu; simp at hu; subst hu; rfl) (by omega) ?_; intro w1 hown1 hgrow1))
      have hB2 : Below w.heap.size w w2 := (hnx.alloc hsz _).trans (hb2.mono (by simp; omega))
      go_roundw
      case rel => exact ⟨k + 1, by omega, by go_num, rfl, by rw [List.replicate_succ']; exact hown1, (hB2.alloc (by omega) _).grown hgrow1 (by simp; omega) (fun j hj => by cases hj; exact Nat.le_refl _)⟩
      case measure => simp [intOf]; omega
    · go_wp2
      go_ret
      obtain rfl : k = n := by omega
      exact ⟨rfl, hown, hnx⟩
end Go.Proofs.YtfpagmalblmnkaaGreatDoor
