/-
  Contract of Decode for any 24 bytes.
-/
import Derived.Test.YtfdkmmllemkogaaGreatDoorOHa
import Derived.Test.YtfdkmmllemkogaaGreatDoorOGa
import Derived.Deep.CutBlock
import Derived.Deep.DeepCutAuto
import Derived.Test.YtfdkmmllemkogaaGreatDoorOWs
import Derived.Test.YtfdkmmllemkogaaGreatDoorOKa
import Derived.Test.YtfdkmmllemkogaaGreatDoorOXi
import Derived.Test.YtfdkmmllemkogaaGreatDoorOWv
import Derived.Laws.StructEq
namespace Go.Proofs.YtfdkmmllemkogaaGreatDoor
open Go.RowKit
set_option linter.unusedVariables false
set_option linter.unusedSimpArgs false

section
variable {P : Program} (w : World)
theorem run_equalIn_bytes (d : Nat) (t e : TypeId) (n : Nat) (ht : P.underlying t = some (.array n e)) (he : P.underlying e = some (.int .u8)) (hsz : ∀ w, (sizeOf e).run P w = .ok 1 w) (xs ys : List Int) (hx : xs.length = n) (hy : ys.length = n) :
    (Op.equalIn (d + 2) t (.agg (xs.map (Value.int .u8)).toArray) (.agg (ys.map (Value.int .u8)).toArray)).run P w = .ok (decide (xs = ys)) w := by
  rw [Op.equalIn]
  simp only [Sem.run_bind, run_underlying ht, Result.andThen_ok, hsz, Std.Legacy.Range.forIn_eq_forIn_range', Std.Legacy.Range.size, Nat.sub_zero, Nat.add_sub_cancel, Nat.div_one]
  have hl : ∀ i ∈ List.range' 0 n 1, i < n := fun i hi => by simpa using (List.mem_range'_1.1 hi).2
  have hd : decide (xs = ys) = decide (∀ i ∈ List.range' 0 n 1, xs[i]?.getD 0 = ys[i]?.getD 0) := by
    refine decide_eq_decide.2 ⟨fun h i _ => by rw [h], fun h => ?_⟩
    refine List.ext_getElem (by omega) fun i h1 h2 => ?_
    have := h i (by rw [List.mem_range'_1]; omega)
    rw [List.getElem?_eq_getElem h1, List.getElem?_eq_getElem h2] at this
    exact this
  rw [hd]
  clear hd
  generalize List.range' 0 n 1 = l at hl ⊢
  induction l with
  | nil => simp
  | cons i l ih =>
    have hi : i < n := hl i (by simp)
    have px : (part e (xs.map (Value.int .u8)).toArray (i * 1)).run P w = .ok (Value.int .u8 (xs[i]?.getD 0)) w := by
      simp [part, isAgg, run_underlying he, List.getElem?_eq_getElem (show i < xs.length by omega)]
    have py : (part e (ys.map (Value.int .u8)).toArray (i * 1)).run P w = .ok (Value.int .u8 (ys[i]?.getD 0)) w := by
      simp [part, isAgg, run_underlying he, List.getElem?_eq_getElem (show i < ys.length by omega)]
    have pe : (Op.equalIn (d + 1) e (Value.int .u8 (xs[i]?.getD 0)) (Value.int .u8 (ys[i]?.getD 0))).run P w = .ok (xs[i]?.getD 0 == ys[i]?.getD 0) w := by
      rw [run_equalIn_int w d e .u8 .u8 _ _ he]
    simp only [List.forIn_cons, Sem.run_bind, px, py, pe, Result.andThen_ok]
    by_cases h : xs[i]?.getD 0 = ys[i]?.getD 0
    · have h2 : (xs[i]?.getD 0 == ys[i]?.getD 0) = true := by simp [h]
      simp only [h2, Bool.not_true, Bool.false_eq_true, if_false, Sem.run_pure, Result.andThen_ok]
      have e2 : (decide (∀ j ∈ i :: l, xs[j]?.getD 0 = ys[j]?.getD 0)) = decide (∀ j ∈ l, xs[j]?.getD 0 = ys[j]?.getD 0) := by
        refine decide_eq_decide.2 ⟨fun hh j hj => hh j (by simp [hj]), fun hh j hj => ?_⟩
        rcases List.mem_cons.1 hj with rfl | hj
        · exact h
        · exact hh j hj
      rw [e2]
      exact ih fun j hj => hl j (by simp [hj])
    · have h2 : (xs[i]?.getD 0 == ys[i]?.getD 0) = false := by simp [h]
      have e2 : (decide (∀ j ∈ i :: l, xs[j]?.getD 0 = ys[j]?.getD 0)) = false := decide_eq_false fun hh => h (hh i (by simp))
      rw [e2]
      simp [h2]
theorem run_neq_bytes (t e : TypeId) (n : Nat) (ht : P.underlying t = some (.array n e)) (he : P.underlying e = some (.int .u8)) (hsz : ∀ w, (sizeOf e).run P w = .ok 1 w) (xs ys : List Int) (hx : xs.length = n) (hy : ys.length = n) :
    (binOp .neq t (.agg (xs.map (Value.int .u8)).toArray) (.agg (ys.map (Value.int .u8)).toArray)).run P w = .ok (.bool (!decide (xs = ys))) w := by
  rw [run_neq_struct, run_equalIn_bytes w 9998 t e n ht he hsz xs ys hx hy]
  rfl
end

set_option maxRecDepth 100000 in
set_option maxHeartbeats 3200000 in
theorem decode_form (F : List Int) (hF : F.length = 24) (h0 : F[0]?.getD 0 ≠ 77) (w : World) :
    Calls Tryz.prog 75 #[.agg (F.map (Value.int .u8)).toArray] w fun e w' => e = .returned (.tuple #[.agg #[.int .i64 0, .int .i64 0, .int .i64 0, .int .i64 0, .int .i64 0, .int .i64 0], .int .i64 1]) ∧ Below w.heap.size w w' := by
  obtain ⟨V, hV⟩ : ∃ V, F.map (Value.int .u8) = V := ⟨_, rfl⟩
  obtain ⟨u, hu⟩ : ∃ u, F[0]?.getD 0 = u := ⟨_, rfl⟩
  have V0 : V[0]? = some (.int .u8 u) := by rw [← hV, List.getElem?_map, List.getElem?_eq_getElem (by omega), ← hu, List.getElem?_eq_getElem (by omega)]; rfl
  have V24 : V.length = 24 := by rw [← hV]; simp [hF]
  have e0 : (u != 77) = true := by rw [← hu]; simp [h0]
  rw [hV]
  have r0 : ((w.alloc (.cells V.toArray 108)).alloc (.cells #[.int .i64 0, .int .i64 0, .int .i64 0, .int .i64 0, .int .i64 0, .int .i64 0] 112)).heap[w.heap.size]? = some (.cells V.toArray 108 (0, 0)) := by
    rw [Below.heap_alloc _ _ _ (by simp)]
    exact heap_alloc_new w _
  have r2 : ((w.alloc (.cells V.toArray 108)).alloc (.cells #[.int .i64 0, .int .i64 0, .int .i64 0, .int .i64 0, .int .i64 0, .int .i64 0] 112)).heap[w.heap.size + 1]? = some (.cells #[.int .i64 0, .int .i64 0, .int .i64 0, .int .i64 0, .int .i64 0, .int .i64 0] 112 (0, 0)) := heap_alloc2_new w _ _
  have hc0 : ((w.alloc (.cells V.toArray 108)).alloc (.cells #[.int .i64 0, .int .i64 0, .int .i64 0, .int .i64 0, .int .i64 0, .int .i64 0] 112)).cell? ⟨w.heap.size, 0, none⟩ = some (.int .u8 u) := by
    rw [cell_of_row _ _ 0 _ _ (0, 0) r0]; simpa using V0
  have HB : Hid (Below w.heap.size w ((w.alloc (.cells V.toArray 108)).alloc (.cells #[.int .i64 0, .int .i64 0, .int .i64 0, .int .i64 0, .int .i64 0, .int .i64 0] 112))) := Lib.hid (((Below.refl _ w).alloc (Nat.le_refl _) _).alloc (by simp) _)
  obtain ⟨W1, hW1⟩ : ∃ W1, ((w.alloc (.cells V.toArray 108)).alloc (.cells #[.int .i64 0, .int .i64 0, .int .i64 0, .int .i64 0, .int .i64 0, .int .i64 0] 112)) = W1 := ⟨_, rfl⟩
  rw [hW1] at r2 hc0 HB
  have R2 := Lib.hid r2
  clear r0 r2 V0 hV hu h0 V24
  go_enter Tryz.func75, Tryz.ntmps75
  go_upto_region 1 with fail
  try rw [hW1]
  clear hW1
  go_wp2_with (refine wpList_store_row rfl 112 (.tmp 2) (.tmp 9) rfl (w.heap.size + 1) rfl _ rfl 112 _ R2.out ?i2 ?i3 ?i4 ?_)
  case i2 => rfl
  case i3 => kernel_rfl
  case i4 => first | exact ⟨rfl, rfl, rfl, rfl, rfl, rfl⟩ | exact rfl | simp
  go_wp2
  refine bodyPost_ret (results_row_tmp Tryz.results75 _ _ (w.heap.size + 1) 112 _ (0, 0) _ rfl (setRow_heap W1 _ _ _ _ _ R2.out) Tryz.underlying112 rfl (by kernel_rfl)) rfl ⟨rfl, ?_⟩
  exact HB.out.trans ((OnlyBlk.setRow W1 (w.heap.size + 1) _).below HB.out.size (by omega))

set_option maxRecDepth 100000 in
set_option maxHeartbeats 3200000 in
theorem decode_check (s c o x y z : Int) (R : List Int) (hR : R.length = 7) (hT : R ≠ tail7 s c o x y z) (h : FitT s c o x y z) (w : World) :
    Calls Tryz.prog 75 #[.agg ((rawF s c o x y z R).map (Value.int .u8)).toArray] w fun e w' =>
      e = .returned (.tuple #[.agg #[.int .i64 0, .int .i64 0, .int .i64 0, .int .i64 0, .int .i64 0, .int .i64 0], .int .i64 27]) ∧ Below w.heap.size w w' := by
  have K1 := Lib.hid (telegramOf_raw s c o x y z R h)
  have K2 := Lib.hid (frameOf_fit s c o x y z h)
  clear h
  have hne0 : ∀ w, (binOp .neq 108 (.agg ((frame s c o x y z).map (Value.int .u8)).toArray) (.agg ((rawF s c o x y z R).map (Value.int .u8)).toArray)).run Tryz.prog w = .ok (.bool true) w := fun w => by
    have h := run_neq_bytes w _ _ 24 Tryz.underlying108 Tryz.underlying5 (fun _ => by kernel_rfl) (frame s c o x y z) (rawF s c o x y z R) (frame_len ..) (rawF_len _ _ _ _ _ _ R hR)
    rw [decide_eq_false (fun e => hT (rawF_inj (by rw [← frame_raw]; exact e.symm)))] at h
    exact h
  obtain ⟨V1, hV1⟩ : ∃ V1, ((frame s c o x y z).map (Value.int .u8)) = V1 := ⟨_, rfl⟩
  obtain ⟨V, hV⟩ : ∃ V, ((rawF s c o x y z R).map (Value.int .u8)) = V := ⟨_, rfl⟩
  have V24 : V.length = 24 := by rw [← hV]; simp [rawF_len s c o x y z R hR]
  have V0 : V[0]? = some (.int .u8 77) := by rw [← hV]; rfl
  have V0' : ∀ (h : 0 < V.length), V[0]'h = .int .u8 77 := fun h => by rw [List.getElem?_eq_getElem h] at V0; exact Option.some.inj V0
  have hne := hne0
  rw [hV1, hV] at hne
  rw [hV1] at K2
  rw [hV] at K1 ⊢
  clear hV hV1 hne0 hT hR
  have hi36 : (Tryz.prog.info? 108).map (·.size) = some V.length := by rw [size24, V24]
  have r0 : ((w.alloc (.cells V.toArray 108)).alloc (.cells #[.int .i64 0, .int .i64 0, .int .i64 0, .int .i64 0, .int .i64 0, .int .i64 0] 112)).heap[w.heap.size]? = some (.cells V.toArray 108 (0, 0)) := by
    rw [Below.heap_alloc _ _ _ (by simp)]
    exact heap_alloc_new w _
  have r2 : ((w.alloc (.cells V.toArray 108)).alloc (.cells #[.int .i64 0, .int .i64 0, .int .i64 0, .int .i64 0, .int .i64 0, .int .i64 0] 112)).heap[w.heap.size + 1]? = some (.cells #[.int .i64 0, .int .i64 0, .int .i64 0, .int .i64 0, .int .i64 0, .int .i64 0] 112 (0, 0)) := heap_alloc2_new w _ _
  have R0 := Lib.hid r0
  have R2 := Lib.hid r2
  clear r0 r2 V0
  go_enter Tryz.func75, Tryz.ntmps75
  go_wp2_with (first
    | (refine wpList_load_row rfl 108 (.tmp 1) rfl w.heap.size rfl 108 _ (0, 0) _ R0.out Tryz.underlying108 rfl ?i1 ?_)
    | (go_at_call 164; refine (K1.out _).mono ?_; rintro e w1 ⟨rfl, hb1⟩))
  case i1 => rw [hi36]; simp
  obtain ⟨W2, hW2⟩ : ∃ W2, w1.alloc (.cells #[.int .i64 s, .int .i64 c, .int .i64 o, .int .i64 x, .int .i64 y, .int .i64 z] 112) = W2 := ⟨_, rfl⟩
  have hs1 : w.heap.size + 2 ≤ w1.heap.size := by have := hb1.size; simpa using this
  have z2 : W2.heap.size = w1.heap.size + 1 := by rw [← hW2]; simp
  have b0 : W2.cell? ⟨w1.heap.size, 0, none⟩ = some (.int .i64 s) := by rw [← hW2]; simp [go_sem]
  have b1 : W2.cell? ⟨w1.heap.size, 1, none⟩ = some (.int .i64 c) := by rw [← hW2]; simp [go_sem]
  have b2 : W2.cell? ⟨w1.heap.size, 2, none⟩ = some (.int .i64 o) := by rw [← hW2]; simp [go_sem]
  have b3 : W2.cell? ⟨w1.heap.size, 3, none⟩ = some (.int .i64 x) := by rw [← hW2]; simp [go_sem]
  have b4 : W2.cell? ⟨w1.heap.size, 4, none⟩ = some (.int .i64 y) := by rw [← hW2]; simp [go_sem]
  have b5 : W2.cell? ⟨w1.heap.size, 5, none⟩ = some (.int .i64 z) := by rw [← hW2]; simp [go_sem]
  have hB2 : Below w.heap.size w W2 := by
    rw [← hW2]
    exact ((((Below.refl _ w).alloc (Nat.le_refl _) _).alloc (by simp) _).trans (hb1.mono (by simp; omega))).alloc (by omega) _
  have q0 : W2.heap[w.heap.size]? = some (.cells V.toArray 108 (0, 0)) := by
    rw [← hW2, Below.heap_alloc _ _ _ (by omega), hb1.block _ (by simp; omega)]; exact R0.out
  have q2 : W2.heap[w.heap.size + 1]? = some (.cells #[.int .i64 0, .int .i64 0, .int .i64 0, .int .i64 0, .int .i64 0, .int .i64 0] 112 (0, 0)) := by
    rw [← hW2, Below.heap_alloc _ _ _ (by omega), hb1.block _ (by simp)]; exact R2.out
  have hr0 : W2.rangeAt w.heap.size 0 V := fun j v hv => by
    rw [cell_of_row W2 w.heap.size (0 + j) _ _ (0, 0) q0]
    simpa using hv
  have U := Tryz.underlying108
  have Q2 := Lib.hid q2
  have HB2 := Lib.hid hB2
  rw [hW2]
  clear hW2 q0 q2 hB2 hb1 R0 R2 K1
  go_region_held3 (fun w' => w'.rangeAt w.heap.size 0 V ∧ w'.cell? ⟨w1.heap.size, 0, none⟩ = some (.int .i64 s) ∧ w'.cell? ⟨w1.heap.size, 1, none⟩ = some (.int .i64 c) ∧ w'.cell? ⟨w1.heap.size, 2, none⟩ = some (.int .i64 o) ∧ w'.cell? ⟨w1.heap.size, 3, none⟩ = some (.int .i64 x) ∧ w'.cell? ⟨w1.heap.size, 4, none⟩ = some (.int .i64 y) ∧ w'.cell? ⟨w1.heap.size, 5, none⟩ = some (.int .i64 z))
    (first | go_keep | (go_split_ands; refine ⟨?_, ?_, ?_, ?_, ?_, ?_, ?_⟩ <;> first | (rw [hb2.cell (by simp; omega)]; assumption) | (refine rangeAt_below' _ _ _ _ _ ?_ hb2 ?_ <;> first | assumption | (simp; try omega))))
    ((go_at_call 163; refine (K2.out _).mono ?_; rintro e w2 ⟨rfl, hb2⟩))
  have hs2 : W2.heap.size ≤ w2.heap.size := by have := hb2.size; simpa using this
  have d0 : w2.cell? ⟨w1.heap.size, 0, none⟩ = some (.int .i64 s) := by rw [hb2.cell (by simp; omega)]; assumption
  have d1 : w2.cell? ⟨w1.heap.size, 1, none⟩ = some (.int .i64 c) := by rw [hb2.cell (by simp; omega)]; assumption
  have d2 : w2.cell? ⟨w1.heap.size, 2, none⟩ = some (.int .i64 o) := by rw [hb2.cell (by simp; omega)]; assumption
  have d3 : w2.cell? ⟨w1.heap.size, 3, none⟩ = some (.int .i64 x) := by rw [hb2.cell (by simp; omega)]; assumption
  have d4 : w2.cell? ⟨w1.heap.size, 4, none⟩ = some (.int .i64 y) := by rw [hb2.cell (by simp; omega)]; assumption
  have d5 : w2.cell? ⟨w1.heap.size, 5, none⟩ = some (.int .i64 z) := by rw [hb2.cell (by simp; omega)]; assumption
  have HB3 := Lib.hid (HB2.out.drew.trans (hb2.mono (by simpa using HB2.out.size)))
  have Q3 := Lib.hid ((hb2.block _ (by simp; omega)).trans Q2.out)
  clear hb2 K2 hne U hr0 b0 b1 b2 b3 b4 b5
  go_wp2_with (refine wpList_store_row rfl 112 (.tmp 2) (.tmp 16) rfl (w.heap.size + 1) rfl _ rfl 112 _ Q3.out ?i2 ?i3 ?i4 ?_)
  case i2 => rfl
  case i3 => kernel_rfl
  case i4 => first | exact ⟨rfl, rfl, rfl, rfl, rfl, rfl⟩ | exact rfl | simp
  go_wp2
  refine bodyPost_ret (results_row_tmp Tryz.results75 _ _ (w.heap.size + 1) 112 _ (0, 0) _ rfl (setRow_heap w2 _ _ _ _ _ Q3.out) Tryz.underlying112 rfl (by kernel_rfl)) rfl ⟨rfl, ?_⟩
  exact HB3.out.trans ((OnlyBlk.setRow w2 (w.heap.size + 1) _).below HB3.out.size (by omega))

set_option maxRecDepth 100000 in
set_option maxHeartbeats 3200000 in
theorem decode_range (s c o x y z : Int) (h : FitT s c o x y z) (hg : ¬ GoodT s c o x y z) (w : World) :
    Calls Tryz.prog 75 #[.agg ((frame s c o x y z).map (Value.int .u8)).toArray] w fun e w' =>
      e = .returned (.tuple #[.agg #[.int .i64 0, .int .i64 0, .int .i64 0, .int .i64 0, .int .i64 0, .int .i64 0], .int .i64 3]) ∧ Below w.heap.size w w' := by
  have K1 := Lib.hid (telegramOf_raw s c o x y z (tail7 s c o x y z) h)
  rw [← frame_raw] at K1
  have K2 := Lib.hid (frameOf_fit s c o x y z h)
  have K3 := Lib.hid (checkTelegram_all s c o x y z)
  rw [telErr_bad hg] at K3
  clear h hg
  obtain ⟨V, hV⟩ : ∃ V, ((frame s c o x y z).map (Value.int .u8)) = V := ⟨_, rfl⟩
  have V24 : V.length = 24 := by rw [← hV]; simp [frame_len]
  have V0 : V[0]? = some (.int .u8 77) := by rw [← hV]; rfl
  have V0' : ∀ (h : 0 < V.length), V[0]'h = .int .u8 77 := fun h => by rw [List.getElem?_eq_getElem h] at V0; exact Option.some.inj V0
  have hne : ∀ w, (binOp .neq 108 (.agg V.toArray) (.agg V.toArray)).run Tryz.prog w = .ok (.bool false) w := fun w => by
    rw [← hV]
    exact run_neq_same w _ _ 24 Tryz.underlying108 Tryz.underlying5 (fun _ => by kernel_rfl) _ (frame_len ..)
  rw [hV] at K1 K2 ⊢
  clear hV
  have hi36 : (Tryz.prog.info? 108).map (·.size) = some V.length := by rw [size24, V24]
  have r0 : ((w.alloc (.cells V.toArray 108)).alloc (.cells #[.int .i64 0, .int .i64 0, .int .i64 0, .int .i64 0, .int .i64 0, .int .i64 0] 112)).heap[w.heap.size]? = some (.cells V.toArray 108 (0, 0)) := by
    rw [Below.heap_alloc _ _ _ (by simp)]
    exact heap_alloc_new w _
  have r2 : ((w.alloc (.cells V.toArray 108)).alloc (.cells #[.int .i64 0, .int .i64 0, .int .i64 0, .int .i64 0, .int .i64 0, .int .i64 0] 112)).heap[w.heap.size + 1]? = some (.cells #[.int .i64 0, .int .i64 0, .int .i64 0, .int .i64 0, .int .i64 0, .int .i64 0] 112 (0, 0)) := heap_alloc2_new w _ _
  have R0 := Lib.hid r0
  have R2 := Lib.hid r2
  clear r0 r2 V0
  go_enter Tryz.func75, Tryz.ntmps75
  go_wp2_with (first
    | (refine wpList_load_row rfl 108 (.tmp 1) rfl w.heap.size rfl 108 _ (0, 0) _ R0.out Tryz.underlying108 rfl ?i1 ?_)
    | (go_at_call 164; refine (K1.out _).mono ?_; rintro e w1 ⟨rfl, hb1⟩))
  case i1 => rw [hi36]; simp
  obtain ⟨W2, hW2⟩ : ∃ W2, w1.alloc (.cells #[.int .i64 s, .int .i64 c, .int .i64 o, .int .i64 x, .int .i64 y, .int .i64 z] 112) = W2 := ⟨_, rfl⟩
  have hs1 : w.heap.size + 2 ≤ w1.heap.size := by have := hb1.size; simpa using this
  have z2 : W2.heap.size = w1.heap.size + 1 := by rw [← hW2]; simp
  have b0 : W2.cell? ⟨w1.heap.size, 0, none⟩ = some (.int .i64 s) := by rw [← hW2]; simp [go_sem]
  have b1 : W2.cell? ⟨w1.heap.size, 1, none⟩ = some (.int .i64 c) := by rw [← hW2]; simp [go_sem]
  have b2 : W2.cell? ⟨w1.heap.size, 2, none⟩ = some (.int .i64 o) := by rw [← hW2]; simp [go_sem]
  have b3 : W2.cell? ⟨w1.heap.size, 3, none⟩ = some (.int .i64 x) := by rw [← hW2]; simp [go_sem]
  have b4 : W2.cell? ⟨w1.heap.size, 4, none⟩ = some (.int .i64 y) := by rw [← hW2]; simp [go_sem]
  have b5 : W2.cell? ⟨w1.heap.size, 5, none⟩ = some (.int .i64 z) := by rw [← hW2]; simp [go_sem]
  have hB2 : Below w.heap.size w W2 := by
    rw [← hW2]
    exact ((((Below.refl _ w).alloc (Nat.le_refl _) _).alloc (by simp) _).trans (hb1.mono (by simp; omega))).alloc (by omega) _
  have q0 : W2.heap[w.heap.size]? = some (.cells V.toArray 108 (0, 0)) := by
    rw [← hW2, Below.heap_alloc _ _ _ (by omega), hb1.block _ (by simp; omega)]; exact R0.out
  have q2 : W2.heap[w.heap.size + 1]? = some (.cells #[.int .i64 0, .int .i64 0, .int .i64 0, .int .i64 0, .int .i64 0, .int .i64 0] 112 (0, 0)) := by
    rw [← hW2, Below.heap_alloc _ _ _ (by omega), hb1.block _ (by simp)]; exact R2.out
  have hr0 : W2.rangeAt w.heap.size 0 V := fun j v hv => by
    rw [cell_of_row W2 w.heap.size (0 + j) _ _ (0, 0) q0]
    simpa using hv
  have U := Tryz.underlying108
  have Q2 := Lib.hid q2
  have HB2 := Lib.hid hB2
  rw [hW2]
  clear hW2 q0 q2 hB2 hb1 R0 R2 K1
  go_region_held3 (fun w' => w'.rangeAt w.heap.size 0 V ∧ w'.cell? ⟨w1.heap.size, 0, none⟩ = some (.int .i64 s) ∧ w'.cell? ⟨w1.heap.size, 1, none⟩ = some (.int .i64 c) ∧ w'.cell? ⟨w1.heap.size, 2, none⟩ = some (.int .i64 o) ∧ w'.cell? ⟨w1.heap.size, 3, none⟩ = some (.int .i64 x) ∧ w'.cell? ⟨w1.heap.size, 4, none⟩ = some (.int .i64 y) ∧ w'.cell? ⟨w1.heap.size, 5, none⟩ = some (.int .i64 z))
    (first | go_keep | (go_split_ands; refine ⟨?_, ?_, ?_, ?_, ?_, ?_, ?_⟩ <;> first | (rw [hb2.cell (by simp; omega)]; assumption) | (refine rangeAt_below' _ _ _ _ _ ?_ hb2 ?_ <;> first | assumption | (simp; try omega))))
    ((go_at_call 163; refine (K2.out _).mono ?_; rintro e w2 ⟨rfl, hb2⟩))
  have hs2 : W2.heap.size ≤ w2.heap.size := by have := hb2.size; simpa using this
  have d0 : w2.cell? ⟨w1.heap.size, 0, none⟩ = some (.int .i64 s) := by rw [hb2.cell (by simp; omega)]; assumption
  have d1 : w2.cell? ⟨w1.heap.size, 1, none⟩ = some (.int .i64 c) := by rw [hb2.cell (by simp; omega)]; assumption
  have d2 : w2.cell? ⟨w1.heap.size, 2, none⟩ = some (.int .i64 o) := by rw [hb2.cell (by simp; omega)]; assumption
  have d3 : w2.cell? ⟨w1.heap.size, 3, none⟩ = some (.int .i64 x) := by rw [hb2.cell (by simp; omega)]; assumption
  have d4 : w2.cell? ⟨w1.heap.size, 4, none⟩ = some (.int .i64 y) := by rw [hb2.cell (by simp; omega)]; assumption
  have d5 : w2.cell? ⟨w1.heap.size, 5, none⟩ = some (.int .i64 z) := by rw [hb2.cell (by simp; omega)]; assumption
  have HB3 := Lib.hid (HB2.out.drew.trans (hb2.mono (by simpa using HB2.out.size)))
  have Q3 := Lib.hid ((hb2.block _ (by simp; omega)).trans Q2.out)
  clear hb2 K2 hne U hr0 b0 b1 b2 b3 b4 b5
  go_wp2_with (first
    | (refine wpList_store_row rfl 112 (.tmp 2) (.tmp 21) rfl (w.heap.size + 1) rfl _ rfl 112 _ Q4.out ?i2 ?i3 ?i4 ?_)
    | ((go_at_call 162; refine (K3.out _).mono ?_; rintro e w3 ⟨rfl, hb3⟩
        have e0 : w3.cell? ⟨w1.heap.size, 0, none⟩ = some (.int .i64 s) := by rw [hb3.cell (by simp; omega)]; assumption
        have e1 : w3.cell? ⟨w1.heap.size, 1, none⟩ = some (.int .i64 c) := by rw [hb3.cell (by simp; omega)]; assumption
        have e2 : w3.cell? ⟨w1.heap.size, 2, none⟩ = some (.int .i64 o) := by rw [hb3.cell (by simp; omega)]; assumption
        have e3 : w3.cell? ⟨w1.heap.size, 3, none⟩ = some (.int .i64 x) := by rw [hb3.cell (by simp; omega)]; assumption
        have e4 : w3.cell? ⟨w1.heap.size, 4, none⟩ = some (.int .i64 y) := by rw [hb3.cell (by simp; omega)]; assumption
        have e5 : w3.cell? ⟨w1.heap.size, 5, none⟩ = some (.int .i64 z) := by rw [hb3.cell (by simp; omega)]; assumption
        have HB4 := Lib.hid (HB3.out.trans (hb3.mono HB3.out.size))
        have Q4 := Lib.hid ((hb3.block _ (by omega)).trans Q3.out)
        clear hb3 d0 d1 d2 d3 d4 d5)))
  case i2 => rfl
  case i3 => kernel_rfl
  case i4 => first | exact ⟨rfl, rfl, rfl, rfl, rfl, rfl⟩ | exact rfl | simp
  go_wp2
  refine bodyPost_ret (results_row_tmp Tryz.results75 _ _ (w.heap.size + 1) 112 _ (0, 0) _ rfl (setRow_heap w3 _ _ _ _ _ Q4.out) Tryz.underlying112 rfl (by kernel_rfl)) rfl ⟨rfl, ?_⟩
  exact HB4.out.trans ((OnlyBlk.setRow w3 (w.heap.size + 1) _).below HB4.out.size (by omega))
end Go.Proofs.YtfdkmmllemkogaaGreatDoor

/-
  Contracts of Decode for any 24 bytes, and of telegramAt at any place of any stream.
-/
namespace Go.Proofs.YtfdkmmllemkogaaGreatDoor
open Go.RowKit
set_option linter.unusedVariables false
set_option linter.unusedSimpArgs false

/-- The telegram that bytes would be. -/
def telOf (F : List Int) : Tel := ⟨byteAt F 1, numOf [byteAt F 2, byteAt F 3], byteAt F 4, numOf [byteAt F 5, byteAt F 6, byteAt F 7, byteAt F 8] - 1048576, numOf [byteAt F 9, byteAt F 10, byteAt F 11, byteAt F 12] - 1048576, numOf [byteAt F 13, byteAt F 14, byteAt F 15, byteAt F 16] - 1048576⟩
def Tel.tail (t : Tel) : List Int := tail7 t.s t.c t.o t.x t.y t.z
def Tel.agg (t : Tel) : Value := .agg #[.int .i64 t.s, .int .i64 t.c, .int .i64 t.o, .int .i64 t.x, .int .i64 t.y, .int .i64 t.z]
noncomputable def decErr (F : List Int) : Int := if byteAt F 0 ≠ 77 then 1 else if F.drop 17 ≠ (telOf F).tail then 27 else (telOf F).err
noncomputable def decTel (F : List Int) : Tel := if decErr F = 0 then telOf F else tel0
def Bytes24 (F : List Int) : Prop := F.length = 24 ∧ ∀ v ∈ F, 0 ≤ v ∧ v ≤ 255
theorem list24 {F : List Int} (h : F.length = 24) : ∃ f0 f1 f2 f3 f4 f5 f6 f7 f8 f9 f10 f11 f12 f13 f14 f15 f16 R, F = f0 :: ([f1, f2, f3, f4, f5, f6, f7, f8, f9, f10, f11, f12, f13, f14, f15, f16] ++ R) ∧ R.length = 7 := by
  match F, h with
  | [f0, f1, f2, f3, f4, f5, f6, f7, f8, f9, f10, f11, f12, f13, f14, f15, f16, a, b, c, d, e, f, g], _ => exact ⟨f0, f1, f2, f3, f4, f5, f6, f7, f8, f9, f10, f11, f12, f13, f14, f15, f16, [a, b, c, d, e, f, g], rfl, rfl⟩
/-- Bytes that begin with the mark are those of their telegram. -/
theorem raw_telOf (F : List Int) (h : Bytes24 F) (h0 : byteAt F 0 = 77) :
    F = rawF (telOf F).s (telOf F).c (telOf F).o (telOf F).x (telOf F).y (telOf F).z (F.drop 17) ∧ (F.drop 17).length = 7 ∧ FitT (telOf F).s (telOf F).c (telOf F).o (telOf F).x (telOf F).y (telOf F).z := by
  obtain ⟨hl, hb⟩ := h
  obtain ⟨f0, f1, f2, f3, f4, f5, f6, f7, f8, f9, f10, f11, f12, f13, f14, f15, f16, R, rfl, hR⟩ := list24 hl
  obtain rfl : f0 = 77 := h0
  obtain ⟨e1, e2⟩ := raw_of f1 f2 f3 f4 f5 f6 f7 f8 f9 f10 f11 f12 f13 f14 f15 f16 R (fun v hv => hb v (by
    refine List.mem_cons_of_mem _ (List.mem_append_left _ hv)))
  refine ⟨?_, by simpa using hR, e2⟩
  exact e1

theorem decode_all (F : List Int) (h : Bytes24 F) (w : World) :
    Calls Tryz.prog 75 #[.agg (F.map (Value.int .u8)).toArray] w fun e w' => e = .returned (.tuple #[(decTel F).agg, .int .i64 (decErr F)]) ∧ Below w.heap.size w w' := by
  by_cases h0 : byteAt F 0 = 77
  · obtain ⟨e1, hR, hf⟩ := raw_telOf F h h0
    by_cases hT : F.drop 17 = (telOf F).tail
    · have hE : decErr F = (telOf F).err := by unfold decErr; rw [if_neg (by simp [h0]), if_neg (by simp [hT])]
      have eF : F = frame (telOf F).s (telOf F).c (telOf F).o (telOf F).x (telOf F).y (telOf F).z := by
        rw [frame_raw]
        have e2 : rawF (telOf F).s (telOf F).c (telOf F).o (telOf F).x (telOf F).y (telOf F).z (F.drop 17) = rawF (telOf F).s (telOf F).c (telOf F).o (telOf F).x (telOf F).y (telOf F).z (tail7 (telOf F).s (telOf F).c (telOf F).o (telOf F).x (telOf F).y (telOf F).z) := by rw [hT]; rfl
        exact e1.trans e2
      unfold decTel
      rw [hE]
      by_cases hg : (telOf F).Good
      · have e0 : (telOf F).err = 0 := telErr_good hg
        rw [e0, if_pos rfl]
        have hd := decode_any _ _ _ _ _ _ hg w
        rw [← eF] at hd
        exact hd
      · have e0 : (telOf F).err = 3 := telErr_bad hg
        rw [e0, if_neg (by decide)]
        have hd := decode_range _ _ _ _ _ _ hf hg w
        rw [← eF] at hd
        exact hd
    · have hE : decErr F = 27 := by unfold decErr; rw [if_neg (by simp [h0]), if_pos hT]
      unfold decTel
      rw [hE, if_neg (by decide)]
      have hd := decode_check _ _ _ _ _ _ (F.drop 17) hR hT hf w
      rw [← e1] at hd
      exact hd
  · have hE : decErr F = 1 := by unfold decErr; rw [if_pos h0]
    unfold decTel
    rw [hE, if_neg (by decide)]
    exact decode_form F h.1 h0 w

set_option maxRecDepth 100000 in
set_option maxHeartbeats 3200000 in
theorem telegramAt_end (a : Option Addr) (n cp k : Nat) (hk : k ≤ n) (hn : n ≤ 12288) (h : n < k + 24) (w : World) :
    Calls Tryz.prog 165 #[.slice a n cp, .int .i64 k] w fun e w' => e = .returned (.tuple #[tel0.agg, .bool false]) ∧ Below w.heap.size w w' := by
  have i1 : (n : Int) - (k : Int) < 24 := by omega
  have i2 : (n : Int) ≤ 12288 := by omega
  have i3 : (k : Int) ≤ (n : Int) := by omega
  have r2 : (w.alloc (.cells #[.int .i64 0, .int .i64 0, .int .i64 0, .int .i64 0, .int .i64 0, .int .i64 0] 112)).heap[w.heap.size]? = some (.cells #[.int .i64 0, .int .i64 0, .int .i64 0, .int .i64 0, .int .i64 0, .int .i64 0] 112 (0, 0)) := heap_alloc_new w _
  have HB : Hid (Below w.heap.size w (w.alloc (.cells #[.int .i64 0, .int .i64 0, .int .i64 0, .int .i64 0, .int .i64 0, .int .i64 0] 112))) := Lib.hid ((Below.refl _ w).alloc (Nat.le_refl _) _)
  obtain ⟨W1, hW1⟩ : ∃ W1, (w.alloc (.cells #[.int .i64 0, .int .i64 0, .int .i64 0, .int .i64 0, .int .i64 0, .int .i64 0] 112)) = W1 := ⟨_, rfl⟩
  rw [hW1] at r2 HB
  have R2 := Lib.hid r2
  clear r2
  go_enter Tryz.func165, Tryz.ntmps165
  go_upto_region 1 with fail
  try rw [hW1]
  clear hW1
  go_wp2_with (refine wpList_store_row rfl 112 (.tmp 4) (.tmp 14) rfl w.heap.size rfl _ rfl 112 _ R2.out ?i2 ?i3 ?i4 ?_)
  case i2 => rfl
  case i3 => kernel_rfl
  case i4 => first | exact ⟨rfl, rfl, rfl, rfl, rfl, rfl⟩ | exact rfl | simp
  go_wp2
  refine bodyPost_ret (results_row_tmp Tryz.results165 _ _ w.heap.size 112 _ (0, 0) _ rfl (setRow_heap W1 _ _ _ _ _ R2.out) Tryz.underlying112 rfl (by kernel_rfl)) rfl ⟨rfl, ?_⟩
  exact HB.out.trans ((OnlyBlk.setRow W1 w.heap.size _).below HB.out.size (by omega))

set_option maxRecDepth 100000 in
set_option maxHeartbeats 3200000 in
theorem telegramAt_raw (F : List Int) (hF : F.length = 24) (s c o x y z r : Int) (ok : Bool) (hok : (r == 0) = ok) (hK : ∀ w : World, Calls Tryz.prog 75 #[.agg (F.map (Value.int .u8)).toArray] w fun e w' => e = .returned (.tuple #[.agg #[.int .i64 s, .int .i64 c, .int .i64 o, .int .i64 x, .int .i64 y, .int .i64 z], .int .i64 r]) ∧ Below w.heap.size w w') (b q n cp : Nat) (k : Nat) (hk : k + 24 ≤ n) (hn : n ≤ 12288) (hcp : n ≤ cp) (hcq : cp ≤ 9223372036854775807) (w : World) (hb : b < w.heap.size)
    (hc : w.rangeAt b (q + k) ((F).map (Value.int .u8))) :
    Calls Tryz.prog 165 #[.slice (some ⟨b, q, none⟩) n cp, .int .i64 k] w fun e w' =>
      e = .returned (.tuple #[.agg #[.int .i64 s, .int .i64 c, .int .i64 o, .int .i64 x, .int .i64 y, .int .i64 z], .bool ok]) ∧ Below w.heap.size w w' := by
  have K1 := Lib.hid hK
  clear hK
  obtain ⟨V, hV⟩ : ∃ V, ((F).map (Value.int .u8)) = V := ⟨_, rfl⟩
  have V24 : V.length = 24 := by rw [← hV]; simp [hF]
  have V1 : ∀ v ∈ V, v.oneCell' = true := by
    rw [← hV]; intro v hv
    obtain ⟨u, _, rfl⟩ := List.mem_map.1 hv
    rfl
  rw [hV] at K1 hc
  have HC := Lib.hid hc
  clear hV hc
  have i1 : ((k : Int) + 24 ≤ (n : Int)) := by omega
  have i2 : ((n : Int) ≤ (cp : Int)) := by omega
  have i3 : ((n : Int) ≤ 12288) := by omega
  have i4 : ((k : Int) ≤ (n : Int)) := by omega
  have i5 : k ≤ n := by omega
  have i6 : (0 : Int) ≤ (k : Int) := by omega
  have i7 : ((k : Int) ≤ (cp : Int)) := by omega
  go_enter Tryz.func165, Tryz.ntmps165
  go_wp2_with fail
  obtain ⟨W2, hW2⟩ : ∃ W2, ((w.alloc (.cells #[.int .i64 0, .int .i64 0, .int .i64 0, .int .i64 0, .int .i64 0, .int .i64 0] 112)).alloc (.cells ((List.replicate 24 (Value.int .u8 0)).toArray) 108)) = W2 := ⟨_, rfl⟩
  have z2 : W2.heap.size = w.heap.size + 2 := by rw [← hW2]; simp
  have hB2 : Below w.heap.size w W2 := by rw [← hW2]; exact (((Below.refl _ w).alloc (Nat.le_refl _) _).alloc (by simp) _)
  have r0 : W2.heap[w.heap.size]? = some (.cells #[.int .i64 0, .int .i64 0, .int .i64 0, .int .i64 0, .int .i64 0, .int .i64 0] 112 (0, 0)) := by
    rw [← hW2, Below.heap_alloc _ _ _ (by simp)]
    exact heap_alloc_new w _
  have r1 : W2.heap[w.heap.size + 1]? = some (.cells ((List.replicate 24 (Value.int .u8 0)).toArray) 108 (0, 0)) := by
    rw [← hW2]
    exact heap_alloc2_new w _ _
  simp only [List.replicate] at hW2
  rw [hW2]
  clear hW2
  obtain ⟨W3, hW3⟩ : ∃ W3, W2.drew = W3 := ⟨_, rfl⟩
  have hcp' : (Builtin.copy_ #[109, 109] 3 #[.slice (some ⟨w.heap.size + 1, 0, none⟩) 24 24, .slice (some ⟨b, q + k, none⟩) (n - k) (cp - k)]).run Tryz.prog W2.drew = .ok (goInt 24) (W2.drew.setRow (w.heap.size + 1) V.toArray) := by
    have e := run_copy_row (P := Tryz.prog) W2.drew 109 109 3 5 (w.heap.size + 1) 0 24 24 ⟨b, q + k, none⟩ (n - k) (cp - k) _ 108 V Tryz.underlying109 (by kernel_rfl) (show W2.drew.heap[w.heap.size + 1]? = _ from r1)
      (by rw [V24]; show 24 = Nat.min (n - k) 24; simp only [Nat.min_def]; split <;> omega)
      (fun j v hv => by rw [Addr.add_mid]; exact (hB2.cell (w' := W2) hb).trans (HC.out j v hv)) (by simp [V24]) V1
    rw [V24] at e
    simpa [V24] using e
  refine wp_region_still_tail 4 (by kernel_rfl) (by kernel_rfl) ?_
  simp only [List.take_succ_cons, List.take_zero, List.drop_succ_cons, List.drop_zero]
  change wpStill _ _ W2.drew (fun a' => wpList _ _ _ _ a' W2.drew) _ _
  rw [hW3] at hcp' ⊢
  have HW3 := Lib.hid hW3
  have R0 := Lib.hid r0
  have R1 := Lib.hid r1
  have HB2 := Lib.hid hB2
  clear hW3 r0 r1 hB2
  repeat still_step
  refine wpStill_nil ?_
  have R3 := Lib.hid (setRow_heap W3 (w.heap.size + 1) _ V.toArray _ _ (by rw [← HW3.out]; exact R1.out : W3.heap[w.heap.size + 1]? = _))
  have Q3 : Hid ((W3.setRow (w.heap.size + 1) V.toArray).heap[w.heap.size]? = some (.cells #[.int .i64 0, .int .i64 0, .int .i64 0, .int .i64 0, .int .i64 0, .int .i64 0] 112 (0, 0))) := Lib.hid (by
    rw [setRow_other W3 _ _ _ (by omega), ← HW3.out]; exact R0.out)
  have HB3 : Hid (Below w.heap.size w (W3.setRow (w.heap.size + 1) V.toArray)) := Lib.hid (by
    have e : Below w.heap.size w W3 := by rw [← HW3.out]; exact HB2.out.drew
    exact e.trans ((OnlyBlk.setRow W3 (w.heap.size + 1) _).below e.size (by omega)))
  have Z3 : w.heap.size + 2 ≤ (W3.setRow (w.heap.size + 1) V.toArray).heap.size := by rw [← HW3.out]; simp [z2]
  have hi36 : (Tryz.prog.info? 108).map (·.size) = some V.toArray.size := by rw [size24]; simp [V24]
  obtain ⟨W4, hW4⟩ : ∃ W4, W3.setRow (w.heap.size + 1) V.toArray = W4 := ⟨_, rfl⟩
  rw [hW4] at hcp' R3 Q3 HB3 Z3
  clear hW4 z2
  go_wp2_with (first
    | (refine wpList_load_row rfl 108 (.tmp 6) rfl (w.heap.size + 1) rfl 108 _ (0, 0) _ R3.out Tryz.underlying108 rfl hi36 ?_)
    | (refine wpList_store_row rfl 112 (.tmp 4) (.tmp 25) rfl w.heap.size rfl _ rfl 112 _ Q4.out ?i2 ?i3 ?i4 ?_)
    | ((go_at_call 75; refine (K1.out _).mono ?_; rintro e w4 ⟨rfl, hb4⟩
        have hs4 := hb4.size
        have Q4 : Hid ((w4.alloc (.cells #[.int .i64 s, .int .i64 c, .int .i64 o, .int .i64 x, .int .i64 y, .int .i64 z] 112)).heap[w.heap.size]? = some (.cells #[.int .i64 0, .int .i64 0, .int .i64 0, .int .i64 0, .int .i64 0, .int .i64 0] 112 (0, 0))) := Lib.hid (by
          rw [Below.heap_alloc _ _ _ (by omega), hb4.block _ (by omega)]; exact Q3.out)
        have HB4 := Lib.hid ((HB3.out.trans (hb4.mono (by omega))).alloc (by omega) (.cells #[.int .i64 s, .int .i64 c, .int .i64 o, .int .i64 x, .int .i64 y, .int .i64 z] 112))
        clear hb4)))
  case i2 => rfl
  case i3 => kernel_rfl
  case i4 => exact ⟨rfl, rfl, rfl, rfl, rfl, rfl⟩
  go_wp2
  refine bodyPost_ret (results_row_tmp Tryz.results165 _ _ w.heap.size 112 _ (0, 0) _ rfl (setRow_heap _ _ _ _ _ _ Q4.out) Tryz.underlying112 rfl (by kernel_rfl)) rfl ⟨rfl, ?_⟩
  exact HB4.out.trans ((OnlyBlk.setRow _ w.heap.size _).below HB4.out.size (by omega))

def streamAt (S : List Int) (k : Nat) : List Int := (S.drop k).take 24
noncomputable def okAt (S : List Int) (n k : Nat) : Bool := if k + 24 ≤ n then (decErr (streamAt S k) == 0) else false
noncomputable def telAt (S : List Int) (n k : Nat) : Tel := if k + 24 ≤ n then decTel (streamAt S k) else tel0
theorem streamAt_bytes {S : List Int} {n k : Nat} (h : BytesV S n) (hk : k + 24 ≤ n) : Bytes24 (streamAt S k) := by
  refine ⟨by unfold streamAt; rw [List.length_take, List.length_drop, h.1]; omega, fun v hv => h.2 v (List.mem_of_mem_drop (List.mem_of_mem_take hv))⟩

theorem telegramAt_all (S : List Int) (b q n cp k : Nat) (hS : BytesV S n) (hk : k ≤ n) (hn : n ≤ 12288) (hcp : n ≤ cp) (hcq : cp ≤ 9223372036854775807) (w : World) (hb : b < w.heap.size) (hc : w.rangeAt b q (S.map (Value.int .u8))) :
    Calls Tryz.prog 165 #[.slice (some ⟨b, q, none⟩) n cp, .int .i64 k] w fun e w' => e = .returned (.tuple #[(telAt S n k).agg, .bool (okAt S n k)]) ∧ Below w.heap.size w w' := by
  by_cases h : k + 24 ≤ n
  · have hF := streamAt_bytes hS h
    unfold telAt okAt
    rw [if_pos h, if_pos h]
    refine telegramAt_raw (streamAt S k) hF.1 _ _ _ _ _ _ (decErr (streamAt S k)) _ rfl (fun w => decode_all _ hF w) b q n cp k h hn hcp hcq w hb ?_
    intro j v hv
    have hj : j < 24 := by
      have := (List.getElem?_eq_some_iff.1 hv).1
      rw [List.length_map, hF.1] at this
      exact this
    have h2 := hc (k + j) v (by
      rw [← hv, List.getElem?_map, List.getElem?_map]
      unfold streamAt
      rw [List.getElem?_take_of_lt hj, List.getElem?_drop])
    rw [show q + k + j = q + (k + j) by omega]
    exact h2
  · unfold telAt okAt
    rw [if_neg h, if_neg h]
    exact telegramAt_end _ n cp k hk hn (by omega) w
end Go.Proofs.YtfdkmmllemkogaaGreatDoor

/-
  Contract of Extended over a row of spans that the call owns.
-/
namespace Go.Proofs.YtfdkmmllemkogaaGreatDoor
open Go.RowKit
set_option linter.unusedVariables false
set_option linter.unusedSimpArgs false

/-- Spans behind an index more. -/
def extL (l : List (Int × Int)) (at' : Int) : List (Int × Int) :=
  if l.length ≠ 0 ∧ (l[l.length - 1]?.getD (0, 0)).2 = at' then l.set (l.length - 1) ((l[l.length - 1]?.getD (0, 0)).1, at' + 1) else l ++ [(at', at' + 1)]
theorem extL_len (l : List (Int × Int)) (a : Int) : (extL l a).length ≤ l.length + 1 := by
  unfold extL; split <;> simp
theorem flat_len2 (l : List (Int × Int)) : (l.flatMap qval).length = l.length * 2 := by
  induction l with
  | nil => rfl
  | cons p r ih => rw [List.flatMap_cons, List.length_append, ih]; simp [qval]; omega
theorem flat_at2 : ∀ (l : List (Int × Int)) (k : Nat), k < l.length → (l.flatMap qval)[k * 2]? = some (.int .i64 (l[k]?.getD (0, 0)).1) ∧ (l.flatMap qval)[k * 2 + 1]? = some (.int .i64 (l[k]?.getD (0, 0)).2)
  | [], _, h => by simp at h
  | q :: l, 0, _ => by simp [qval]
  | q :: l, k + 1, h => by
    have ih := flat_at2 l k (by simpa using h)
    have e1 : (k + 1) * 2 = k * 2 + 1 + 1 := by omega
    rw [e1]
    simp only [List.flatMap_cons, qval, List.cons_append, List.nil_append, List.getElem?_cons_succ]
    exact ih
theorem flat_set2 : ∀ (l : List (Int × Int)) (k : Nat) (b : Int), k < l.length → (l.flatMap qval).set (k * 2 + 1) (.int .i64 b) = (l.set k ((l[k]?.getD (0, 0)).1, b)).flatMap qval
  | [], _, _, h => by simp at h
  | q :: l, 0, b, _ => by simp [qval]
  | q :: l, k + 1, b, h => by
    have ih := flat_set2 l k b (by simpa using h)
    have e1 : (k + 1) * 2 + 1 = (k * 2 + 1) + 1 + 1 := by omega
    rw [e1]
    simp only [List.flatMap_cons, qval, List.cons_append, List.nil_append, List.set_cons_succ, List.getElem?_cons_succ, List.set_cons_succ]
    rw [ih]
theorem grownBy_trans {a b c : World} {row : Option Nat} (h : a.grownBy b row) (k : b.grownBy c row) : a.grownBy c row :=
  ⟨k.os.trans h.os, k.tape.trans h.tape, k.output.trans h.output, Nat.le_trans h.size k.size, fun i hi hne => (k.block i (Nat.lt_of_lt_of_le hi h.size) hne).trans (h.block i hi hne)⟩
theorem own_ne {w : World} {B B' e1 e2 s1 s2 n1 n2 : Nat} {v1 v2 : Value} {x1 x2 : List Value} (h1 : w.ownsRow B e1 s1 v1 n1 x1) (h2 : w.ownsRow B' e2 s2 v2 n2 x2) (hne : e1 ≠ e2) : v1.ownBlock = none ∨ v1.ownBlock ≠ v2.ownBlock := by
  rcases h1.2 with ⟨rfl, _⟩ | ⟨g, cap, cur, rfl, _, hg, _⟩
  · exact .inl rfl
  · rcases h2.2 with ⟨rfl, _⟩ | ⟨g', cap', cur', rfl, _, hg', _⟩
    · exact .inr (by simp [Value.ownBlock])
    · refine .inr fun e => ?_
      simp [Value.ownBlock] at e
      subst e
      rw [hg] at hg'
      simp at hg'
      exact hne hg'.2
theorem Tryz.infoSpan : (Tryz.prog.info? 70).map (fun i => (i.zero, i.size, i.bytes)) = some (some (.agg #[.int .i64 0, .int .i64 0]), 2, 16) := by kernel_rfl
theorem cells_newQ (w : World) (T : TypeId) (a b : Value) : ∀ j u, [a, b][j]? = some u → (w.alloc (.cells #[a, b] T)).cell? ((⟨w.heap.size, 0, none⟩ : Addr).add j) = some u := fun j u h => by
  rw [Addr.add_mid, cell_of_row _ w.heap.size (0 + j) _ _ (0, 0) (heap_alloc_new w _)]
  simpa using h

set_option maxRecDepth 100000 in
set_option maxHeartbeats 3200000 in
theorem extended_any (l : List (Int × Int)) (a : Nat) (B : Nat) (v : Value) (w : World) (hB : B ≤ w.heap.size) (hm : l.length ≤ 13000) (ha : a ≤ 13000) (ho : w.ownsRow B 70 2 v l.length (l.flatMap qval)) :
    Calls Tryz.prog 166 #[v, .int .i64 a] w fun e w' => ∃ v', e = .returned v' ∧ w'.ownsRow B 70 2 v' (extL l a).length ((extL l a).flatMap qval) ∧ w.grownBy w' v.ownBlock := by
  obtain ⟨i0, hi, hz0, hz1, hz2⟩ := info_parts Tryz.infoSpan
  by_cases h : l.length ≠ 0 ∧ (l[l.length - 1]?.getD (0, 0)).2 = a
  · have hX : extL l a = l.set (l.length - 1) ((l[l.length - 1]?.getD (0, 0)).1, (a : Int) + 1) := by unfold extL; rw [if_pos h]
    obtain ⟨g, c, rfl, hgl, hgB⟩ := owns_some ho (by omega)
    obtain ⟨m, hm'⟩ : ∃ m, l.length = m + 1 := ⟨l.length - 1, by omega⟩
    have hc1 := (flat_at2 l m (by omega)).2
    have hs := flat_set2 l m ((a : Int) + 1) (by omega)
    have e2 : (l[m]?.getD (0, 0)).2 = a := by have := h.2; rwa [hm', Nat.add_sub_cancel] at this
    rw [e2] at hc1
    have c1 : w.cell? ⟨g, m * 2 + 1, none⟩ = some (.int .i64 a) := by
      have h := ho.cells (g := g) rfl (m * 2 + 1) _ hc1
      rwa [Addr.add_mid, Nat.zero_add] at h
    have f1 := ho.frozenAt (m * 2 + 1)
    have hst := ho.stored (m * 2 + 1) (.int .i64 ((a : Int) + 1))
    rw [hs] at hst
    rw [hX, hm', Nat.add_sub_cancel, List.length_set]
    rw [hm'] at hst ⊢
    have HST := Lib.hid hst
    have HGR : Hid (w.grownBy (w.setCell ⟨g, m * 2 + 1, none⟩ (.int .i64 ((a : Int) + 1))) (some g)) := Lib.hid (OnlyBlk.set w g (m * 2 + 1) _).1
    have k0 : (0 : Int) ≤ (m : Int) := by omega
    have k1 : (m : Int) < (m : Int) + 1 := by omega
    have k2 : ((a : Int) == a) = true := by simp
    have k3 : (m : Int) ≤ 13000 := by omega
    have k4 : (a : Int) ≤ 13000 := by omega
    clear h hX ho hc1 hs e2 hst hm' hm
    go_enter Tryz.func166, Tryz.ntmps166
    go_wp2
    go_ret
    exact ⟨_, rfl, HST.out.1, HGR.out⟩
  · have hX : extL l a = l ++ [((a : Int), (a : Int) + 1)] := by unfold extL; rw [if_neg h]
    have hF : (extL l a).flatMap qval = l.flatMap qval ++ [.int .i64 (a : Int), .int .i64 ((a : Int) + 1)] := by rw [hX]; simp [qval]
    have hL : (extL l a).length = l.length + 1 := by rw [hX]; simp
    rw [hF, hL]
    have k4 : (a : Int) ≤ 13000 := by omega
    have hgr : w.grownBy (w.alloc (.cells #[.int .i64 (a : Int), .int .i64 ((a : Int) + 1)] 70)) v.ownBlock := World.grownBy_alloc _ _ _
    have HGR := Lib.hid hgr
    clear hX hF hL hgr
    by_cases h0 : l.length = 0
    · obtain ⟨F, hFl⟩ : ∃ F, l.flatMap qval = F := ⟨_, rfl⟩
      rw [hFl, h0] at ho
      rw [hFl, h0]
      obtain ⟨aa, c, rfl⟩ := nil_slice ho
      clear h h0 hm hFl
      go_enter Tryz.func166, Tryz.ntmps166
      go_wp2_with (at_builtin; refine wpList_append_own _ rfl (.tmp 29) (.tmp 34) 116 rfl B 70 i0 (.agg #[.int .i64 0, .int .i64 0]) 2 16 Tryz.underlying116 hi hz0 hz1 hz2 rfl (by decide) _ 0 _ rfl (ho.alloc _) ⟨w.heap.size, 0, none⟩ 1 1 [.int .i64 (a : Int), .int .i64 ((a : Int) + 1)] rfl rfl (cells_newQ _ _ _ _) (by intro u hu; simp at hu; rcases hu with rfl | rfl <;> rfl) (by unfold maxLen; omega) (by omega) (by simp; omega) ?_; intro v' w1 hown1 hgrow1 _)
      go_ret
      exact ⟨_, rfl, hown1, grownBy_trans HGR.out hgrow1⟩
    · obtain ⟨g, c, rfl, hgl, hgB⟩ := owns_some ho (by omega)
      obtain ⟨m, hm'⟩ : ∃ m, l.length = m + 1 := ⟨l.length - 1, by omega⟩
      have hc1 := (flat_at2 l m (by omega)).2
      obtain ⟨x, hx⟩ : ∃ x, (l[m]?.getD (0, 0)).2 = x := ⟨_, rfl⟩
      have e2 : x ≠ a := fun e => h ⟨h0, by rw [hm', Nat.add_sub_cancel, hx]; exact e⟩
      rw [hx] at hc1
      have c1 : w.cell? ⟨g, m * 2 + 1, none⟩ = some (.int .i64 x) := by
        have h := ho.cells (g := g) rfl (m * 2 + 1) _ hc1
        rwa [Addr.add_mid, Nat.zero_add] at h
      obtain ⟨F, hFl⟩ : ∃ F, l.flatMap qval = F := ⟨_, rfl⟩
      rw [hFl, hm'] at ho
      rw [hFl, hm']
      have k0 : (0 : Int) ≤ (m : Int) := by omega
      have k1 : (m : Int) < (m : Int) + 1 := by omega
      have k2 : (x == (a : Int)) = false := by simp [e2]
      have k3 : (m : Int) ≤ 13000 := by omega
      have k5 : m ≤ 13000 := by omega
      have HO := Lib.hid ho
      clear h h0 hm hFl hm' hc1 hx e2 ho
      go_enter Tryz.func166, Tryz.ntmps166
      go_wp2_with (at_builtin; refine wpList_append_own _ rfl (.tmp 29) (.tmp 34) 116 rfl B 70 i0 (.agg #[.int .i64 0, .int .i64 0]) 2 16 Tryz.underlying116 hi hz0 hz1 hz2 rfl (by decide) _ (m + 1) _ rfl (HO.out.alloc _) ⟨w.heap.size, 0, none⟩ 1 1 [.int .i64 (a : Int), .int .i64 ((a : Int) + 1)] rfl rfl (cells_newQ _ _ _ _) (by intro u hu; simp at hu; rcases hu with rfl | rfl <;> rfl) (by unfold maxLen; omega) (by omega) (by simp; omega) ?_; intro v' w1 hown1 hgrow1 _)
      go_ret
      exact ⟨_, rfl, hown1, grownBy_trans HGR.out hgrow1⟩
end Go.Proofs.YtfdkmmllemkogaaGreatDoor

/-
  Contract of Received for any stream.
-/
namespace Go.Proofs.YtfdkmmllemkogaaGreatDoor
open Go.RowKit
set_option linter.unusedVariables false
set_option linter.unusedSimpArgs false

/-- What is received, and skipped, from a place on. -/
noncomputable def rcv (S : List Int) (n : Nat) : Nat → Nat → List Tel → List (Int × Int) → List Tel × List (Int × Int)
  | 0, _, ts, sp => (ts, sp)
  | f + 1, k, ts, sp => if k < n then (if okAt S n k = true then rcv S n f (k + 24) (ts ++ [telAt S n k]) sp else rcv S n f (k + 1) ts (extL sp k)) else (ts, sp)
theorem rcv_fuel (S : List Int) (n : Nat) : ∀ (f g k : Nat) (ts : List Tel) (sp : List (Int × Int)), n ≤ k + f → n ≤ k + g → rcv S n f k ts sp = rcv S n g k ts sp
  | 0, 0, _, _, _, _, _ => rfl
  | 0, g + 1, k, ts, sp, h, _ => by rw [rcv, rcv, if_neg (by omega)]
  | f + 1, 0, k, ts, sp, _, h => by rw [rcv, rcv, if_neg (by omega)]
  | f + 1, g + 1, k, ts, sp, hf, hg => by
    rw [rcv, rcv]
    by_cases h : k < n
    · rw [if_pos h, if_pos h]
      by_cases ho : okAt S n k = true
      · rw [if_pos ho, if_pos ho, rcv_fuel S n f g (k + 24) _ _ (by omega) (by omega)]
      · rw [if_neg ho, if_neg ho, rcv_fuel S n f g (k + 1) _ _ (by omega) (by omega)]
    · rw [if_neg h, if_neg h]
theorem rcv_hit {S : List Int} {n k : Nat} {ts : List Tel} {sp : List (Int × Int)} (h : k < n) (ho : okAt S n k = true) : rcv S n n k ts sp = rcv S n n (k + 24) (ts ++ [telAt S n k]) sp := by
  obtain ⟨m, rfl⟩ : ∃ m, n = m + 1 := ⟨n - 1, by omega⟩
  rw [rcv, if_pos h, if_pos ho]
  exact rcv_fuel _ _ _ _ _ _ _ (by omega) (by omega)
theorem rcv_miss {S : List Int} {n k : Nat} {ts : List Tel} {sp : List (Int × Int)} (h : k < n) (ho : okAt S n k = false) : rcv S n n k ts sp = rcv S n n (k + 1) ts (extL sp k) := by
  obtain ⟨m, rfl⟩ : ∃ m, n = m + 1 := ⟨n - 1, by omega⟩
  rw [rcv, if_pos h, if_neg (by simp [ho])]
  exact rcv_fuel _ _ _ _ _ _ _ (by omega) (by omega)
theorem rcv_end {S : List Int} {n k : Nat} {ts : List Tel} {sp : List (Int × Int)} (h : n ≤ k) : rcv S n n k ts sp = (ts, sp) := by
  cases n with
  | zero => rfl
  | succ m => rw [rcv, if_neg (by omega)]
noncomputable def rcvL (S : List Int) (n : Nat) : List Tel := (rcv S n n 0 [] []).1
noncomputable def rcvP (S : List Int) (n : Nat) : List (Int × Int) := (rcv S n n 0 [] []).2
theorem flat_snoc (ts : List Tel) (t : Tel) : (ts ++ [t]).flatMap Tel.val = ts.flatMap Tel.val ++ t.val := by simp

set_option maxRecDepth 100000 in
set_option maxHeartbeats 6400000 in
theorem received_all (S : List Int) (a : Option Addr) (n cp : Nat) (hm : n ≤ 12288) (hcp : n ≤ cp) (hcq : cp ≤ 9223372036854775807) (w : World) (hA : AnyBytes w a n S) :
    Calls Tryz.prog 76 #[.slice a n cp] w fun e w' =>
      ∃ v1 v2, e = .returned (.tuple #[v1, v2, .int .i64 0]) ∧ w'.ownsRow w.heap.size 112 6 v1 (rcvL S n).length ((rcvL S n).flatMap Tel.val) ∧ w'.ownsRow w.heap.size 70 2 v2 (rcvP S n).length ((rcvP S n).flatMap qval) ∧ Below w.heap.size w w' := by
  obtain ⟨i0, hi, hz0, hz1, hz2⟩ := info_parts Tryz.infoTel
  have HA := Lib.hid hA
  have i1 : ((n : Int) ≤ 12288) := by omega
  clear hA
  go_enter Tryz.func76, Tryz.ntmps76
  go_wp2
  go_loopw [5, 6, 7] (fun out sk i wr => ∃ (k : Nat) (ts : List Tel) (sp : List (Int × Int)), i = .int .i64 k ∧ k ≤ n + 23 ∧ ts.length ≤ k ∧ sp.length ≤ k ∧ Hid (rcv S n n k ts sp = rcv S n n 0 [] []) ∧
      wr.ownsRow w.heap.size 112 6 out ts.length (ts.flatMap Tel.val) ∧ wr.ownsRow w.heap.size 70 2 sk sp.length (sp.flatMap qval) ∧ Below w.heap.size w wr)
    (fun _ _ i _ => n - (intOf i).toNat)
  case atStart => exact ⟨0, [], [], rfl, by omega, by simp, by simp, Lib.hid rfl, World.ownsRow_nil _ _ _ _, World.ownsRow_nil _ _ _ _, Below.refl _ _⟩
  case round =>
    obtain ⟨k, ts, sp, rfl, hk, hts, hsp, hr, hown, hsk, hnx⟩ := hrel
    have hsz : w.heap.size ≤ wr.heap.size := hnx.size
    by_cases hlt : k < n
    · have h4 : (k : Int) < (n : Int) := by omega
      obtain ⟨b, q, rfl, hb, hc⟩ := HA.out.2 k hlt
      have hS := HA.out.1
      have hc2 : wr.rangeAt b q (S.map (Value.int .u8)) := fun i v hv => by rw [hnx.cell (by exact hb)]; exact hc i v hv
      have K := Lib.hid (telegramAt_all S b q n cp k hS (by omega) hm hcp hcq wr (by omega) hc2)
      obtain ⟨t, ht⟩ : ∃ t, telAt S n k = t := ⟨_, rfl⟩
      rw [ht] at K
      unfold Tel.agg at K
      have h5 : k ≤ 12311 := by omega
      have h6 : (k : Int) ≤ 12311 := by omega
      by_cases ho : okAt S n k = true
      · have hstep := rcv_hit (ts := ts) (sp := sp) hlt ho
        rw [ht] at hstep
        rw [ho] at K
        have HST : Hid (rcv S n n (k + 24) (ts ++ [t]) sp = rcv S n n 0 [] []) := Lib.hid (hstep.symm.trans hr.out)
        have HFL := Lib.hid (flat_snoc ts t)
        obtain ⟨F, hF⟩ : ∃ F, ts.flatMap Tel.val = F := ⟨_, rfl⟩
        obtain ⟨G, hG⟩ : ∃ G, sp.flatMap qval = G := ⟨_, rfl⟩
        obtain ⟨m1, hm1⟩ : ∃ m, ts.length = m := ⟨_, rfl⟩
        obtain ⟨m2, hm2⟩ : ∃ m, sp.length = m := ⟨_, rfl⟩
        rw [hF] at HFL
        rw [hF, hm1] at hown
        rw [hG, hm2] at hsk
        rw [hm1] at hts
        rw [hm2] at hsp
        have HM := Lib.hid (And.intro hm1 (And.intro hm2 hG))
        have HSK := Lib.hid hsk
        have HOWN := Lib.hid hown
        have HNX := Lib.hid hnx
        clear ho ht hstep hr hc hc2 hS hF hG hm1 hm2 hsk hown hnx HA
        go_wp2_with (first
          | (go_at_call 165; refine K.out.mono ?_; rintro e w2 ⟨rfl, hb2⟩
             have hown2 := owns_kept HOWN.out hb2 (Nat.le_refl _)
             have hsk2 := owns_kept HSK.out hb2 (Nat.le_refl _)
             have HSK2 := Lib.hid hsk2
             have hs2 := hb2.size
             clear hsk2)
          | (at_builtin; refine wpList_append_own _ rfl (.tmp 24) (.tmp 26) 115 rfl w.heap.size 112 i0 (.agg #[.int .i64 0, .int .i64 0, .int .i64 0, .int .i64 0, .int .i64 0, .int .i64 0]) 6 48 Tryz.underlying115 hi hz0 hz1 hz2 rfl (by decide) _ m1 _ rfl ((hown2.alloc _).alloc _) ⟨w2.heap.size + 1, 0, none⟩ 1 1 t.val rfl rfl (cells_new6' _ _ _ _ _ _ _ _ _) (by intro u hu; simp [Tel.val] at hu; rcases hu with rfl | rfl | rfl | rfl | rfl | rfl <;> rfl) (by unfold maxLen; omega) (by omega) (by simp; omega) ?_; intro v' w3 hown3 hgrow3 _))
        have hlt' := hown2.lt
        have hB2 : Below w.heap.size w w2 := HNX.out.trans (hb2.mono hsz)
        have hskE := ((HSK2.out.alloc (.cells #[.int .i64 t.s, .int .i64 t.c, .int .i64 t.o, .int .i64 t.x, .int .i64 t.y, .int .i64 t.z] 112)).alloc (.cells #[.int .i64 t.s, .int .i64 t.c, .int .i64 t.o, .int .i64 t.x, .int .i64 t.y, .int .i64 t.z] 112)).kept hgrow3 (own_ne HSK2.out hown2 (by decide))
        go_roundw
        case rel => exact ⟨k + 24, ts ++ [t], sp, by go_num, by omega, by rw [List.length_append, HM.out.1]; simp; omega, by rw [HM.out.2.1]; omega, HST, by rw [List.length_append, HM.out.1, HFL.out]; exact hown3, by rw [HM.out.2.1, HM.out.2.2]; exact hskE, ((hB2.alloc (by omega) _).alloc (by simp; omega) _).grown hgrow3 (by simp; omega) (fun j hj => (hlt' j hj).1)⟩
        case measure => simp [intOf]; omega
      · have ho := Bool.eq_false_iff.2 ho
        have hstep := rcv_miss (ts := ts) (sp := sp) hlt ho
        rw [ho] at K
        have HST : Hid (rcv S n n (k + 1) ts (extL sp k) = rcv S n n 0 [] []) := Lib.hid (hstep.symm.trans hr.out)
        have hxl := extL_len sp k
        have KE := Lib.hid (fun (w1 : World) (h1 : w.heap.size ≤ w1.heap.size) h2 => extended_any sp k w.heap.size u6 w1 h1 (by omega) (by omega) h2)
        obtain ⟨F, hF⟩ : ∃ F, ts.flatMap Tel.val = F := ⟨_, rfl⟩
        obtain ⟨m1, hm1⟩ : ∃ m, ts.length = m := ⟨_, rfl⟩
        obtain ⟨X, hX⟩ : ∃ X, extL sp k = X := ⟨_, rfl⟩
        rw [hX] at HST KE hxl
        rw [hF, hm1] at hown
        rw [hm1] at hts
        have HM := Lib.hid (And.intro hm1 hF)
        have HSK := Lib.hid hsk
        have HOWN := Lib.hid hown
        have HNX := Lib.hid hnx
        clear ho ht hstep hr hc hc2 hS hF hm1 hX hsk hown hnx HA
        go_wp2_with (first
          | (go_at_call 165; refine K.out.mono ?_; rintro e w2 ⟨rfl, hb2⟩
             have hown2 := owns_kept HOWN.out hb2 (Nat.le_refl _)
             have hsk2 := owns_kept HSK.out hb2 (Nat.le_refl _)
             have HOWN2 := Lib.hid hown2
             have hs2 := hb2.size
             clear hown2)
          | (go_at_call 166; refine (KE.out _ (by simp; omega) (hsk2.alloc _)).mono ?_; rintro e w3 ⟨v', rfl, hown3, hgrow3⟩))
        have hlt' := hsk2.lt
        have hB2 : Below w.heap.size w w2 := HNX.out.trans (hb2.mono hsz)
        have hoE := (HOWN2.out.alloc (.cells #[.int .i64 t.s, .int .i64 t.c, .int .i64 t.o, .int .i64 t.x, .int .i64 t.y, .int .i64 t.z] 112)).kept hgrow3 (own_ne HOWN2.out hsk2 (by decide))
        go_roundw
        case rel => exact ⟨k + 1, ts, X, by go_num, by omega, by rw [HM.out.1]; omega, by omega, HST, by rw [HM.out.1, HM.out.2]; exact hoE, hown3, (hB2.alloc (by omega) _).grown hgrow3 (by simp; omega) (fun j hj => (hlt' j hj).1)⟩
        case measure => simp [intOf]; omega
    · have h4 : ¬ ((k : Int) < (n : Int)) := by omega
      have he := rcv_end (S := S) (ts := ts) (sp := sp) (show n ≤ k by omega)
      have e1 : rcvL S n = ts := by unfold rcvL; rw [← hr.out, he]
      have e2 : rcvP S n = sp := by unfold rcvP; rw [← hr.out, he]
      rw [← e1] at hown
      rw [← e2] at hsk
      have HO := Lib.hid hown
      have HK := Lib.hid hsk
      have HX := Lib.hid hnx
      clear he e1 e2 hown hsk hnx hr
      go_wp2
      refine bodyPost_ret (v := .tuple #[u5, u6, .int .i64 0]) (by simp [results, Tryz.results76, go_sem]) rfl ⟨_, _, rfl, HO.out, HK.out, HX.out⟩

set_option maxRecDepth 100000 in
theorem received_long (a : Option Addr) (n cp : Nat) (hm : 12288 < n) (hl : n ≤ 100000) (w : World) :
    Calls Tryz.prog 76 #[.slice a n cp] w fun e w' => e = .returned (.tuple #[.slice none 0 0, .slice none 0 0, .int .i64 26]) ∧ w = w' := by
  have i1 : (12288 : Int) < (n : Int) := by omega
  have i2 : (n : Int) ≤ 100000 := by omega
  go_enter Tryz.func76, Tryz.ntmps76
  go_wp2
  refine bodyPost_ret (v := .tuple #[.slice none 0 0, .slice none 0 0, .int .i64 26]) (by simp [results, Tryz.results76, go_sem]) rfl ⟨rfl, rfl⟩
end Go.Proofs.YtfdkmmllemkogaaGreatDoor

/-
  Contracts of the comparisons of telegrams and of spans, for equal lists.
-/
namespace Go.Proofs.YtfdkmmllemkogaaGreatDoor
open Go.RowKit
set_option linter.unusedVariables false
set_option linter.unusedSimpArgs false

/-- A slice, nil or not, of spans. -/
def AnySpans (w : World) (a : Option Addr) (n : Nat) (L : List (Int × Int)) : Prop := L.length = n ∧ ∀ j, j < n → ∃ b q, a = some ⟨b, q, none⟩ ∧ b < w.heap.size ∧
  ∀ k, k < n → w.cell? ⟨b, q + k * 2, none⟩ = some (.int .i64 (L[k]?.getD (0, 0)).1) ∧ w.cell? ⟨b, q + k * 2 + 1, none⟩ = some (.int .i64 (L[k]?.getD (0, 0)).2)
theorem AnySpans.kept {w w' : World} {a : Option Addr} {n : Nat} {L : List (Int × Int)} (h : AnySpans w a n L) (hb : Below w.heap.size w w') : AnySpans w' a n L :=
  ⟨h.1, fun j hj => by
    obtain ⟨b, q, e, h1, h2⟩ := h.2 j hj
    exact ⟨b, q, e, Nat.lt_of_lt_of_le h1 hb.size, fun k hk => ⟨(hb.cell (p := ⟨b, q + k * 2, none⟩) h1).trans (h2 k hk).1, (hb.cell (p := ⟨b, q + k * 2 + 1, none⟩) h1).trans (h2 k hk).2⟩⟩⟩
theorem AnySpans.of_row {w : World} {B : Nat} {v : Value} {L : List (Int × Int)} (h : w.ownsRow B 70 2 v L.length (L.flatMap qval)) : ∃ a c, v = .slice a L.length c ∧ AnySpans w a L.length L := by
  rcases h.2 with ⟨rfl, h0⟩ | ⟨g, cap, cur, rfl, hb, hg, _⟩
  · exact ⟨none, 0, by rw [h0], rfl, fun j hj => absurd hj (by omega)⟩
  · refine ⟨_, _, rfl, rfl, fun j hj => ⟨g, 0, rfl, lt_of_blk hg, fun k hk => ?_⟩⟩
    obtain ⟨h1, h2⟩ := flat_at2 L k hk
    have e1 := h.cells (g := g) rfl (k * 2) _ h1
    have e2 := h.cells (g := g) rfl (k * 2 + 1) _ h2
    rw [Addr.add_mid] at e1 e2
    exact ⟨e1, by rw [Nat.add_assoc]; exact e2⟩
theorem AnyTels.of_rowR {w : World} {B : Nat} {v : Value} {n : Nat} {L : List Tel} (hl : L.length = n) (h : w.ownsRow B 107 6 v n (L.flatMap Tel.val)) : ∃ a c, v = .slice a n c ∧ AnyTels w a n L := by
  rcases h.2 with ⟨rfl, rfl⟩ | ⟨g, cap, cur, rfl, hb, hg, _⟩
  · exact ⟨none, 0, rfl, hl, fun j hj => absurd hj (by omega)⟩
  · refine ⟨_, _, rfl, hl, fun j hj => ⟨g, 0, rfl, lt_of_blk hg, fun k hk i u hu => ?_⟩⟩
    have h1 := h.cells (g := g) rfl (6 * k + i) u (flat_val_at L k i u hk hu)
    rw [Addr.add_mid, Nat.zero_add] at h1
    rw [Nat.zero_add, Nat.mul_comm k 6]
    exact h1

set_option maxRecDepth 100000 in
set_option maxHeartbeats 6400000 in
theorem sameTels_any (L : List Tel) (a a' : Option Addr) (n c c' : Nat) (w : World) (hm : n ≤ 13000) (h1 : AnyTels w a n L) (h2 : AnyTels w a' n L) :
    Calls Tryz.prog 81 #[.slice a n c, .slice a' n c'] w fun e w' => e = .returned (.bool true) ∧ Below w.heap.size w w' := by
  have HA := Lib.hid h1.2
  have HA' := Lib.hid h2.2
  have HN := Lib.hid h1.1
  have e0 : ((n : Int) != n) = false := by simp
  have i1 : (n : Int) ≤ 13000 := by omega
  clear h1 h2
  go_enter Tryz.func81, Tryz.ntmps81
  go_wp2
  go_loopw [13] (fun i wr => ∃ k : Nat, k ≤ n ∧ i = .int .i64 k ∧ Below w.heap.size w wr) (fun i _ => n - (intOf i).toNat)
  case atStart => exact ⟨0, Nat.zero_le _, rfl, Below.refl _ _⟩
  case round =>
    obtain ⟨k, hk, rfl, hnx⟩ := hrel
    by_cases hlt : k < n
    · obtain ⟨b, q, rfl, hb, hc⟩ := HA.out k hlt
      obtain ⟨b', q', rfl, hb', hc'⟩ := HA'.out k hlt
      have p0 : wr.cell? ⟨b, q + k * 6, none⟩ = some (.int .i64 (L[k]?.getD tel0).s) := (hnx.cell (p := ⟨b, q + k * 6, none⟩) (by assumption)).trans (hc k (by have := HN.out; omega) 0 _ rfl)
      have p1 : wr.cell? ⟨b, q + k * 6 + 1, none⟩ = some (.int .i64 (L[k]?.getD tel0).c) := (hnx.cell (p := ⟨b, q + k * 6 + 1, none⟩) (by assumption)).trans (hc k (by have := HN.out; omega) 1 _ rfl)
      have p2 : wr.cell? ⟨b, q + k * 6 + 2, none⟩ = some (.int .i64 (L[k]?.getD tel0).o) := (hnx.cell (p := ⟨b, q + k * 6 + 2, none⟩) (by assumption)).trans (hc k (by have := HN.out; omega) 2 _ rfl)
      have p3 : wr.cell? ⟨b, q + k * 6 + 3, none⟩ = some (.int .i64 (L[k]?.getD tel0).x) := (hnx.cell (p := ⟨b, q + k * 6 + 3, none⟩) (by assumption)).trans (hc k (by have := HN.out; omega) 3 _ rfl)
      have p4 : wr.cell? ⟨b, q + k * 6 + 4, none⟩ = some (.int .i64 (L[k]?.getD tel0).y) := (hnx.cell (p := ⟨b, q + k * 6 + 4, none⟩) (by assumption)).trans (hc k (by have := HN.out; omega) 4 _ rfl)
      have p5 : wr.cell? ⟨b, q + k * 6 + 5, none⟩ = some (.int .i64 (L[k]?.getD tel0).z) := (hnx.cell (p := ⟨b, q + k * 6 + 5, none⟩) (by assumption)).trans (hc k (by have := HN.out; omega) 5 _ rfl)
      have r0 : wr.cell? ⟨b', q' + k * 6, none⟩ = some (.int .i64 (L[k]?.getD tel0).s) := (hnx.cell (p := ⟨b', q' + k * 6, none⟩) (by assumption)).trans (hc' k (by have := HN.out; omega) 0 _ rfl)
      have r1 : wr.cell? ⟨b', q' + k * 6 + 1, none⟩ = some (.int .i64 (L[k]?.getD tel0).c) := (hnx.cell (p := ⟨b', q' + k * 6 + 1, none⟩) (by assumption)).trans (hc' k (by have := HN.out; omega) 1 _ rfl)
      have r2 : wr.cell? ⟨b', q' + k * 6 + 2, none⟩ = some (.int .i64 (L[k]?.getD tel0).o) := (hnx.cell (p := ⟨b', q' + k * 6 + 2, none⟩) (by assumption)).trans (hc' k (by have := HN.out; omega) 2 _ rfl)
      have r3 : wr.cell? ⟨b', q' + k * 6 + 3, none⟩ = some (.int .i64 (L[k]?.getD tel0).x) := (hnx.cell (p := ⟨b', q' + k * 6 + 3, none⟩) (by assumption)).trans (hc' k (by have := HN.out; omega) 3 _ rfl)
      have r4 : wr.cell? ⟨b', q' + k * 6 + 4, none⟩ = some (.int .i64 (L[k]?.getD tel0).y) := (hnx.cell (p := ⟨b', q' + k * 6 + 4, none⟩) (by assumption)).trans (hc' k (by have := HN.out; omega) 4 _ rfl)
      have r5 : wr.cell? ⟨b', q' + k * 6 + 5, none⟩ = some (.int .i64 (L[k]?.getD tel0).z) := (hnx.cell (p := ⟨b', q' + k * 6 + 5, none⟩) (by assumption)).trans (hc' k (by have := HN.out; omega) 5 _ rfl)
      obtain ⟨t, ht⟩ : ∃ t, L[k]?.getD tel0 = t := ⟨_, rfl⟩
      rw [ht] at p0 p1 p2 p3 p4 p5 r0 r1 r2 r3 r4 r5
      clear ht
      have h4 : (k : Int) < (n : Int) := by omega
      have h5 : (0 : Int) ≤ (k : Int) := by omega
      clear HA HA' hc hc' HN
      go_wp2_with fail
      go_quiet (fail)
      go_wp2
      go_roundw
      case rel => exact ⟨k + 1, by omega, by go_num, below_drewN hnx _⟩
      case measure => simp [intOf]; omega
    · go_wp2
      go_ret
      exact ⟨rfl, hnx⟩

set_option maxRecDepth 100000 in
set_option maxHeartbeats 6400000 in
theorem sameSpans_any (L : List (Int × Int)) (a a' : Option Addr) (n c c' : Nat) (w : World) (hm : n ≤ 13000) (h1 : AnySpans w a n L) (h2 : AnySpans w a' n L) :
    Calls Tryz.prog 82 #[.slice a n c, .slice a' n c'] w fun e w' => e = .returned (.bool true) ∧ Below w.heap.size w w' := by
  have HA := Lib.hid h1.2
  have HA' := Lib.hid h2.2
  have HN := Lib.hid h1.1
  have e0 : ((n : Int) != n) = false := by simp
  have i1 : (n : Int) ≤ 13000 := by omega
  clear h1 h2
  go_enter Tryz.func82, Tryz.ntmps82
  go_wp2
  go_loopw [5] (fun i wr => ∃ k : Nat, k ≤ n ∧ i = .int .i64 k ∧ Below w.heap.size w wr) (fun i _ => n - (intOf i).toNat)
  case atStart => exact ⟨0, Nat.zero_le _, rfl, Below.refl _ _⟩
  case round =>
    obtain ⟨k, hk, rfl, hnx⟩ := hrel
    by_cases hlt : k < n
    · obtain ⟨b, q, rfl, hb, hc⟩ := HA.out k hlt
      obtain ⟨b', q', rfl, hb', hc'⟩ := HA'.out k hlt
      have p0 := (hnx.cell (p := ⟨b, q + k * 2, none⟩) hb).trans (hc k hlt).1
      have p1 := (hnx.cell (p := ⟨b, q + k * 2 + 1, none⟩) hb).trans (hc k hlt).2
      have r0 := (hnx.cell (p := ⟨b', q' + k * 2, none⟩) hb').trans (hc' k hlt).1
      have r1 := (hnx.cell (p := ⟨b', q' + k * 2 + 1, none⟩) hb').trans (hc' k hlt).2
      obtain ⟨p, hp⟩ : ∃ p, L[k]?.getD (0, 0) = p := ⟨_, rfl⟩
      rw [hp] at p0 p1 r0 r1
      clear hp
      have h4 : (k : Int) < (n : Int) := by omega
      have h5 : (0 : Int) ≤ (k : Int) := by omega
      clear HA HA' hc hc' HN
      go_wp2_with fail
      go_quiet (fail)
      go_wp2
      go_roundw
      case rel => exact ⟨k + 1, by omega, by go_num, below_drewN hnx _⟩
      case measure => simp [intOf]; omega
    · go_wp2
      go_ret
      exact ⟨rfl, hnx⟩

end Go.Proofs.YtfdkmmllemkogaaGreatDoor
