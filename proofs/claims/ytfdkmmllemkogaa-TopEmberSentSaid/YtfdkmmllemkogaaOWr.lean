/-
  Contract of Encode for a telegram whose numbers are in their ranges: its frame, without an error.
-/
import Derived.Test.YtfdkmmllemkogaaOWq
namespace Go.Proofs.Ytfdkmmllemkogaa
open Go.RowKit
set_option linter.unusedVariables false

theorem results_row_tmp {P : Program} {fn : Func} {p u : Tmp} {ty : TypeId} (h : fn.results = #[.cell p ty, .tmp u]) (tmps : Array Value) (w : World) (g : Nat) (t : TypeId) (cs : Array Value) (fr : Nat × Nat) (d : TypeDesc)
    (hp : tmps.getD p undef = .pointer (some ⟨g, 0, none⟩)) (hg : w.heap[g]? = some (.cells cs t fr))
    (hu : P.underlying ty = some d) (hd : (match d with | .struct _ | .array _ _ => true | _ => false) = true) (hi : (P.info? ty).map (·.size) = some cs.size) :
    (results fn tmps).run P w = .ok (.tuple #[.agg cs, tmps.getD u undef]) w := by
  rw [results_cell_tmp h, hp]
  simp [asAddr, run_loadVar_row w g t ty cs fr d hg hu hd hi, Result.andThen]

set_option maxRecDepth 100000 in
set_option maxHeartbeats 3200000 in
theorem encode_any (s c o x y z : Int) (h : GoodT s c o x y z) (w : World) :
    Calls Try.prog 7 #[.agg #[.int .i64 s, .int .i64 c, .int .i64 o, .int .i64 x, .int .i64 y, .int .i64 z]] w fun e w' =>
      e = .returned (.tuple #[.agg ((frame s c o x y z).map (Value.int .u8)).toArray, .int .i64 0]) ∧ Below w.heap.size w w' := by
  have K1 := Lib.hid (checkTelegram_any s c o x y z h)
  have K2 := Lib.hid (frameOf_any s c o x y z h)
  clear h
  go_enter Try.func7, Try.ntmps7
  go_wp2_with fail
  refine (K1.out _).mono ?_
  rintro e w1 ⟨rfl, hb1⟩
  have b0 : w1.cell? ⟨w.heap.size, 0, none⟩ = some (.int .i64 s) := by rw [hb1.cell (by simp; try omega)]; simp [go_sem]
  have b1 : w1.cell? ⟨w.heap.size, 1, none⟩ = some (.int .i64 c) := by rw [hb1.cell (by simp; try omega)]; simp [go_sem]
  have b2 : w1.cell? ⟨w.heap.size, 2, none⟩ = some (.int .i64 o) := by rw [hb1.cell (by simp; try omega)]; simp [go_sem]
  have b3 : w1.cell? ⟨w.heap.size, 3, none⟩ = some (.int .i64 x) := by rw [hb1.cell (by simp; try omega)]; simp [go_sem]
  have b4 : w1.cell? ⟨w.heap.size, 4, none⟩ = some (.int .i64 y) := by rw [hb1.cell (by simp; try omega)]; simp [go_sem]
  have b5 : w1.cell? ⟨w.heap.size, 5, none⟩ = some (.int .i64 z) := by rw [hb1.cell (by simp; try omega)]; simp [go_sem]
  have r1 : w1.heap[w.heap.size + 1]? = some (.cells ((List.replicate 24 (Value.int .u8 0)).toArray) 36 (0, 0)) := by
    refine (hb1.block _ (by simp)).trans ?_
    exact heap_alloc2_new w _ _
  have hB : Below w.heap.size w w1 := (((Below.refl _ w).alloc (Nat.le_refl _) _).alloc (by simp) _).trans (hb1.mono (by simp; omega))
  have hs : w.heap.size + 1 < w1.heap.size := (Array.getElem?_eq_some_iff.1 r1).1
  have R1 := Lib.hid r1
  have HB := Lib.hid hB
  clear hb1 r1 hB
  go_wp2_with fail
  refine (K2.out _).mono ?_
  rintro e w2 ⟨rfl, hb2⟩
  have R2 := Lib.hid ((hb2.block _ hs).trans R1.out)
  have HB2 := Lib.hid (HB.out.trans (hb2.mono HB.out.size))
  clear b0 b1 b2 b3 b4 b5 hb2
  go_wp2_with (refine wpList_store_row rfl 36 (.tmp 2) (.tmp 12) rfl (w.heap.size + 1) rfl _ rfl 36 _ R2.out ?i2 ?i3 ?i4 ?_)
  case i2 => simp [frame_len]
  case i3 => rw [size24]; simp [frame_len]
  case i4 => intro v hv; rfl
  go_wp2
  refine bodyPost_ret (results_row_tmp Try.results7 _ _ (w.heap.size + 1) 36 _ (0, 0) _ rfl (setRow_heap w2 _ _ _ _ _ R2.out) Try.underlying36 rfl (by rw [size24]; simp [frame_len])) rfl ⟨rfl, ?_⟩
  exact HB2.out.trans ((OnlyBlk.setRow w2 (w.heap.size + 1) _).below HB2.out.size (by omega))
end Go.Proofs.Ytfdkmmllemkogaa
