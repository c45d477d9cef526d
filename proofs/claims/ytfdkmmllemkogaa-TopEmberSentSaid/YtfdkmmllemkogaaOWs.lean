/-
  Contracts of telegramOf and its arm, of Decode and of telegramAt, for the frame of a telegram whose numbers are in their ranges.
-/
import Derived.Test.YtfdkmmllemkogaaOWr
namespace Go.Proofs.Ytfdkmmllemkogaa
open Go.RowKit
set_option linter.unusedVariables false

theorem num4 (v : Int) (h0 : 0 ≤ v) (h1 : v ≤ 4294967295) : numOf [byt v 3, byt v 2, byt v 1, byt v 0] = v := by
  simp [numOf, byt]; omega
theorem num2 (v : Int) (h0 : 0 ≤ v) (h1 : v ≤ 65535) : numOf [byt v 1, byt v 0] = v := by
  simp [numOf, byt]; omega

/-- The number of some bytes of a block that is known whole. -/
theorem read_blk (w : World) (f o n cp : Nat) (T : TypeId) (L l : List Int) (h : HasBlk w f T L) (hn : n ≤ 4) (hl : (L.drop o).take n = l) (hll : l.length = n) (hb : ∀ x ∈ l, 0 ≤ x ∧ x ≤ 255) :
    Calls Try.prog 74 #[.slice (some ⟨f, o, none⟩) n cp] w fun e w' => e = .returned (.int .i64 (numOf l)) ∧ w = w' :=
  readNumber_any f o n cp l w hll hn (fun j hj => by
      rw [List.getElem?_eq_getElem (by omega)]
      exact hb _ (List.getElem_mem (by omega)))
    (fun j hj => h.cell (by
      have e : l[j]? = L[o + j]? := by rw [← hl, List.getElem?_take, if_pos hj, List.getElem?_drop]
      have e1 : l[j]? = some l[j] := List.getElem?_eq_getElem (by omega)
      rw [← e, e1]; rfl))

set_option maxRecDepth 100000 in
set_option maxHeartbeats 1600000 in
theorem part0_any (w : World) (f : Nat) (L l : List Int) (h : HasBlk w f 36 L) (hl : (L.drop 5).take 4 = l) (hll : l.length = 4) (hb : ∀ x ∈ l, 0 ≤ x ∧ x ≤ 255)
    (hm : numOf l ≤ 4294967295 ∧ 0 ≤ numOf l) :
    Calls Try.prog 73 #[.int .i64 0, .pointer (some ⟨f, 0, none⟩)] w fun e w' => e = .returned (.int .i64 (numOf l - 1048576)) ∧ w' = w := by
  have K := Lib.hid (fun (w' : World) (cp : Nat) (h' : HasBlk w' f 36 L) => read_blk w' f 5 4 cp 36 L l h' (by omega) hl hll hb)
  have H := Lib.hid h
  clear h hl hb
  go_enter Try.func73, Try.ntmps73
  go_wp2_with (go_at_call 74; refine (K.out _ _ H.out).mono ?_; rintro e w' ⟨rfl, rfl⟩)
  go_ret
  exact ⟨rfl, rfl⟩

set_option maxRecDepth 100000 in
set_option maxHeartbeats 1600000 in
theorem part1_any (w : World) (f : Nat) (L l : List Int) (h : HasBlk w f 36 L) (hl : (L.drop 9).take 4 = l) (hll : l.length = 4) (hb : ∀ x ∈ l, 0 ≤ x ∧ x ≤ 255)
    (hm : numOf l ≤ 4294967295 ∧ 0 ≤ numOf l) :
    Calls Try.prog 73 #[.int .i64 1, .pointer (some ⟨f, 0, none⟩)] w fun e w' => e = .returned (.int .i64 (numOf l - 1048576)) ∧ w' = w := by
  have K := Lib.hid (fun (w' : World) (cp : Nat) (h' : HasBlk w' f 36 L) => read_blk w' f 9 4 cp 36 L l h' (by omega) hl hll hb)
  have H := Lib.hid h
  clear h hl hb
  go_enter Try.func73, Try.ntmps73
  go_wp2_with (go_at_call 74; refine (K.out _ _ H.out).mono ?_; rintro e w' ⟨rfl, rfl⟩)
  go_ret
  exact ⟨rfl, rfl⟩

set_option maxRecDepth 100000 in
set_option maxHeartbeats 1600000 in
theorem part2_any (w : World) (f : Nat) (L l : List Int) (h : HasBlk w f 36 L) (hl : (L.drop 13).take 4 = l) (hll : l.length = 4) (hb : ∀ x ∈ l, 0 ≤ x ∧ x ≤ 255)
    (hm : numOf l ≤ 4294967295 ∧ 0 ≤ numOf l) :
    Calls Try.prog 73 #[.int .i64 2, .pointer (some ⟨f, 0, none⟩)] w fun e w' => e = .returned (.int .i64 (numOf l - 1048576)) ∧ w' = w := by
  have K := Lib.hid (fun (w' : World) (cp : Nat) (h' : HasBlk w' f 36 L) => read_blk w' f 13 4 cp 36 L l h' (by omega) hl hll hb)
  have H := Lib.hid h
  clear h hl hb
  go_enter Try.func73, Try.ntmps73
  go_wp2_with (go_at_call 74; refine (K.out _ _ H.out).mono ?_; rintro e w' ⟨rfl, rfl⟩)
  go_ret
  exact ⟨rfl, rfl⟩

theorem frame_in {s c o x y z : Int} (h : GoodT s c o x y z) : ∀ v ∈ frame s c o x y z, 0 ≤ v ∧ v ≤ 255 := by
  intro v hv
  rcases List.mem_append.1 hv with h1 | h1
  · obtain ⟨j, hj, e⟩ := List.getElem_of_mem h1
    have := frame20_bd h j hj
    rw [List.getElem?_eq_getElem hj] at this
    simp only [Option.getD_some] at this
    omega
  · generalize chkOf (frame20 s c o x y z) = q at h1
    simp only [List.mem_cons, List.not_mem_nil, or_false] at h1
    rcases h1 with rfl | rfl | rfl | rfl <;> exact byt_bd _ _

theorem byt_in (v : Int) : ∀ u ∈ [byt v 3, byt v 2, byt v 1, byt v 0], 0 ≤ u ∧ u ≤ 255 := by
  intro u hu
  simp only [List.mem_cons, List.not_mem_nil, or_false] at hu
  rcases hu with rfl | rfl | rfl | rfl <;> exact byt_bd _ _
theorem byt_in2 (v : Int) : ∀ u ∈ [byt v 1, byt v 0], 0 ≤ u ∧ u ≤ 255 := by
  intro u hu
  simp only [List.mem_cons, List.not_mem_nil, or_false] at hu
  rcases hu with rfl | rfl <;> exact byt_bd _ _

set_option maxRecDepth 100000 in
set_option maxHeartbeats 3200000 in
theorem telegramOf_any (s c o x y z : Int) (h : GoodT s c o x y z) (w : World) :
    Calls Try.prog 67 #[.agg ((frame s c o x y z).map (Value.int .u8)).toArray] w fun e w' =>
      e = .returned (.agg #[.int .i64 s, .int .i64 c, .int .i64 o, .int .i64 x, .int .i64 y, .int .i64 z]) ∧ Below w.heap.size w w' := by
  obtain ⟨h1, h2, h3, h4, h5, h6⟩ := h
  go_enter Try.func67, Try.ntmps67
  go_wp2_with fail
  refine wp_region_still_tail 16 (by kernel_rfl) (by kernel_rfl) ?_
  simp only [List.take_succ_cons, List.take_zero, List.drop_succ_cons, List.drop_zero]
  obtain ⟨W1, hW1⟩ : ∃ W1, W1 = (((w.alloc (.cells ((frame s c o x y z).map (Value.int .u8)).toArray 36)).alloc (.cells #[.int .i64 0, .int .i64 0, .int .i64 0, .int .i64 0, .int .i64 0, .int .i64 0] 35)).drew) := ⟨_, rfl⟩
  change wpStill _ _ (((w.alloc (.cells ((frame s c o x y z).map (Value.int .u8)).toArray 36)).alloc (.cells #[.int .i64 0, .int .i64 0, .int .i64 0, .int .i64 0, .int .i64 0, .int .i64 0] 35)).drew) (fun a' => wpList _ _ _ _ a' (((w.alloc (.cells ((frame s c o x y z).map (Value.int .u8)).toArray 36)).alloc (.cells #[.int .i64 0, .int .i64 0, .int .i64 0, .int .i64 0, .int .i64 0, .int .i64 0] 35)).drew)) _ _
  rw [← hW1]
  have hk : HasBlk W1 w.heap.size 36 (frame s c o x y z) := by
    rw [hW1]
    have hn : (w.alloc (.cells ((frame s c o x y z).map (Value.int .u8)).toArray 36)).heap[w.heap.size]? = some (.cells ((frame s c o x y z).map (Value.int .u8)).toArray 36 (0, 0)) := heap_alloc_new w _
    show ((w.alloc _).alloc _).heap[w.heap.size]? = _
    rw [Below.heap_alloc _ _ _ (by simp)]
    exact hn
  have c1 := hk.cell (j := 1) (v := s) rfl
  have c4 := hk.cell (j := 4) (v := o) rfl
  have k1 := fun cp => (read_blk W1 w.heap.size 2 2 cp 36 _ [byt c 1, byt c 0] hk (by omega) rfl rfl (byt_in2 c)).mono fun e w' (h : _ ∧ _) => (⟨by rw [h.1, num2 c h2.1 h2.2], h.2.symm⟩ : e = .returned (.int .i64 c) ∧ w' = W1)
  have e4 := num4 (x + 1048576) (by omega) (by omega)
  have e5 := num4 (y + 1048576) (by omega) (by omega)
  have e6 := num4 (z + 1048576) (by omega) (by omega)
  have k4 := (part0_any W1 w.heap.size _ [byt (x + 1048576) 3, byt (x + 1048576) 2, byt (x + 1048576) 1, byt (x + 1048576) 0] hk rfl rfl (byt_in _) (by rw [e4]; omega)).mono fun e w' (h : _ ∧ _) => (⟨by rw [h.1, e4]; congr 2; omega, h.2⟩ : e = .returned (.int .i64 x) ∧ w' = W1)
  have k5 := (part1_any W1 w.heap.size _ [byt (y + 1048576) 3, byt (y + 1048576) 2, byt (y + 1048576) 1, byt (y + 1048576) 0] hk rfl rfl (byt_in _) (by rw [e5]; omega)).mono fun e w' (h : _ ∧ _) => (⟨by rw [h.1, e5]; congr 2; omega, h.2⟩ : e = .returned (.int .i64 y) ∧ w' = W1)
  have k6 := (part2_any W1 w.heap.size _ [byt (z + 1048576) 3, byt (z + 1048576) 2, byt (z + 1048576) 1, byt (z + 1048576) 0] hk rfl rfl (byt_in _) (by rw [e6]; omega)).mono fun e w' (h : _ ∧ _) => (⟨by rw [h.1, e6]; congr 2; omega, h.2⟩ : e = .returned (.int .i64 z) ∧ w' = W1)
  have K1 := Lib.hid k1
  have K4 := Lib.hid k4
  have K5 := Lib.hid k5
  have K6 := Lib.hid k6
  have HW1 := Lib.hid hW1
  clear k1 k4 k5 k6 h4 h5 h6 hW1 hk e4 e5 e6 h2
  repeat still_step
  still_call K1.out _
  repeat still_step
  still_call K4.out
  repeat still_step
  still_call K5.out
  repeat still_step
  still_call K6.out
  repeat still_step
  refine wpStill_nil ?_
  rw [HW1.out]
  go_wp2
  refine bodyPost_ret (v := .agg #[.int .i64 s, .int .i64 c, .int .i64 o, .int .i64 x, .int .i64 y, .int .i64 z]) (by simp [results, Try.results67, go_sem]) rfl ⟨rfl, ?_⟩
  go_grown
end Go.Proofs.Ytfdkmmllemkogaa
