/-
  Contract of Print for a right map: the line of the sides, then a line for each row of its integers. Condition: the library's table of the powers of ten lies as it is laid.
-/
import Derived.Test.YtnbohpcaejbpeaaGreatDoorCHi
import Derived.Test.YtnbohpcaejbpeaaGreatDoorCZk
import Derived.Test.YtnbohpcaejbpeaaGreatDoorCWe
import Derived.Test.YtnbohpcaejbpeaaGreatDoorCWh
namespace Go.Proofs.YtnbohpcaejbpeaaGreatDoor
open Go.RowKit Go.Shelf
set_option linter.unusedVariables false
set_option linter.unusedSimpArgs false
attribute [local go_sem] Oper.semAt_some

/-- The integers of row y of a map that is W wide; the lines of some rows; the text. -/
def rowOf (W : Nat) (ks : List Int) (y : Nat) : List Int := (ks.drop (y * W)).take W
def rowsL (W : Nat) (ks : List Int) (ys : List Nat) : List UInt8 := ys.flatMap (fun y => lineL [114, 111, 119] (rowOf W ks y))
def textL (W H : Nat) (ks : List Int) : List UInt8 := lineL [109, 97, 112] [(W : Int), (H : Int)] ++ rowsL W ks (List.range H)
theorem rowsL_snoc (W : Nat) (ks : List Int) (ys : List Nat) (y : Nat) : rowsL W ks (ys ++ [y]) = rowsL W ks ys ++ lineL [114, 111, 119] (rowOf W ks y) := by simp [rowsL]
theorem line_len (wd : List UInt8) (ks : List Int) (h : ∀ k ∈ ks, k.natAbs < 2 ^ 40) : (lineL wd ks).length ≤ wd.length + 22 * ks.length + 1 := by
  have := join_len wd ks h
  unfold lineL
  rw [List.length_append]
  simp only [List.length_cons, List.length_nil]
  omega
theorem rowOf_get (W : Nat) (ks : List Int) (y j : Nat) (hj : j < W) : (rowOf W ks y)[j]?.getD 0 = ks[y * W + j]?.getD 0 := by
  unfold rowOf
  rw [List.getElem?_take, if_pos hj, List.getElem?_drop]
theorem rowOf_len (W : Nat) (ks : List Int) (y : Nat) (h : y * W + W ≤ ks.length) : (rowOf W ks y).length = W := by
  unfold rowOf
  rw [List.length_take, List.length_drop]; omega
theorem rowOf_mem {W : Nat} {ks : List Int} {y : Nat} {k : Int} (h : k ∈ rowOf W ks y) : k ∈ ks := List.mem_of_mem_drop (List.mem_of_mem_take h)
theorem rowsL_len (W : Nat) (ks : List Int) (hk : ∀ k ∈ ks, k.natAbs < 2 ^ 40) (ys : List Nat) : (rowsL W ks ys).length ≤ ys.length * (4 + 22 * W) := by
  induction ys with
  | nil => simp [rowsL]
  | cons y ys ih =>
    have h1 := line_len [114, 111, 119] (rowOf W ks y) (fun k hk' => hk k (rowOf_mem hk'))
    have h2 : (rowOf W ks y).length ≤ W := by unfold rowOf; rw [List.length_take]; omega
    have e : rowsL W ks (y :: ys) = lineL [114, 111, 119] (rowOf W ks y) ++ rowsL W ks ys := by simp [rowsL]
    rw [e, List.length_append, List.length_cons, Nat.add_mul]
    simp only [List.length_cons, List.length_nil] at h1
    omega

set_option maxRecDepth 100000 in
set_option maxHeartbeats 6400000 in
theorem print_any (W H : Nat) (b o c n : Nat) (xs : List Nat) (ks : List Int) (w : World) (hA : RightMap w W H b o n xs ks) (hb : b < w.heap.size) (ht : TabAt w) :
    Calls Tryz.prog 7 #[.agg #[.int .i64 W, .int .i64 H, .slice (some ⟨b, o, none⟩) n c]] w fun e w' => e = .returned (.tuple #[strV (textL W H ks), .int .i64 0]) ∧ Below w.heap.size w w' := by
  obtain ⟨W0, hW0⟩ : ∃ W0, w.alloc (.cells #[.int .i64 W, .int .i64 H, .slice (some ⟨b, o, none⟩) n c] 30) = W0 := ⟨_, rfl⟩
  have hB0 : Below w.heap.size w W0 := by rw [← hW0]; exact (Below.refl _ w).alloc (Nat.le_refl _) _
  have hS0 : W0.heap.size = w.heap.size + 1 := by rw [← hW0]; simp
  have a0 : W0.cell? ⟨w.heap.size, 0, none⟩ = some (.int .i64 W) := by rw [← hW0]; simp [go_sem]
  have a1 : W0.cell? ⟨w.heap.size, 1, none⟩ = some (.int .i64 H) := by rw [← hW0]; simp [go_sem]
  have a2 : W0.cell? ⟨w.heap.size, 2, none⟩ = some (.slice (some ⟨b, o, none⟩) n c) := by rw [← hW0]; simp [go_sem]
  have K1 := Lib.hid (checkMap_any W H b o n c xs ks W0 (hA.below hB0 hb) (by omega))
  have K2 : Hid (∀ w1 : World, Below W0.heap.size W0 w1 → Calls Tryz.prog 43 #[.agg #[.int .i64 W, .int .i64 H, .slice (some ⟨b, o, none⟩) n c]] w1 fun e w' =>
      ∃ g, e = .returned (.agg #[.int .i64 W, .int .i64 H, .slice (some ⟨g, 0, none⟩) n n]) ∧ w1.heap.size ≤ g ∧ g < w'.heap.size ∧ (∃ cur, w'.heap[g]? = some (.cells cur 3 (0, 0))) ∧ RowAt w' g n ks ∧ Below w1.heap.size w1 w') := Lib.hid (fun w1 h => by
    have h1 := h.size
    have h2 := hB0.trans (h.mono (by omega))
    have hw := (hA.below h2 hb).toWords
    exact (gridOf_any W H b o n c xs ks w1 hw (by omega)).mono fun e w' ⟨he, ho, hB⟩ => ⟨_, he, by omega, (ho.lt _ rfl).2, (by
      rcases ho.2 with ⟨h, _⟩ | ⟨g, cap, cur, e1, _, hg, _⟩
      · cases h
      · simp at e1; obtain ⟨rfl, rfl⟩ := e1; exact ⟨cur, hg⟩), ⟨(ho.lt _ rfl).2, fun j hj => owns_cell ho (by
      rw [List.getElem?_map, List.getElem?_eq_getElem (by rw [hw.lenk]; exact hj)]; rfl)⟩, hB⟩)
  have hW := hA.wid
  have hH := hA.hei
  have hbd : ∀ k ∈ ks, k.natAbs < 2 ^ 40 := fun k hk' => by
    obtain ⟨j, hj, rfl⟩ := List.getElem_of_mem hk'
    have := hA.sizes j (by rw [← hA.lenk]; exact hj)
    rw [List.getElem?_eq_getElem hj] at this
    have h3 : (some ks[j]).getD 0 = ks[j] := rfl
    rw [h3] at this
    have : (16384 : Nat) < 2 ^ 40 := by decide
    omega
  have HBD := Lib.hid hbd
  have HB0 := Lib.hid hB0
  have HS0 := Lib.hid hS0
  have HRA := Lib.hid hA
  have HT := Lib.hid ht
  clear hA hB0 ht hbd
  refine (callsIn_wide (n := 6)).1 ?_
  refine callsIn_of_wp_marks Tryz.func7 rfl trivial ?_ rfl
  simp only [Tryz.ntmps7, List.size_toArray, List.length_cons, List.length_nil, Nat.reduceAdd, Nat.reduceSub, Array.replicate_succ, Array.replicate_zero, List.push_toArray, List.append_toArray, List.nil_append, List.cons_append]
  refine wpIn_wide.2 ?_
  go_upto_region 1 with fail
  try rw [hW0]
  clear hW0
  go_upto_region 5 with (
    ((go_at_call 39; refine K1.out.mono ?_; rintro e w1 ⟨rfl, hb1⟩
      have hs1 := hb1.size)))
  have hbld0 : Lib.IsBuilderF 92 5 w1.heap.size w1.heap.size (Lib.byteCells []) (w1.alloc (.cells #[.pointer none, .slice none 0 0] 92)) := Lib.IsBuilderF.of (Lib.fresh_isBuilder _ _ _)
  obtain ⟨W2, hW2⟩ : ∃ W2, w1.alloc (.cells #[.pointer none, .slice none 0 0] 92) = W2 := ⟨_, rfl⟩
  have hB2 : Below W0.heap.size W0 W2 := by rw [← hW2]; exact hb1.alloc hs1 _
  have hS2 : W2.heap.size = w1.heap.size + 1 := by rw [← hW2]; simp
  rw [hW2] at hbld0 ⊢
  clear hW2 hb1
  have a0' := (hB2.cell (p := ⟨w.heap.size, 0, none⟩) (by show w.heap.size < _; omega)).trans a0
  have a1' := (hB2.cell (p := ⟨w.heap.size, 1, none⟩) (by show w.heap.size < _; omega)).trans a1
  obtain ⟨W3, hW3⟩ : ∃ W3, W2.alloc (.cells #[.int .i64 W, .int .i64 H] 3) = W3 := ⟨_, rfl⟩
  have hB3 : Below W2.heap.size W2 W3 := by rw [← hW3]; exact (Below.refl _ W2).alloc (Nat.le_refl _) _
  have hS3 : W3.heap.size = W2.heap.size + 1 := by rw [← hW3]; simp
  have hc3 : W3.heap[W2.heap.size]? = some (.cells #[.int .i64 W, .int .i64 H] 3 (0, 0)) := by rw [← hW3]; exact blk_alloc_new _ _
  have hBW3 : Below w.heap.size w W3 := (HB0.out.trans (hB2.mono (by omega))).trans (hB3.mono (by omega))
  have KL : Hid (Calls Tryz.prog 41 #[.string ⟨#[109, 97, 112]⟩, .slice (some ⟨W2.heap.size, 0, none⟩) 2 2] W3 fun e w' => e = .returned (strV (lineL [109, 97, 112] [(W : Int), (H : Int)])) ∧ Below W3.heap.size W3 w') := Lib.hid (by
    have h := line_any (w := W3) [109, 97, 112] W2.heap.size 0 2 2 [(W : Int), (H : Int)] (by decide) rfl (by omega) (by omega) (HT.out.on hBW3) (fun j hj => by
      match j, hj with
      | 0, _ => rw [cell_of_row W3 _ 0 _ _ (0, 0) hc3]; rfl
      | 1, _ => rw [cell_of_row W3 _ 1 _ _ (0, 0) hc3]; rfl) (fun j hj => by
      match j, hj with
      | 0, _ => show (W : Int).natAbs < 2 ^ 40; omega
      | 1, _ => show (H : Int).natAbs < 2 ^ 40; omega)
    exact h)
  have hml : (lineL [109, 97, 112] [(W : Int), (H : Int)]).length ≤ 48 := by
    have := line_len [109, 97, 112] [(W : Int), (H : Int)] (fun k hk => by simp at hk; rcases hk with rfl | rfl <;> omega)
    simpa using this
  obtain ⟨L0, hL0⟩ : ∃ L0, lineL [109, 97, 112] [(W : Int), (H : Int)] = L0 := ⟨_, rfl⟩
  rw [hL0] at KL hml
  have hbld3 : Lib.IsBuilderF 92 5 w1.heap.size w1.heap.size (Lib.byteCells []) W3 := by
    rcases hbld0 with h | h
    · exact .inl (bld_kept h hB3 (Nat.le_refl _))
    · exact .inr (bld_kept h hB3 (Nat.le_refl _))
  have HL0 := Lib.hid hL0
  have HBL := Lib.hid hbld3
  have HB2 := Lib.hid hB2
  have HBW3 := Lib.hid hBW3
  have HB3 := Lib.hid hB3
  have HS2 := Lib.hid hS2
  have HS3 := Lib.hid hS3
  have iS2 : w1.heap.size + 1 ≤ W2.heap.size := by omega
  have iS3 : W2.heap.size + 1 ≤ W3.heap.size := by omega
  have iS0 : w.heap.size + 1 ≤ W0.heap.size := by omega
  clear hL0 hbld0 hbld3 hc3 hB2 hBW3 hB3 hS2 hS3 hS0
  unfold strV at KL
  go_upto_region 6 with (first
    | (go_at_call 41; (try rw [hW3]); refine KL.out.mono ?_; rintro e w4 ⟨rfl, hb4⟩
       have hs4 := hb4.size
       have hbld4 : Lib.IsBuilderF 92 5 w1.heap.size w1.heap.size (Lib.byteCells []) w4 := by
         rcases HBL.out with h | h
         · exact .inl (bld_kept h hb4 (Nat.le_refl _))
         · exact .inr (bld_kept h hb4 (Nat.le_refl _))
       have KB := Lib.hid (bld_write w1.heap.size w1.heap.size [] L0 w4 hbld4 (by simp only [List.length_nil]; omega) (by omega)))
    | (go_at_call 40; refine KB.out.mono ?_; rintro e w5 ⟨rfl, hbld5, hb5, ho5⟩))
  have hB5 : Below W0.heap.size W0 w5 := ((HB2.out.trans (HB3.out.mono (by have := HB2.out.size; omega))).trans (hb4.mono (by have := HB2.out.size; omega))).trans (hb5.mono (by omega))
  have a0' := (hB5.cell (p := ⟨w.heap.size, 0, none⟩) (by show w.heap.size < _; omega)).trans a0
  have a1' := (hB5.cell (p := ⟨w.heap.size, 1, none⟩) (by show w.heap.size < _; omega)).trans a1
  have a2' := (hB5.cell (p := ⟨w.heap.size, 2, none⟩) (by show w.heap.size < _; omega)).trans a2
  have hbl5 := hbld5.lt
  have iB5 := hB5.size
  have K3 := Lib.hid (K2.out w5.drew hB5.drew)
  have HBL5 := Lib.hid hbld5
  have HB5 := Lib.hid hB5
  clear hbld5 hB5 a0 a1 a2 hb4 ho5
  have hfld : ∀ (g : Nat) (w : World), (Instr.field 102 (.agg #[.int .i64 W, .int .i64 H, .slice (some ⟨g, 0, none⟩) n n]) 2).run Tryz.prog w = .ok (.slice (some ⟨g, 0, none⟩) n n) w := fun _ _ => by kernel_rfl
  go_region_held3 (fun w' => w'.cell? ⟨w.heap.size, 0, none⟩ = some (.int .i64 W) ∧ w'.cell? ⟨w.heap.size, 1, none⟩ = some (.int .i64 H) ∧ w'.cell? ⟨w.heap.size, 2, none⟩ = some (.slice (some ⟨b, o, none⟩) n c))
    (first | go_keep | (go_split_ands; refine ⟨?_, ?_, ?_⟩ <;> (rw [hb6.cell (by simp; try omega)]; assumption)))
    (first
      | (go_at_call 43; refine K3.out.mono ?_; rintro e w6 ⟨ga, rfl, hga1, hga2, ⟨cur, hgc⟩, hRow, hb6⟩; (obtain ⟨hcc, hff⟩ := bcell hb6))
      | (go_at_call 42; refine (chunk_any _ _ _ _ (by omega) _).mono ?_; rintro e w7 ⟨rfl, rfl⟩))
  have hb6 : Below w5.heap.size w5 w6 := (Below.refl w5.heap.size w5).drew.trans hb6
  have hbl6 : Bld w1.heap.size w1.heap.size (.pointer (some ⟨w1.heap.size, 0, none⟩)) L0 w6 := bld_kept HBL5.out hb6 (Nat.le_refl _)
  have hs6 := hb6.size
  have hga0 : w1.heap.size < ga := by have : w5.heap.size ≤ ga := hga1; omega
  obtain ⟨W7, hW7⟩ : ∃ W7, (w6.alloc (.cells #[.slice (some ⟨ga, 0, none⟩) n n] 84)).alloc (.cells #[.int .i64 W] 3) = W7 := ⟨_, rfl⟩
  have bS : Boxed W7 w6.heap.size 84 (.slice (some ⟨ga, 0, none⟩) n n) := by rw [← hW7]; exact (Boxed.new w6 _ _).alloc _
  have bN : Boxed W7 (w6.heap.size + 1) 3 (.int .i64 W) := by rw [← hW7]; exact blk_alloc_new1 _ _ _
  have hS7 : w6.heap.size + 2 ≤ W7.heap.size := by rw [← hW7]; simp
  have ka : W7.heap[ga]? = some (.cells cur 3 (0, 0)) := by rw [← hW7]; exact blk_alloc_other (blk_alloc_other hgc _) _
  have kb : Bld w1.heap.size w1.heap.size (.pointer (some ⟨w1.heap.size, 0, none⟩)) L0 W7 := by rw [← hW7]; exact (hbl6.alloc _).alloc _
  have hB7 : Below w.heap.size w W7 := by
    rw [← hW7]
    exact (((HB0.out.trans (HB5.out.mono (by omega))).trans ((show Below w5.heap.size w5 w6 from hb6).mono (by omega))).alloc (by omega) _).alloc (by simp; omega) _
  have hN : H * W = n := by have := HRA.out.area; rw [Nat.mul_comm]; exact_mod_cast this
  have hcell : ∀ Wx : World, Wx.heap[ga]? = some (.cells cur 3 (0, 0)) → ∀ j, j < n → Wx.cell? ⟨ga, j, none⟩ = some (.int .i64 (ks[j]?.getD 0)) := fun Wx h j hj =>
    (World.cell?_of_block (w := w6) (w' := Wx) (a := ⟨ga, j, none⟩) (h.trans hgc.symm)).trans (hRow.cells j hj)
  have HCELL := Lib.hid hcell
  have HN := Lib.hid hN
  clear hRow hgc hbl6 hb6 hcell hN hb5 hcc hff
  try rw [hW7]
  clear hW7
  go_wp2_with fail
  have hro : Fence.wide.round = none := rfl
  have hnn := HRA.out.small
  have hW1 : 1 ≤ W := by omega
  refine (wpIn_wide (n := 6)).1 ?_
  refine wpIn_rangeFunc_ownH hro (by omega) (gf := 103) (lb := #[.pointer (some ⟨w6.heap.size, 0, none⟩), .pointer (some ⟨w6.heap.size + 1, 0, none⟩)]) rfl trivial (enters_of Tryz.func103 (by kernel_rfl) rfl)
    (chunk_stops Fence.wide (6 - 1) trivial hro (by omega) w6.heap.size (w6.heap.size + 1) ga W H n hW1 HN.out hnn W7 (by omega) (by omega) bS.cell bN.cell) KeepsTwo.t KeepsTwo.b (Below.refl _ _) (fun _ => rfl)
    (fun pre W1 => (Bld w1.heap.size w1.heap.size (.pointer (some ⟨w1.heap.size, 0, none⟩)) (L0 ++ rowsL W ks (pre.map Subtype.val)) W1 ∧ (Boxed W1 w6.heap.size 84 (.slice (some ⟨ga, 0, none⟩) n n) ∧ Boxed W1 (w6.heap.size + 1) 3 (.int .i64 W) ∧ W1.heap[ga]? = some (.cells cur 3 (0, 0)))) ∧ Below w.heap.size w W1)
    (fun _ _ _ => False)
    (OwnFrom.and (OwnFrom.and (Own.from (bld_own w1.heap.size w1.heap.size _ (fun pre : List (Ch H) => L0 ++ rowsL W ks (pre.map Subtype.val))) _) (OwnFrom.and (Own.from (boxed_own _ _ (fun _ => .slice (some ⟨ga, 0, none⟩) n n)) _) (OwnFrom.and (Own.from (boxed_own _ _ (fun _ => .int .i64 W)) _) (Own.from (row_own _ _ _) _)))) (ownFrom_below (by omega) (by omega)))
    (fun _ _ _ _ _ hs _ _ => hs)
    ⟨⟨by simpa [rowsL] using kb, bS, bN, ka⟩, hB7⟩
    (fun p a' W1 => a' = { tmps := #[.agg #[.int .i64 W, .int .i64 H, .slice (some ⟨b, o, none⟩) n c], .pointer (some ⟨w.heap.size, 0, none⟩), .string ⟨#[]⟩, .int .i64 0, .int .i64 0, .pointer (some ⟨w1.heap.size, 0, none⟩), .slice (some ⟨ga, p.1 * W, none⟩) W W, .agg #[.int .i64 W, .int .i64 H, .slice (some ⟨b, o, none⟩) n c], .int .i64 0, .int .i64 0, .bool false, undef, .pointer (some ⟨w.heap.size, 0, none⟩), .int .i64 W, .pointer (some ⟨w.heap.size, 1, none⟩), .int .i64 H, .slice (some ⟨W2.heap.size, 0, none⟩) 2 2, .string ⟨L0.toArray⟩, .tuple #[.int .i64 L0.length, .nilIface], .agg #[.int .i64 W, .int .i64 H, .slice (some ⟨b, o, none⟩) n c], .agg #[.int .i64 W, .int .i64 H, .slice (some ⟨ga, 0, none⟩) n n], .slice (some ⟨ga, 0, none⟩) n n, .pointer (some ⟨w.heap.size, 0, none⟩), .int .i64 W, .func (.func 103) #[] #[.pointer (some ⟨w6.heap.size, 0, none⟩), .pointer (some ⟨w6.heap.size + 1, 0, none⟩)], .slice (some ⟨ga, p.1 * W, none⟩) W W, undef, undef, undef, undef], defers := [] })
    (fun p a' _ X Y row hs hg hr => hs)
    ?assign ?body ?done ?stop
  case assign =>
    rintro l pre p W1 K ⟨⟨b8, b6, b7, ba⟩, hB1⟩ hK
    have hsz1 := hB1.size
    gi_wp2
    exact hK _ _ ((KeepsOthers.refl _).from _) (fun x => x) ⟨⟨b8, b6, b7, ba⟩, hB1⟩ rfl
  case body =>
    rintro l pre p a' W1 hl ⟨r, hr⟩ ⟨⟨b8, b6, b7, ba⟩, hB1⟩ rfl hlt
    have hsz1 := hB1.size
    have hl8 := b8.lt
    have hl6 := b6.lt
    have hl7 := b7.lt
    have hla := lt_of_blk ba
    have hmw : p.1 * W + W ≤ n := by
      rw [← HN.out]
      have := Nat.mul_le_mul_right W (show p.1 + 1 ≤ H from p.2)
      rw [Nat.add_mul] at this; omega
    have hrl : (rowOf W ks p.1).length = W := rowOf_len W ks p.1 (by rw [HRA.out.lenk]; exact hmw)
    have KL : Hid (Calls Tryz.prog 41 #[.string ⟨#[114, 111, 119]⟩, .slice (some ⟨ga, p.1 * W, none⟩) W W] W1 fun e w' => e = .returned (strV (lineL [114, 111, 119] (rowOf W ks p.1))) ∧ Below W1.heap.size W1 w') := Lib.hid (by
      have h := line_any (w := W1) [114, 111, 119] ga (p.1 * W) W W (rowOf W ks p.1) (by decide) hrl (by omega) (by omega) (HT.out.on hB1) (fun j hj => by
        rw [rowOf_get W ks p.1 j hj]; exact HCELL.out W1 ba _ (by omega)) (fun j hj => by
        rw [rowOf_get W ks p.1 j hj]
        have := HRA.out.sizes (p.1 * W + j) (by omega)
        omega)
      exact h)
    have hnl := line_len [114, 111, 119] (rowOf W ks p.1) (fun k hk => HBD.out k (rowOf_mem hk))
    rw [hrl] at hnl
    obtain ⟨L1, hL1⟩ : ∃ L1, lineL [114, 111, 119] (rowOf W ks p.1) = L1 := ⟨_, rfl⟩
    have hpl := rowsL_len W ks HBD.out (pre.map Subtype.val)
    rw [List.length_map] at hpl
    have hpl2 : pre.length * (4 + 22 * W) ≤ 64 * (4 + 22 * 64) := Nat.mul_le_mul (by omega) (by omega)
    have hsn : rowsL W ks ((pre ++ [p]).map Subtype.val) = rowsL W ks (pre.map Subtype.val) ++ L1 := by rw [List.map_append, List.map_cons, List.map_nil, rowsL_snoc, hL1]
    obtain ⟨L2, hL2⟩ : ∃ L2, L0 ++ rowsL W ks (pre.map Subtype.val) = L2 := ⟨_, rfl⟩
    have hl2 : L2.length ≤ 200000 := by rw [← hL2, List.length_append]; omega
    have hsn2 : L0 ++ rowsL W ks ((pre ++ [p]).map Subtype.val) = L2 ++ L1 := by rw [hsn, ← hL2, List.append_assoc]
    rw [hL1] at KL hnl
    rw [hL2] at b8
    simp only [List.length_cons, List.length_nil] at hnl
    have HSN := Lib.hid hsn2
    have HB8 := Lib.hid b8
    clear hL1 hL2 hsn hsn2 b8 hrl hpl hpl2
    unfold strV at KL
    gi_wp2_with (first
      | ((refine ⟨trivial, ?_⟩; gi_at_call 41; refine (CallsIn.inRound l (callsIn_wide.2 KL.out)).mono ?_; rintro e v2 ⟨rfl, hc2⟩
          have hsv2 := hc2.size
          have hbv2 := bld_kept HB8.out hc2 (Nat.le_refl _)
          have KB := Lib.hid (bld_write w1.heap.size w1.heap.size L2 L1 v2 (.inr hbv2) (by omega) (by omega))))
      | ((refine ⟨trivial, ?_⟩; gi_at_call 40; refine (CallsIn.inRound l (callsIn_wide.2 KB.out)).mono ?_; rintro e v3 ⟨rfl, hbv3, hc3, ho3⟩)))
    have hsv3 := hc3.size
    have g6 : Boxed v3 w6.heap.size 84 (.slice (some ⟨ga, 0, none⟩) n n) := oth_row ho3 ((hc2.block _ hl6).trans b6) (by omega) (by decide)
    have g7 : Boxed v3 (w6.heap.size + 1) 3 (.int .i64 W) := oth_row ho3 ((hc2.block _ hl7).trans b7) (by omega) (by decide)
    have ga3 := oth_row ho3 ((hc2.block _ hla).trans ba) (by omega) (by decide)
    refine ⟨((KeepsOthers.of_below hc2).trans (oth_keeps ho3 hsv3 (by obtain ⟨_, v, hbk, _⟩ := hbv2; exact ⟨_, _, _, hbk⟩))).from _, fun _ => ⟨g6.cell, g7.cell⟩, ⟨by rw [HSN.out]; exact hbv3, g6, g7, ga3⟩, (hB1.trans (hc2.mono hsz1)).trans (hc3.mono (by omega))⟩
  case done =>
    rintro D ys W1 hD hys ⟨⟨b8, b6, b7, ba⟩, hB1⟩ hK
    rw [hys, ← HL0.out] at b8
    have hsz1 := hB1.size
    have KB := Lib.hid (bld_string w1.heap.size w1.heap.size (textL W H ks) W1 (.inr b8) (by have := b8.lt; omega))
    obtain ⟨_, vb, hbk, _⟩ := b8
    go_wp2_with (go_at_call 44; refine KB.out.mono ?_; rintro e v2 ⟨rfl, hc2, ho2⟩)
    have kF : v2.heap[D]? = some (.deferred (some [])) := ho2 D _ hK (fun e => by have := Option.some.inj e; omega) (fun c fz e => by cases e)
    refine ⟨by simp, .inl ⟨_, _, rfl, run_takeDeferred kF, ?_⟩⟩
    exact ⟨_, by simp [results, Tryz.results7, go_sem], rfl, (hB1.trans (hc2.mono (by omega))).trans (belowK_b (w := w) (Nat.le_refl _) v2 D _ _ (by omega) kF rfl rfl)⟩
  case stop =>
    rintro D c pre W1 _ _ h _
    exact h.elim
end Go.Proofs.YtnbohpcaejbpeaaGreatDoor

/-
  Plain facts on any word of float32: the error that a sample's check answers for it (smpErr), and what the steps of the program's check make of the number that it stands for.
-/
namespace Go.Proofs.YtnbohpcaejbpeaaGreatDoor
open Ieee

/-- The error of a word as a sample: 1 for what is no number, 3 for no multiple of 1/16 up to 1024, otherwise 0. -/
def smpErr (x : Nat) : Int :=
  match single.read x with
  | .number _ m e => if m * 2 ^ (e - single.leastPlace).toNat ≤ 1024 * 2 ^ 149 ∧ m * 2 ^ (e - single.leastPlace).toNat % 2 ^ 145 = 0 then 0 else 3
  | _ => 1

theorem smpErr_num {x : Nat} {s : Bool} {v : Nat} (h : IsNum single x s v) : smpErr x = if v ≤ 1024 * 2 ^ 149 ∧ v % 2 ^ 145 = 0 then 0 else 3 := by
  obtain ⟨m, e, h1, _, _, rfl⟩ := h
  unfold smpErr
  rw [h1]

theorem smpErr_ok {x : Nat} {s : Bool} {v : Nat} (h : IsNum single x s v) (h1 : v ≤ 1024 * 2 ^ 149) (h2 : v % 2 ^ 145 = 0) : smpErr x = 0 := by
  rw [smpErr_num h, if_pos ⟨h1, h2⟩]
theorem smpErr_large {x : Nat} {s : Bool} {v : Nat} (h : IsNum single x s v) (h1 : ¬ v ≤ 1024 * 2 ^ 149) : smpErr x = 3 := by
  rw [smpErr_num h, if_neg fun hh => h1 hh.1]
theorem smpErr_fine {x : Nat} {s : Bool} {v : Nat} (h : IsNum single x s v) (h1 : ¬ v % 2 ^ 145 = 0) : smpErr x = 3 := by
  rw [smpErr_num h, if_neg fun hh => h1 hh.2]
theorem smpErr_nan {x : Nat} {a : Bool} {b : Nat} (h : single.read x = .nan a b) : smpErr x = 1 := by unfold smpErr; rw [h]
theorem smpErr_inf {x : Nat} {s : Bool} (h : single.read x = .infinity s) : smpErr x = 1 := by unfold smpErr; rw [h]

/-- A finite word of float32 stands for at most the greatest one. -/
theorem num_bound {x : Nat} {s : Bool} {m : Nat} {e : Int} (h : single.read x = .number s m e) : m * 2 ^ (e - single.leastPlace).toNat ≤ 16777215 * 2 ^ 253 := by
  have hm : m < 2 ^ 24 := by
    obtain ⟨m', e', k1, _, k3, _⟩ := isNum_of_read h
    rw [h] at k1
    simp only [Datum.number.injEq] at k1
    rw [k1.2.1]; exact k3
  have he : (e - single.leastPlace).toNat ≤ 253 := by
    have hi : single.infRung = 255 * single.binade := by decide
    have hbp : 0 < single.binade := Nat.two_pow_pos _
    unfold Format.read at h
    dsimp only at h
    split at h
    · simp only [Datum.number.injEq] at h; omega
    · split at h
      · rename_i hlt
        simp only [Datum.number.injEq] at h
        rw [hi] at hlt
        have := Nat.div_lt_of_lt_mul (show x % single.signWeight < single.binade * 255 by rw [Nat.mul_comm]; exact hlt)
        omega
      · split at h <;> cases h
  exact Nat.mul_le_mul (by omega) (Nat.pow_le_pow_right (by omega) he)

/-- Every word is no number, or stands for one up to the greatest. -/
theorem smp_class (x : Nat) : (∃ a b, single.read x = .nan a b) ∨ (∃ s, single.read x = .infinity s) ∨ ∃ s v, IsNum single x s v ∧ v ≤ 16777215 * 2 ^ 253 := by
  cases hd : single.read x with
  | nan a b => exact .inl ⟨a, b, rfl⟩
  | infinity s => exact .inr (.inl ⟨s, rfl⟩)
  | number s m e => exact .inr (.inr ⟨s, _, isNum_of_read hd, num_bound hd⟩)

theorem smpErr_zero {x : Nat} (h : smpErr x = 0) : ∃ k, Smp x k ∧ k.natAbs ≤ 16384 := by
  rcases smp_class x with ⟨a, b, hd⟩ | ⟨s, hd⟩ | ⟨s, v, hn, _⟩
  · rw [smpErr_nan hd] at h; cases h
  · rw [smpErr_inf hd] at h; cases h
  · rw [smpErr_num hn] at h
    split at h
    · rename_i hh
      obtain ⟨h1, h2⟩ := hh
      have e : v = v / 2 ^ 145 * 2 ^ 145 := by
        have := Nat.div_add_mod v (2 ^ 145)
        rw [h2, Nat.add_zero, Nat.mul_comm] at this; exact this.symm
      have hq : v / 2 ^ 145 ≤ 16384 := by
        have := Nat.div_le_div_right (c := 2 ^ 145) h1
        have e2 : 1024 * 2 ^ 149 = 16384 * 2 ^ 145 := by decide +kernel
        rwa [e2, Nat.mul_div_cancel _ (Nat.two_pow_pos _)] at this
      generalize v / 2 ^ 145 = p at e hq
      have hpa : (sgn s p).natAbs = p := by unfold sgn; cases s <;> simp
      refine ⟨sgn s p, ⟨s, ?_, ?_, ?_⟩, by rw [hpa]; exact hq⟩
      · rw [hpa, ← e]; exact hn
      · intro hs; unfold sgn at hs; cases s
        · simp only [Bool.false_eq_true, if_false] at hs; omega
        · rfl
      · intro hs; unfold sgn at hs; cases s
        · rfl
        · simp only [if_true] at hs; omega
    · cases h

theorem IsNum.lt_false {f : Format} {x y : Nat} {s t : Bool} {v u : Nat} (h : IsNum f x s v) (g : IsNum f y t u) (hle : sgn t u ≤ sgn s v) : (f.order x y == some .lt) = false := by
  rw [h.order g]
  have : compare (sgn s v) (sgn t u) ≠ .lt := by
    show compareOfLessAndEq _ _ ≠ _
    unfold compareOfLessAndEq
    rw [if_neg (by omega)]
    split <;> simp
  cases hc : compare (sgn s v) (sgn t u) <;> simp_all

theorem sgn_ge_neg {s : Bool} {v u : Nat} (h : v ≤ u) : sgn true u ≤ sgn s v := by unfold sgn; cases s <;> simp <;> omega
theorem sgn_le_pos {s : Bool} {v u : Nat} (h : v ≤ u) : sgn s v ≤ sgn false u := by unfold sgn; cases s <;> simp <;> omega

theorem max32p : IsNum single 2139095039 false (16777215 * 2 ^ 253) := ⟨16777215, 104, by decide +kernel, by decide, by decide, by decide +kernel⟩
theorem max32n : IsNum single 4286578687 true (16777215 * 2 ^ 253) := ⟨16777215, 104, by decide +kernel, by decide, by decide, by decide +kernel⟩

theorem smp_t1 {x : Nat} (t1 : (single.order x x != some .eq) = true) : smpErr x = 1 := by
  rcases smp_class x with ⟨a, b, hd⟩ | ⟨s, hd⟩ | ⟨s, v, hn, _⟩
  · exact smpErr_nan hd
  · exact smpErr_inf hd
  · rw [hn.self] at t1; cases t1
theorem smp_t2 {x : Nat} (t2 : (single.order x 2139095039 == some .gt) = true) : smpErr x = 1 := by
  rcases smp_class x with ⟨a, b, hd⟩ | ⟨s, hd⟩ | ⟨s, v, hn, hv⟩
  · exact smpErr_nan hd
  · exact smpErr_inf hd
  · rw [hn.gt_false max32p (sgn_le_pos hv)] at t2; cases t2
theorem smp_t3 {x : Nat} (t3 : (single.order x 4286578687 == some .lt) = true) : smpErr x = 1 := by
  rcases smp_class x with ⟨a, b, hd⟩ | ⟨s, hd⟩ | ⟨s, v, hn, hv⟩
  · exact smpErr_nan hd
  · exact smpErr_inf hd
  · rw [hn.lt_false max32n (sgn_ge_neg hv)] at t3; cases t3

theorem smp_num {x : Nat} (t1 : (single.order x x != some .eq) = false) (t2 : (single.order x 2139095039 == some .gt) = false) (t3 : (single.order x 4286578687 == some .lt) = false) :
    ∃ s v, IsNum single x s v := by
  rcases smp_class x with ⟨a, b, hd⟩ | ⟨s, hd⟩ | ⟨s, v, hn, hv⟩
  · exfalso
    have : single.order x x = none := by unfold Format.order; rw [hd]; rfl
    rw [this] at t1; cases t1
  · exfalso
    cases s with
    | false =>
      have hm : single.read 2139095039 = .number false 16777215 104 := by decide +kernel
      have : single.order x 2139095039 = some .gt := by unfold Format.order; rw [hd, hm]; rfl
      rw [this] at t2; cases t2
    | true =>
      have hm : single.read 4286578687 = .number true 16777215 104 := by decide +kernel
      have : single.order x 4286578687 = some .lt := by unfold Format.order; rw [hd, hm]; rfl
      rw [this] at t3; cases t3
  · exact ⟨s, v, hn⟩

theorem smp_t4 {x : Nat} (t1 : (single.order x x != some .eq) = false) (t2 : (single.order x 2139095039 == some .gt) = false) (t3 : (single.order x 4286578687 == some .lt) = false)
    (t4 : (single.order x 1149239296 == some .gt) = true) : smpErr x = 3 := by
  obtain ⟨s, v, hn⟩ := smp_num t1 t2 t3
  refine smpErr_large hn fun hv => ?_
  rw [hn.gt_false isNum1024 (sgn_le_pos hv)] at t4; cases t4
theorem smp_t5 {x : Nat} (t1 : (single.order x x != some .eq) = false) (t2 : (single.order x 2139095039 == some .gt) = false) (t3 : (single.order x 4286578687 == some .lt) = false)
    (t5 : (single.order x 3296722944 == some .lt) = true) : smpErr x = 3 := by
  obtain ⟨s, v, hn⟩ := smp_num t1 t2 t3
  refine smpErr_large hn fun hv => ?_
  rw [hn.lt_false isNum1024n (sgn_ge_neg hv)] at t5; cases t5

theorem compare_self (a : Int) : compare a a = .eq := by
  show compareOfLessAndEq _ _ = _
  unfold compareOfLessAndEq; simp

/-- The reference's last test, exactly. -/
theorem checkPart_exact {x : Nat} {s : Bool} {v : Nat} (h : IsNum single x s v) (hv : v ≤ 1024 * 2 ^ 149) :
    ∃ r q, floatBits .mul .f32 1098907648 x = some r ∧ floatToIntVal .f32 r .i64 = some q ∧ ((single.order (floatOfInt .f32 q) r != some .eq) = false → smpErr x = 0) ∧ ((single.order (floatOfInt .f32 q) r != some .eq) = true → smpErr x = 3) := by
  obtain ⟨r, q, h1, h2, h3⟩ := checkPart_fin h hv
  refine ⟨r, q, h1, h2, fun hh => ?_, fun hh => smpErr_fine h fun hm => ?_⟩
  · obtain ⟨⟨t, hn, _, _⟩, _⟩ := h3 hh
    have e : q.natAbs * 2 ^ 145 % 2 ^ 145 = 0 := Nat.mul_mod_left _ _
    rw [smpErr_num hn]
    refine if_pos ⟨?_, e⟩
    have hq : q.natAbs ≤ 16384 := (h3 hh).2
    have := Nat.mul_le_mul_right (2 ^ 145) hq
    have e2 : 1024 * 2 ^ 149 = 16384 * 2 ^ 145 := by decide +kernel
    rw [e2]; exact this
  · have e : v = v / 2 ^ 145 * 2 ^ 145 := by
      have := Nat.div_add_mod v (2 ^ 145)
      rw [hm, Nat.add_zero, Nat.mul_comm] at this; exact this.symm
    have hq : v / 2 ^ 145 ≤ 16384 := by
      have := Nat.div_le_div_right (c := 2 ^ 145) hv
      have e2 : 1024 * 2 ^ 149 = 16384 * 2 ^ 145 := by decide +kernel
      rwa [e2, Nat.mul_div_cancel _ (Nat.two_pow_pos _)] at this
    generalize hp : v / 2 ^ 145 = p at e hq
    have hpa : (sgn s p).natAbs = p := by unfold sgn; cases s <;> simp
    have hc : single.read 1098907648 = .number false (2 ^ single.fractionBits) (((4 : Nat) : Int) - single.fractionBits) := by decide +kernel
    have hmax : v * 2 ^ 4 < 2 ^ (single.fractionBits + 2 ^ single.exponentBits - 2) := by
      have h1 : v < 2 ^ 160 := Nat.lt_of_le_of_lt hv (by decide)
      exact pow_split_lt h1 (by decide)
    obtain ⟨r', _, m2, m3⟩ := h.mul_pow two32 hc hmax
    have er : r = r' := by
      have := h1.symm.trans (show floatBits .mul .f32 1098907648 x = some r' from m2)
      simpa using this
    subst er
    have ht := m3.toInt (by decide)
    have eL : (-single.leastPlace).toNat = 149 := by decide
    have ev : v * 2 ^ 4 = p * 2 ^ 149 := by rw [e, Nat.mul_assoc]
    rw [eL, ev, Nat.mul_div_cancel _ (Nat.two_pow_pos _)] at ht
    have eq : q = sgn s p := by
      unfold floatToIntVal at h2
      have ht' : (FloatKind.f32.decode r).toInt .zero = some (sgn s p) := ht
      rw [ht'] at h2
      have : IntKind.i64.min ≤ sgn s p ∧ sgn s p ≤ IntKind.i64.max := by
        have e1 : IntKind.i64.min = -9223372036854775808 := by decide
        have e2 : IntKind.i64.max = 9223372036854775807 := by decide
        rw [e1, e2]; omega
      simp only [this, and_self, if_true, Option.some.injEq] at h2
      exact h2.symm
    have hy := isNum_ofInt (sgn s p) (by rw [hpa]; exact Nat.lt_of_le_of_lt hq (by decide))
    rw [eq, hy.order m3, hpa, ev] at hh
    have hs : sgn (decide (sgn s p < 0)) (p * 2 ^ 149) = sgn s (p * 2 ^ 149) := by
      cases s with
      | false =>
        have : decide (sgn false p < 0) = false := by unfold sgn; simp
        rw [this]
      | true =>
        by_cases hp0 : p = 0
        · subst hp0; rw [Nat.zero_mul]; decide
        · have : decide (sgn true p < 0) = true := by unfold sgn; simp; omega
          rw [this]
    rw [hs, compare_self] at hh
    cases hh

/-- math.Trunc of a number. -/
theorem trunc_num {d : Nat} {s : Bool} {v : Nat} (h : IsNum double d s v) (hv : v < 2 ^ 2097) :
    ∃ t, (FloatKind.f64.decode d).integral .zero = .number s (v / 2 ^ 1074) 0 ∧ FloatKind.f64.encode (.number s (v / 2 ^ 1074) 0) = t ∧ IsNum double t s (v / 2 ^ 1074 * 2 ^ 1074) := by
  have e0 : ((0 : Int) - double.leastPlace).toNat = 1074 := by decide
  have hD : double.leastPlace = -1074 := by decide
  have hB : double.fractionBits + 2 ^ double.exponentBits - 2 = 2098 := by decide
  generalize hu : (1074 : Nat) = u at *
  generalize hb : (2098 : Nat) = B at *
  generalize hb' : (2097 : Nat) = B' at *
  have hvB : v < 2 ^ B := Nat.lt_trans hv ((Nat.pow_lt_pow_iff_right (by omega)).2 (by omega))
  obtain ⟨m, i, h1, h2, h3, h4⟩ := h
  rw [hD] at h2 h4
  have h1' : FloatKind.f64.decode d = .number s m i := h1
  rw [h1']
  simp only [Datum.integral, cut_zero]
  rw [Nat.shiftLeft_eq]
  by_cases hi : 0 ≤ i
  · have e1 : (-i).toNat = 0 := by omega
    have e2 : m * 2 ^ i.toNat * 2 ^ u = m * 2 ^ (i - -1074).toNat := mul_pow_join m _ u _ (by omega)
    have ek : v / 2 ^ u = m * 2 ^ i.toNat := by rw [← h4, ← e2]; exact Nat.mul_div_cancel _ (Nat.two_pow_pos _)
    have hmax : m * 2 ^ (i - double.leastPlace).toNat < 2 ^ (double.fractionBits + 2 ^ double.exponentBits - 2) := by
      rw [hB, hD, h4]; exact hvB
    have hg := isNum_nearest two64 s m i.toNat i h3 (by rw [hD]; exact h2) hmax
    have e3 : i - (i.toNat : Int) = 0 := by omega
    rw [e3, hD, ← e2] at hg
    rw [e1, Nat.pow_zero, Nat.div_one, ek]
    exact ⟨_, rfl, rfl, hg⟩
  · have e1 : i.toNat = 0 := by omega
    have e2 : (2 : Nat) ^ u = 2 ^ (i - -1074).toNat * 2 ^ (-i).toNat := by rw [← Nat.pow_add]; congr 1; omega
    have ek : v / 2 ^ u = m / 2 ^ (-i).toNat := by
      rw [← h4, e2, ← Nat.div_div_eq_div_mul, Nat.mul_div_cancel _ (Nat.two_pow_pos _)]
    have hk : m / 2 ^ (-i).toNat < 2 ^ (double.fractionBits + 1) := Nat.lt_of_le_of_lt (Nat.div_le_self _ _) h3
    have hmax : m / 2 ^ (-i).toNat * 2 ^ ((0 : Int) - double.leastPlace).toNat < 2 ^ (double.fractionBits + 2 ^ double.exponentBits - 2) := by
      rw [e0, hB, ← ek]
      exact Nat.lt_of_le_of_lt (Nat.div_mul_le_self _ _) hvB
    have hg := isNum_nearest two64 s (m / 2 ^ (-i).toNat) 0 0 hk (by decide) hmax
    rw [e0, Nat.pow_zero, Nat.mul_one] at hg
    rw [e1, Nat.pow_zero, Nat.mul_one, ek]
    exact ⟨_, rfl, rfl, hg⟩

theorem IsNum.eq_decide {f : Format} {x y : Nat} {s : Bool} {v u : Nat} (h : IsNum f x s v) (g : IsNum f y s u) : (f.order x y == some .eq) = decide (v = u) := by
  rw [h.order g]
  by_cases e : v = u
  · subst e; rw [compare_self]; simp
  · rw [decide_eq_false e]
    have : compare (sgn s v) (sgn s u) ≠ .eq := by
      intro hh
      have := cmp_eq_of hh
      unfold sgn at this
      cases s <;> simp at this <;> omega
    cases hc : compare (sgn s v) (sgn s u) <;> simp_all
theorem IsNum.le_decide {f : Format} {x y : Nat} {v u : Nat} (h : IsNum f x false v) (g : IsNum f y false u) : (f.order x y == some .lt || f.order x y == some .eq) = decide (v ≤ u) := by
  by_cases e : v ≤ u
  · rw [decide_eq_true e, h.le_true g (sgn_le' e)]
  · rw [decide_eq_false e, h.order g, cmp_gt_of (show sgn false u < sgn false v by unfold sgn; simp; omega)]
    rfl

theorem fine_iff (v : Nat) : v * 2 ^ 925 * 2 ^ 4 = v * 2 ^ 925 * 2 ^ 4 / 2 ^ 1074 * 2 ^ 1074 ↔ v % 2 ^ 145 = 0 := by
  generalize hu : (925 : Nat) = u
  generalize hw : (1074 : Nat) = w
  rw [mul_pow_join v u 4 (u + 4) rfl]
  have e : (2 : Nat) ^ w = 2 ^ 145 * 2 ^ (u + 4) := by rw [← Nat.pow_add]; congr 1; omega
  have hp : 0 < 2 ^ (u + 4) := Nat.two_pow_pos _
  rw [e, Nat.mul_div_mul_right _ _ hp, ← Nat.mul_assoc]
  constructor
  · intro h
    have := Nat.eq_of_mul_eq_mul_right hp h
    have h2 := Nat.div_add_mod v (2 ^ 145)
    rw [Nat.mul_comm, ← this] at h2
    omega
  · intro h
    have h2 := Nat.div_add_mod v (2 ^ 145)
    rw [h, Nat.add_zero, Nat.mul_comm] at h2
    rw [h2]
theorem large_iff (v : Nat) : v * 2 ^ 925 * 2 ^ 4 ≤ 16384 * 2 ^ 1074 ↔ v ≤ 1024 * 2 ^ 149 := by
  generalize hu : (925 : Nat) = u
  generalize hw : (1074 : Nat) = w
  rw [mul_pow_join v u 4 (u + 4) rfl]
  have e : 16384 * (2 : Nat) ^ w = 1024 * 2 ^ 149 * 2 ^ (u + 4) := by
    rw [show (1024 : Nat) = 2 ^ 10 from rfl, show (16384 : Nat) = 2 ^ 14 from rfl, ← Nat.pow_add, ← Nat.pow_add, ← Nat.pow_add]
    congr 1; omega
  rw [e]
  exact Nat.mul_le_mul_right_iff (Nat.two_pow_pos _)

/-- What the program's test computes for a number of float32: all its words and comparisons. -/
theorem multiple_words {x : Nat} {s : Bool} {v : Nat} (h : IsNum single x s v) (hv : v ≤ 16777215 * 2 ^ 253) :
    ∃ d n t, floatToFloatBits .f32 x .f64 = some d ∧ IsNum double d s (v * 2 ^ 925) ∧ floatBits .mul .f64 d 4625196817309499392 = some n ∧
      (FloatKind.f64.decode n).integral .zero = .number s (v * 2 ^ 925 * 2 ^ 4 / 2 ^ 1074) 0 ∧ FloatKind.f64.encode (.number s (v * 2 ^ 925 * 2 ^ 4 / 2 ^ 1074) 0) = t ∧
      (double.order n t == some .eq) = decide (v % 2 ^ 145 = 0) ∧
      (double.order (n % 9223372036854775808) 4670232813583204352 == some .lt || double.order (n % 9223372036854775808) 4670232813583204352 == some .eq) = decide (v ≤ 1024 * 2 ^ 149) := by
  have hv2 : v < 2 ^ 277 := Nat.lt_of_le_of_lt hv (by decide +kernel)
  obtain ⟨d, h1, h2⟩ := toF64 277 h hv2 (by omega)
  have hb : v * 2 ^ 925 < 2 ^ (277 + 925) := by
    generalize hu : (925 : Nat) = u
    exact pow_split hv2
  obtain ⟨n, n1, n2⟩ := mul16_64 (277 + 925) h2 hb (by omega)
  have hb2 : v * 2 ^ 925 * 2 ^ 4 < 2 ^ 2097 := by
    generalize hu : (925 : Nat) = u at *
    generalize hw : (2097 : Nat) = w
    exact pow_split_lt hb (by omega)
  obtain ⟨t, t1, t2, t3⟩ := trunc_num n2 hb2
  refine ⟨d, n, t, h1, h2, n1, t1, t2, ?_, ?_⟩
  · rw [n2.eq_decide t3]
    exact decide_eq_decide.2 (fine_iff v)
  · rw [n2.abs64.le_decide max16384]
    exact decide_eq_decide.2 (large_iff v)
end Go.Proofs.YtnbohpcaejbpeaaGreatDoor

/-
  Contracts of the check of a sample, of the program and of the reference, for every word: both answer smpErr.
-/
namespace Go.Proofs.YtnbohpcaejbpeaaGreatDoor
open Go.RowKit
set_option linter.unusedVariables false

set_option maxHeartbeats 1600000 in
theorem checkPart_all (x : Nat) (w : World) :
    Calls Tryz.prog 140 #[.float .f32 x, .int .i64 1024] w fun e w' => e = .returned (.int .i64 (smpErr x)) ∧ w = w' := by
  have c0 := run_ofInt 1024
  rw [float1024] at c0
  have c1 := run_sub 41 sub1024
  by_cases t1 : (FloatKind.f32.format.order x x != some .eq) = true
  · rw [smp_t1 t1]
    go_enter Tryz.func140, Tryz.ntmps140
    go_wp2
    go_ret
    exact ⟨rfl, rfl⟩
  have t1 := Bool.eq_false_iff.2 t1
  by_cases t2 : (FloatKind.f32.format.order x 2139095039 == some .gt) = true
  · rw [smp_t2 t2]
    go_enter Tryz.func140, Tryz.ntmps140
    go_wp2
    go_ret
    exact ⟨rfl, rfl⟩
  have t2 := Bool.eq_false_iff.2 t2
  by_cases t3 : (FloatKind.f32.format.order x 4286578687 == some .lt) = true
  · rw [smp_t3 t3]
    go_enter Tryz.func140, Tryz.ntmps140
    go_wp2
    go_ret
    exact ⟨rfl, rfl⟩
  have t3 := Bool.eq_false_iff.2 t3
  by_cases t4 : (FloatKind.f32.format.order x 1149239296 == some .gt) = true
  · rw [smp_t4 t1 t2 t3 t4]
    go_enter Tryz.func140, Tryz.ntmps140
    go_wp2
    go_ret
    exact ⟨rfl, rfl⟩
  have t4 := Bool.eq_false_iff.2 t4
  by_cases t5 : (FloatKind.f32.format.order x 3296722944 == some .lt) = true
  · rw [smp_t5 t1 t2 t3 t5]
    go_enter Tryz.func140, Tryz.ntmps140
    go_wp2
    go_ret
    exact ⟨rfl, rfl⟩
  have t5 := Bool.eq_false_iff.2 t5
  obtain ⟨s, v, hn, hv⟩ := checkPart_num t1 t2 t3 t4 t5
  obtain ⟨r, q, m1, m2, m3, m4⟩ := checkPart_exact hn hv
  have c2 := run_mul 41 m1
  have c3 := run_toInt m2
  have c4 := run_ofInt q
  clear hn hv m1 m2
  by_cases t6 : (FloatKind.f32.format.order (floatOfInt .f32 q) r != some .eq) = true
  · rw [m4 t6]
    clear m3 m4
    go_enter Tryz.func140, Tryz.ntmps140
    go_wp2_with (go_at_call 139; refine (when_any true 3 _).mono ?_; rintro e w' ⟨rfl, rfl⟩)
    go_ret
    exact ⟨rfl, rfl⟩
  have t6 := Bool.eq_false_iff.2 t6
  rw [m3 t6]
  clear m3 m4
  go_enter Tryz.func140, Tryz.ntmps140
  go_wp2_with (go_at_call 139; refine (when_any false 3 _).mono ?_; rintro e w' ⟨rfl, rfl⟩)
  go_ret
  exact ⟨rfl, rfl⟩

set_option maxHeartbeats 400000 in
theorem refCheckSample_all (x : Nat) (w : World) :
    Calls Tryz.prog 114 #[.float .f32 x] w fun e w' => e = .returned (.int .i64 (smpErr x)) ∧ w = w' := by
  go_enter Tryz.func114, Tryz.ntmps114
  go_wp2_with (go_at_call 140; refine (checkPart_all x _).mono ?_; rintro e w' ⟨rfl, rfl⟩)
  go_ret
  exact ⟨rfl, rfl⟩

/-! ### The program's -/

/-- What is no number is converted to some such word of float64. -/
theorem run_nan64 {x : Nat} {a : Bool} {b : Nat} (h : Ieee.single.read x = .nan a b) (w : World) :
    ∃ d, (convert 41 180 (.float .f32 x)).run Tryz.prog w = .ok (.float .f64 d) w.drew ∧ ∃ a b, Ieee.double.read d = .nan a b := by
  have hs : Tryz.prog.underlying 41 = some (.float .f32) := Tryz.underlying41
  have hd : Tryz.prog.underlying 180 = some (.float .f64) := Tryz.underlying180
  have hx : FloatKind.f32.decode x = .nan a b := h
  refine ⟨(Question.nanConv .f64 x).cut (w.tape w.drawn (.nanConv .f64 x)), ?_, ?_⟩
  · simp [convert, run_underlying hs, run_underlying hd, Conv.floatToFloat, hx, Question.forced]
  · generalize w.tape w.drawn (.nanConv .f64 x) = t
    show ∃ a b, Ieee.double.read ((t % 2) * 2 ^ 63 + 0x7ff0000000000000 + 1 + (t / 2) % (2 ^ 52 - 1)) = .nan a b
    have e1 : Ieee.double.signWeight = 9223372036854775808 := by decide +kernel
    have e2 : Ieee.double.infRung = 9218868437227405312 := by decide +kernel
    unfold Ieee.Format.read
    have e3 : Ieee.double.binade = 4503599627370496 := by decide +kernel
    simp only [e1, e2, e3]
    have h1 := Nat.mod_lt (t / 2) (show 0 < 2 ^ 52 - 1 by decide)
    have h2 := Nat.mod_lt t (show 0 < 2 by decide)
    generalize t / 2 % (2 ^ 52 - 1) = p at h1
    generalize t % 2 = q at h2
    have h3 : (q * 2 ^ 63 + 9218868437227405312 + 1 + p) % 9223372036854775808 = 9218868437227405312 + 1 + p := by omega
    rw [h3, if_neg (by omega), if_neg (by omega), if_neg (by omega)]
    exact ⟨_, _, rfl⟩

theorem run_inf64 {x : Nat} {s : Bool} (h : Ieee.single.read x = .infinity s) :
    ∃ d, (∀ w : World, (convert 41 180 (.float .f32 x)).run Tryz.prog w = .ok (.float .f64 d) w) ∧ d < 18446744073709551616 ∧ Ieee.double.order d d = some .eq ∧
      (Ieee.double.order (d % 9223372036854775808) 9218868437227405311 == some .gt) = true := by
  have hx : FloatKind.f32.decode x = .infinity s := h
  have hf : floatToFloatBits .f32 x .f64 = some (FloatKind.f64.encode (.infinity s)) := by
    unfold floatToFloatBits
    have hne : ¬ FloatKind.f32 = FloatKind.f64 := by decide
    simp only [hne, if_false, hx]
  refine ⟨_, run_to64 hf, ?_, ?_, ?_⟩ <;> cases s <;> decide +kernel

set_option maxHeartbeats 1000000 in
theorem isNaN_nan (d : Nat) (h : ∃ a b, Ieee.double.read d = .nan a b) (w : World) :
    Calls Tryz.prog 144 #[.float .f64 d] w fun e w' => e = .returned (.bool true) ∧ w = w' := by
  have h1 : FloatKind.f64.format.order d d = none := by
    obtain ⟨a, b, h⟩ := h
    show Ieee.double.order d d = none
    unfold Ieee.Format.order; rw [h]; rfl
  clear h
  go_enter Tryz.func144, Tryz.ntmps144
  go_wp2
  go_ret
  exact ⟨rfl, rfl⟩

set_option maxHeartbeats 1000000 in
theorem isNaN_no (d : Nat) (h : Ieee.double.order d d = some .eq) (w : World) :
    Calls Tryz.prog 144 #[.float .f64 d] w fun e w' => e = .returned (.bool false) ∧ w = w' := by
  have h1 : FloatKind.f64.format.order d d = some .eq := h
  clear h
  go_enter Tryz.func144, Tryz.ntmps144
  go_wp2
  go_ret
  exact ⟨rfl, rfl⟩

set_option maxHeartbeats 800000 in
theorem isInf_yes (d : Nat) (hd : d < 18446744073709551616) (h : (Ieee.double.order (d % 9223372036854775808) 9218868437227405311 == some .gt) = true) (w : World) :
    Calls Tryz.prog 145 #[.float .f64 d, .int .i64 0] w fun e w' => e = .returned (.bool true) ∧ w = w' := by
  have h1 : (FloatKind.f64.format.order (d % 9223372036854775808) 9218868437227405311 == some .gt) = true := h
  clear h
  go_enter Tryz.func145, Tryz.ntmps145
  go_wp2_with (go_at_call 147; refine (abs_any d hd _).mono ?_; rintro e w' ⟨rfl, rfl⟩)
  go_ret
  exact ⟨rfl, rfl⟩

set_option maxHeartbeats 1000000 in
theorem isFinite_nan {x : Nat} {a : Bool} {b : Nat} (h : Ieee.single.read x = .nan a b) (w : World) :
    Calls Tryz.prog 126 #[.float .f32 x] w fun e w' => e = .returned (.bool false) ∧ w' = w.drew := by
  obtain ⟨d, c1, hd⟩ := run_nan64 h w
  have K1 := Lib.hid (isNaN_nan d hd)
  clear h hd
  go_enter Tryz.func126, Tryz.ntmps126
  go_wp2_with (go_at_call 144; refine (K1.out _).mono ?_; rintro e w' ⟨rfl, rfl⟩)
  go_ret
  exact ⟨rfl, rfl⟩

set_option maxHeartbeats 1000000 in
theorem isFinite_inf {x : Nat} {s : Bool} (h : Ieee.single.read x = .infinity s) (w : World) :
    Calls Tryz.prog 126 #[.float .f32 x] w fun e w' => e = .returned (.bool false) ∧ w' = w := by
  obtain ⟨d, c1, hd, h1, h2⟩ := run_inf64 h
  have K1 := Lib.hid (isNaN_no d h1)
  have K2 := Lib.hid (isInf_yes d hd h2)
  clear h hd h1 h2
  go_enter Tryz.func126, Tryz.ntmps126
  go_wp2_with (first | (go_at_call 144; refine (K1.out _).mono ?_; rintro e w' ⟨rfl, rfl⟩) | (go_at_call 145; refine (K2.out _).mono ?_; rintro e w' ⟨rfl, rfl⟩))
  go_ret
  exact ⟨rfl, rfl⟩

set_option maxHeartbeats 1000000 in
theorem isFinite_num {x : Nat} {s : Bool} {v : Nat} (hx : x < 2 ^ 32) (h : IsNum Ieee.single x s v) (hv : v ≤ 16777215 * 2 ^ 253) (w : World) :
    Calls Tryz.prog 126 #[.float .f32 x] w fun e w' => e = .returned (.bool true) ∧ w' = w := by
  have hv2 : v < 2 ^ 277 := Nat.lt_of_le_of_lt hv (by decide +kernel)
  obtain ⟨d, h1, h2⟩ := toF64 277 h hv2 (by omega)
  have hd := isNum_lt (s := s) (v := 0) h1 hx
  have hb : v * 2 ^ 925 ≤ (2 ^ 53 - 1) * 2 ^ 2045 := by
    generalize hu : (925 : Nat) = u
    exact max64_ge (pow_split hv2) (by omega)
  have c1 := run_to64 h1
  have K1 := Lib.hid (isNaN_any d s _ h2)
  have K2 := Lib.hid (isInf_any d s _ h2 hd hb)
  clear h h1 h2 hd hv hx hb hv2
  go_enter Tryz.func126, Tryz.ntmps126
  go_wp2_with (first | (go_at_call 144; refine (K1.out _).mono ?_; rintro e w' ⟨rfl, rfl⟩) | (go_at_call 145; refine (K2.out _).mono ?_; rintro e w' ⟨rfl, rfl⟩))
  go_ret
  exact ⟨rfl, rfl⟩

set_option maxHeartbeats 1000000 in
theorem isMultiple_num {x : Nat} {s : Bool} {v : Nat} (h : IsNum Ieee.single x s v) (hv : v ≤ 16777215 * 2 ^ 253) (w : World) :
    Calls Tryz.prog 127 #[.float .f32 x, .float .f64 4652218415073722368] w fun e w' => e = .returned (.bool (decide (v ≤ 1024 * 2 ^ 149 ∧ v % 2 ^ 145 = 0))) ∧ w' = w := by
  obtain ⟨d, n, t, h1, h2, n1, t1, t2, q1, q2⟩ := multiple_words h hv
  have hn := floatBits_lt n1
  have c1 := run_to64 h1
  have c2 := run_mul 180 n1
  have c3 := run_trunc t1 t2
  have hm : floatBits .mul .f64 4652218415073722368 4625196817309499392 = some 4670232813583204352 := by decide +kernel
  have c5 := run_mul 180 hm
  have K1 := Lib.hid (trunc_any n t c3)
  have K2 := Lib.hid (abs_any n hn)
  clear h h1 h2 n1 t1 t2 hm hn c3 hv
  by_cases f1 : v % 2 ^ 145 = 0
  · rw [decide_eq_true f1] at q1
    by_cases f2 : v ≤ 1024 * 2 ^ 149
    · rw [decide_eq_true f2] at q2
      rw [decide_eq_true (show v ≤ 1024 * 2 ^ 149 ∧ v % 2 ^ 145 = 0 from ⟨f2, f1⟩)]
      have c4 : (FloatKind.f64.format.order n t == some .eq) = true := q1
      have c6 : (FloatKind.f64.format.order (n % 9223372036854775808) 4670232813583204352 == some .lt || FloatKind.f64.format.order (n % 9223372036854775808) 4670232813583204352 == some .eq) = true := q2
      clear f1 f2 q1 q2
      go_enter Tryz.func127, Tryz.ntmps127
      go_wp2_with (first | (go_at_call 146; refine (K1.out _).mono ?_; rintro e w' ⟨rfl, rfl⟩) | (go_at_call 147; refine (K2.out _).mono ?_; rintro e w' ⟨rfl, rfl⟩))
      go_ret
      exact ⟨rfl, rfl⟩
    · rw [decide_eq_false f2] at q2
      rw [decide_eq_false (show ¬ (v ≤ 1024 * 2 ^ 149 ∧ v % 2 ^ 145 = 0) from fun hh => f2 hh.1)]
      have c4 : (FloatKind.f64.format.order n t == some .eq) = true := q1
      have c6 : (FloatKind.f64.format.order (n % 9223372036854775808) 4670232813583204352 == some .lt || FloatKind.f64.format.order (n % 9223372036854775808) 4670232813583204352 == some .eq) = false := q2
      clear f1 f2 q1 q2
      go_enter Tryz.func127, Tryz.ntmps127
      go_wp2_with (first | (go_at_call 146; refine (K1.out _).mono ?_; rintro e w' ⟨rfl, rfl⟩) | (go_at_call 147; refine (K2.out _).mono ?_; rintro e w' ⟨rfl, rfl⟩))
      go_ret
      exact ⟨rfl, rfl⟩
  · rw [decide_eq_false f1] at q1
    rw [decide_eq_false (show ¬ (v ≤ 1024 * 2 ^ 149 ∧ v % 2 ^ 145 = 0) from fun hh => f1 hh.2)]
    have c4 : (FloatKind.f64.format.order n t == some .eq) = false := q1
    clear f1 q1 q2
    go_enter Tryz.func127, Tryz.ntmps127
    go_wp2_with (first | (go_at_call 146; refine (K1.out _).mono ?_; rintro e w' ⟨rfl, rfl⟩) | (go_at_call 147; refine (K2.out _).mono ?_; rintro e w' ⟨rfl, rfl⟩))
    go_ret
    exact ⟨rfl, rfl⟩

set_option maxHeartbeats 800000 in
theorem checkSample_all (x : Nat) (hx : x < 2 ^ 32) (w : World) :
    Calls Tryz.prog 94 #[.float .f32 x] w fun e w' => e = .returned (.int .i64 (smpErr x)) ∧ (w = w' ∨ w.drew = w') := by
  rcases smp_class x with ⟨a, b, hd⟩ | ⟨s, hd⟩ | ⟨s, v, hn, hv⟩
  · rw [smpErr_nan hd]
    have K1 := Lib.hid (isFinite_nan hd)
    clear hd hx
    go_enter Tryz.func94, Tryz.ntmps94
    go_wp2_with (go_at_call 126; refine (K1.out _).mono ?_; rintro e w' ⟨rfl, rfl⟩)
    go_ret
    exact ⟨rfl, .inr rfl⟩
  · rw [smpErr_inf hd]
    have K1 := Lib.hid (isFinite_inf hd)
    clear hd hx
    go_enter Tryz.func94, Tryz.ntmps94
    go_wp2_with (go_at_call 126; refine (K1.out _).mono ?_; rintro e w' ⟨rfl, rfl⟩)
    go_ret
    exact ⟨rfl, .inl rfl⟩
  · rw [smpErr_num hn]
    have K1 := Lib.hid (isFinite_num hx hn hv)
    have K2 := Lib.hid (isMultiple_num hn hv)
    clear hn hx hv
    by_cases f : v ≤ 1024 * 2 ^ 149 ∧ v % 2 ^ 145 = 0
    · rw [decide_eq_true f] at K2
      rw [if_pos f]
      clear f
      go_enter Tryz.func94, Tryz.ntmps94
      go_wp2_with (first | (go_at_call 126; refine (K1.out _).mono ?_; rintro e w' ⟨rfl, rfl⟩) | (go_at_call 127; refine (K2.out _).mono ?_; rintro e w' ⟨rfl, rfl⟩))
      go_ret
      exact ⟨rfl, .inl rfl⟩
    · rw [decide_eq_false f] at K2
      rw [if_neg f]
      clear f
      go_enter Tryz.func94, Tryz.ntmps94
      go_wp2_with (first | (go_at_call 126; refine (K1.out _).mono ?_; rintro e w' ⟨rfl, rfl⟩) | (go_at_call 127; refine (K2.out _).mono ?_; rintro e w' ⟨rfl, rfl⟩))
      go_ret
      exact ⟨rfl, .inl rfl⟩
end Go.Proofs.YtnbohpcaejbpeaaGreatDoor
