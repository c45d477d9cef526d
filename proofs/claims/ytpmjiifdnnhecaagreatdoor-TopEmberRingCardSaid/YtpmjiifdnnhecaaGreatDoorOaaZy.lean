/-
  Contract of Print for a right map: the line of the sides, then a line for each row of its integers. Condition: the library's table of the powers of ten lies as it is laid.
-/
import Derived.Test.YtpmjiifdnnhecaaGreatDoorOaaBo
import Derived.Test.YtpmjiifdnnhecaaGreatDoorOaaZk
namespace Go.Proofs.YtpmjiifdnnhecaaGreatDoor
open Go.RowKit Go.Shelf
set_option linter.unusedVariables false
set_option linter.unusedSimpArgs false
attribute [local go_sem] Oper.semAt_some

/-- The integers of row y of a map that is W wide; the lines of some rows; the text. -/
def rowOf (W : Nat) (ks : List Int) (y : Nat) : List Int := (ks.drop (y * W)).take W
def rowsL (W : Nat) (ks : List Int) (ys : List Nat) : List UInt8 := ys.flatMap (fun y => lineL [114, 111, 119] (rowOf W ks y))
def textL (W H : Nat) (ks : List Int) : List UInt8 := lineL [109, 97, 112] [(W : Int), (H : Int)] ++ rowsL W ks (List.range H)
theorem rowsL_snoc (W : Nat) (ks : List Int) (ys : List Nat) (y : Nat) : rowsL W ks (ys ++ [y]) = rowsL W ks ys ++ lineL [114, 111, 119] (rowOf W ks y) := by simp [rowsL]
theorem line_len (wd : List UInt8) (ks : List Int) (h : ∀ k ∈ ks, k.natAbs < 2 ^ 40) : (lineL wd ks).length ≤ wd.length + 22 * ks.length + 1 := by
  have := join_len wd ks h
  unfold lineL
  rw [List.length_append]
  simp only [List.length_cons, List.length_nil]
  omega
theorem rowOf_get (W : Nat) (ks : List Int) (y j : Nat) (hj : j < W) : (rowOf W ks y)[j]?.getD 0 = ks[y * W + j]?.getD 0 := by
  unfold rowOf
  rw [List.getElem?_take, if_pos hj, List.getElem?_drop]
theorem rowOf_len (W : Nat) (ks : List Int) (y : Nat) (h : y * W + W ≤ ks.length) : (rowOf W ks y).length = W := by
  unfold rowOf
  rw [List.length_take, List.length_drop]; omega
theorem rowOf_mem {W : Nat} {ks : List Int} {y : Nat} {k : Int} (h : k ∈ rowOf W ks y) : k ∈ ks := List.mem_of_mem_drop (List.mem_of_mem_take h)
theorem rowsL_len (W : Nat) (ks : List Int) (hk : ∀ k ∈ ks, k.natAbs < 2 ^ 40) (ys : List Nat) : (rowsL W ks ys).length ≤ ys.length * (4 + 22 * W) := by
  induction ys with
  | nil => simp [rowsL]
  | cons y ys ih =>
    have h1 := line_len [114, 111, 119] (rowOf W ks y) (fun k hk' => hk k (rowOf_mem hk'))
    have h2 : (rowOf W ks y).length ≤ W := by unfold rowOf; rw [List.length_take]; omega
    have e : rowsL W ks (y :: ys) = lineL [114, 111, 119] (rowOf W ks y) ++ rowsL W ks ys := by simp [rowsL]
    rw [e, List.length_append, List.length_cons, Nat.add_mul]
    simp only [List.length_cons, List.length_nil] at h1
    omega

set_option maxRecDepth 100000 in
set_option maxHeartbeats 6400000 in
theorem print_any (W H : Nat) (b o c n : Nat) (xs : List Nat) (ks : List Int) (w : World) (hA : RightMap w W H b o n xs ks) (hb : b < w.heap.size) (ht : TabAt w) :
    Calls Tryz.prog 73 #[.agg #[.int .i64 W, .int .i64 H, .slice (some ⟨b, o, none⟩) n c]] w fun e w' => e = .returned (.tuple #[strV (textL W H ks), .int .i64 0]) ∧ Below w.heap.size w w' := by
  obtain ⟨W0, hW0⟩ : ∃ W0, w.alloc (.cells #[.int .i64 W, .int .i64 H, .slice (some ⟨b, o, none⟩) n c] 121) = W0 := ⟨_, rfl⟩
  have hB0 : Below w.heap.size w W0 := by rw [← hW0]; exact (Below.refl _ w).alloc (Nat.le_refl _) _
  have hS0 : W0.heap.size = w.heap.size + 1 := by rw [← hW0]; simp
  have a0 : W0.cell? ⟨w.heap.size, 0, none⟩ = some (.int .i64 W) := by rw [← hW0]; simp [go_sem]
  have a1 : W0.cell? ⟨w.heap.size, 1, none⟩ = some (.int .i64 H) := by rw [← hW0]; simp [go_sem]
  have a2 : W0.cell? ⟨w.heap.size, 2, none⟩ = some (.slice (some ⟨b, o, none⟩) n c) := by rw [← hW0]; simp [go_sem]
  have K1 := Lib.hid (checkMap_any W H b o n c xs ks W0 (hA.below hB0 hb) (by omega))
  have K2 : Hid (∀ w1 : World, Below W0.heap.size W0 w1 → Calls Tryz.prog 135 #[.agg #[.int .i64 W, .int .i64 H, .slice (some ⟨b, o, none⟩) n c]] w1 fun e w' =>
      ∃ g, e = .returned (.agg #[.int .i64 W, .int .i64 H, .slice (some ⟨g, 0, none⟩) n n]) ∧ w1.heap.size ≤ g ∧ g < w'.heap.size ∧ (∃ cur, w'.heap[g]? = some (.cells cur 3 (0, 0))) ∧ RowAt w' g n ks ∧ Below w1.heap.size w1 w') := Lib.hid (fun w1 h => by
    have h1 := h.size
    have h2 := hB0.trans (h.mono (by omega))
    have hw := (hA.below h2 hb).toWords
    exact (gridOf_any W H b o n c xs ks w1 hw (by omega)).mono fun e w' ⟨he, ho, hB⟩ => ⟨_, he, by omega, (ho.lt _ rfl).2, (by
      rcases ho.2 with ⟨h, _⟩ | ⟨g, cap, cur, e1, _, hg, _⟩
      · cases h
      · simp at e1; obtain ⟨rfl, rfl⟩ := e1; exact ⟨cur, hg⟩), ⟨(ho.lt _ rfl).2, fun j hj => owns_cell ho (by
      rw [List.getElem?_map, List.getElem?_eq_getElem (by rw [hw.lenk]; exact hj)]; rfl)⟩, hB⟩)
  have hW := hA.wid
  have hH := hA.hei
  have hbd : ∀ k ∈ ks, k.natAbs < 2 ^ 40 := fun k hk' => by
    obtain ⟨j, hj, rfl⟩ := List.getElem_of_mem hk'
    have := hA.sizes j (by rw [← hA.lenk]; exact hj)
    rw [List.getElem?_eq_getElem hj] at this
    have h3 : (some ks[j]).getD 0 = ks[j] := rfl
    rw [h3] at this
    have : (16384 : Nat) < 2 ^ 40 := by decide
    omega
  have HBD := Lib.hid hbd
  have HB0 := Lib.hid hB0
  have HS0 := Lib.hid hS0
  have HRA := Lib.hid hA
  have HT := Lib.hid ht
  clear hA hB0 ht hbd
  refine (callsIn_wide (n := 6)).1 ?_
  refine callsIn_of_wp_marks Tryz.func73 rfl trivial ?_ rfl
  simp only [Tryz.ntmps73, List.size_toArray, List.length_cons, List.length_nil, Nat.reduceAdd, Nat.reduceSub, Array.replicate_succ, Array.replicate_zero, List.push_toArray, List.append_toArray, List.nil_append, List.cons_append]
  refine wpIn_wide.2 ?_
  go_upto_region 1 with fail
  try rw [hW0]
  clear hW0
  go_upto_region 5 with (
    ((go_at_call 134; refine K1.out.mono ?_; rintro e w1 ⟨rfl, hb1⟩
      have hs1 := hb1.size)))
  have hbld0 : Lib.IsBuilderF 245 5 w1.heap.size w1.heap.size (Lib.byteCells []) (w1.alloc (.cells #[.pointer none, .slice none 0 0] 245)) := Lib.IsBuilderF.of (Lib.fresh_isBuilder _ _ _)
  obtain ⟨W2, hW2⟩ : ∃ W2, w1.alloc (.cells #[.pointer none, .slice none 0 0] 245) = W2 := ⟨_, rfl⟩
  have hB2 : Below W0.heap.size W0 W2 := by rw [← hW2]; exact hb1.alloc hs1 _
  have hS2 : W2.heap.size = w1.heap.size + 1 := by rw [← hW2]; simp
  rw [hW2] at hbld0 ⊢
  clear hW2 hb1
  have a0' := (hB2.cell (p := ⟨w.heap.size, 0, none⟩) (by show w.heap.size < _; omega)).trans a0
  have a1' := (hB2.cell (p := ⟨w.heap.size, 1, none⟩) (by show w.heap.size < _; omega)).trans a1
  obtain ⟨W3, hW3⟩ : ∃ W3, W2.alloc (.cells #[.int .i64 W, .int .i64 H] 3) = W3 := ⟨_, rfl⟩
  have hB3 : Below W2.heap.size W2 W3 := by rw [← hW3]; exact (Below.refl _ W2).alloc (Nat.le_refl _) _
  have hS3 : W3.heap.size = W2.heap.size + 1 := by rw [← hW3]; simp
  have hc3 : W3.heap[W2.heap.size]? = some (.cells #[.int .i64 W, .int .i64 H] 3 (0, 0)) := by rw [← hW3]; exact blk_alloc_new _ _
  have hBW3 : Below w.heap.size w W3 := (HB0.out.trans (hB2.mono (by omega))).trans (hB3.mono (by omega))
  have KL : Hid (Calls Tryz.prog 99 #[.string ⟨#[109, 97, 112]⟩, .slice (some ⟨W2.heap.size, 0, none⟩) 2 2] W3 fun e w' => e = .returned (strV (lineL [109, 97, 112] [(W : Int), (H : Int)])) ∧ Below W3.heap.size W3 w') := Lib.hid (by
    have h := line_any (w := W3) [109, 97, 112] W2.heap.size 0 2 2 [(W : Int), (H : Int)] (by decide) rfl (by omega) (by omega) (HT.out.on hBW3) (fun j hj => by
      match j, hj with
      | 0, _ => rw [cell_of_row W3 _ 0 _ _ (0, 0) hc3]; rfl
      | 1, _ => rw [cell_of_row W3 _ 1 _ _ (0, 0) hc3]; rfl) (fun j hj => by
      match j, hj with
      | 0, _ => show (W : Int).natAbs < 2 ^ 40; omega
      | 1, _ => show (H : Int).natAbs < 2 ^ 40; omega)
    exact h)
  have hml : (lineL [109, 97, 112] [(W : Int), (H : Int)]).length ≤ 48 := by
    have := line_len [109, 97, 112] [(W : Int), (H : Int)] (fun k hk => by simp at hk; rcases hk with rfl | rfl <;> omega)
    simpa using this
  obtain ⟨L0, hL0⟩ : ∃ L0, lineL [109, 97, 112] [(W : Int), (H : Int)] = L0 := ⟨_, rfl⟩
  rw [hL0] at KL hml
  have hbld3 : Lib.IsBuilderF 245 5 w1.heap.size w1.heap.size (Lib.byteCells []) W3 := by
    rcases hbld0 with h | h
    · exact .inl (bld_kept h hB3 (Nat.le_refl _))
    · exact .inr (bld_kept h hB3 (Nat.le_refl _))
  have HL0 := Lib.hid hL0
  have HBL := Lib.hid hbld3
  have HB2 := Lib.hid hB2
  have HBW3 := Lib.hid hBW3
  have HB3 := Lib.hid hB3
  have HS2 := Lib.hid hS2
  have HS3 := Lib.hid hS3
  have iS2 : w1.heap.size + 1 ≤ W2.heap.size := by omega
  have iS3 : W2.heap.size + 1 ≤ W3.heap.size := by omega
  have iS0 : w.heap.size + 1 ≤ W0.heap.size := by omega
  clear hL0 hbld0 hbld3 hc3 hB2 hBW3 hB3 hS2 hS3 hS0
  unfold strV at KL
  go_upto_region 6 with (first
    | (go_at_call 99; (try rw [hW3]); refine KL.out.mono ?_; rintro e w4 ⟨rfl, hb4⟩
       have hs4 := hb4.size
       have hbld4 : Lib.IsBuilderF 245 5 w1.heap.size w1.heap.size (Lib.byteCells []) w4 := by
         rcases HBL.out with h | h
         · exact .inl (bld_kept h hb4 (Nat.le_refl _))
         · exact .inr (bld_kept h hb4 (Nat.le_refl _))
       have KB := Lib.hid (bld_write w1.heap.size w1.heap.size [] L0 w4 hbld4 (by simp only [List.length_nil]; omega) (by omega)))
    | (go_at_call 158; refine KB.out.mono ?_; rintro e w5 ⟨rfl, hbld5, hb5, ho5⟩))
  have hB5 : Below W0.heap.size W0 w5 := ((HB2.out.trans (HB3.out.mono (by have := HB2.out.size; omega))).trans (hb4.mono (by have := HB2.out.size; omega))).trans (hb5.mono (by omega))
  have a0' := (hB5.cell (p := ⟨w.heap.size, 0, none⟩) (by show w.heap.size < _; omega)).trans a0
  have a1' := (hB5.cell (p := ⟨w.heap.size, 1, none⟩) (by show w.heap.size < _; omega)).trans a1
  have a2' := (hB5.cell (p := ⟨w.heap.size, 2, none⟩) (by show w.heap.size < _; omega)).trans a2
  have hbl5 := hbld5.lt
  have iB5 := hB5.size
  have K3 := Lib.hid (K2.out w5.drew hB5.drew)
  have HBL5 := Lib.hid hbld5
  have HB5 := Lib.hid hB5
  clear hbld5 hB5 a0 a1 a2 hb4 ho5
  have hfld : ∀ (g : Nat) (w : World), (Instr.field 225 (.agg #[.int .i64 W, .int .i64 H, .slice (some ⟨g, 0, none⟩) n n]) 2).run Tryz.prog w = .ok (.slice (some ⟨g, 0, none⟩) n n) w := fun _ _ => by kernel_rfl
  go_region_held3 (fun w' => w'.cell? ⟨w.heap.size, 0, none⟩ = some (.int .i64 W) ∧ w'.cell? ⟨w.heap.size, 1, none⟩ = some (.int .i64 H) ∧ w'.cell? ⟨w.heap.size, 2, none⟩ = some (.slice (some ⟨b, o, none⟩) n c))
    (first | go_keep | (go_split_ands; refine ⟨?_, ?_, ?_⟩ <;> (rw [hb6.cell (by simp; try omega)]; assumption)))
    (first
      | (go_at_call 135; refine K3.out.mono ?_; rintro e w6 ⟨ga, rfl, hga1, hga2, ⟨cur, hgc⟩, hRow, hb6⟩; (obtain ⟨hcc, hff⟩ := bcell hb6))
      | (go_at_call 159; refine (chunk_any _ _ _ _ (by omega) _).mono ?_; rintro e w7 ⟨rfl, rfl⟩))
  have hb6 : Below w5.heap.size w5 w6 := (Below.refl w5.heap.size w5).drew.trans hb6
  have hbl6 : Bld w1.heap.size w1.heap.size (.pointer (some ⟨w1.heap.size, 0, none⟩)) L0 w6 := bld_kept HBL5.out hb6 (Nat.le_refl _)
  have hs6 := hb6.size
  have hga0 : w1.heap.size < ga := by have : w5.heap.size ≤ ga := hga1; omega
  obtain ⟨W7, hW7⟩ : ∃ W7, (w6.alloc (.cells #[.slice (some ⟨ga, 0, none⟩) n n] 157)).alloc (.cells #[.int .i64 W] 3) = W7 := ⟨_, rfl⟩
  have bS : Boxed W7 w6.heap.size 157 (.slice (some ⟨ga, 0, none⟩) n n) := by rw [← hW7]; exact (Boxed.new w6 _ _).alloc _
  have bN : Boxed W7 (w6.heap.size + 1) 3 (.int .i64 W) := by rw [← hW7]; exact blk_alloc_new1 _ _ _
  have hS7 : w6.heap.size + 2 ≤ W7.heap.size := by rw [← hW7]; simp
  have ka : W7.heap[ga]? = some (.cells cur 3 (0, 0)) := by rw [← hW7]; exact blk_alloc_other (blk_alloc_other hgc _) _
  have kb : Bld w1.heap.size w1.heap.size (.pointer (some ⟨w1.heap.size, 0, none⟩)) L0 W7 := by rw [← hW7]; exact (hbl6.alloc _).alloc _
  have hB7 : Below w.heap.size w W7 := by
    rw [← hW7]
    exact (((HB0.out.trans (HB5.out.mono (by omega))).trans ((show Below w5.heap.size w5 w6 from hb6).mono (by omega))).alloc (by omega) _).alloc (by simp; omega) _
  have hN : H * W = n := by have := HRA.out.area; rw [Nat.mul_comm]; exact_mod_cast this
  have hcell : ∀ Wx : World, Wx.heap[ga]? = some (.cells cur 3 (0, 0)) → ∀ j, j < n → Wx.cell? ⟨ga, j, none⟩ = some (.int .i64 (ks[j]?.getD 0)) := fun Wx h j hj =>
    (World.cell?_of_block (w := w6) (w' := Wx) (a := ⟨ga, j, none⟩) (h.trans hgc.symm)).trans (hRow.cells j hj)
  have HCELL := Lib.hid hcell
  have HN := Lib.hid hN
  clear hRow hgc hbl6 hb6 hcell hN hb5 hcc hff
  try rw [hW7]
  clear hW7
  go_wp2_with fail
  have hro : Fence.wide.round = none := rfl
  have hnn := HRA.out.small
  have hW1 : 1 ≤ W := by omega
  refine (wpIn_wide (n := 6)).1 ?_
  refine wpIn_rangeFunc_ownH hro (by omega) (gf := 207) (lb := #[.pointer (some ⟨w6.heap.size, 0, none⟩), .pointer (some ⟨w6.heap.size + 1, 0, none⟩)]) rfl trivial (enters_of Tryz.func207 (by kernel_rfl) rfl)
    (chunk_stops Fence.wide (6 - 1) trivial hro (by omega) w6.heap.size (w6.heap.size + 1) ga W H n hW1 HN.out hnn W7 (by omega) (by omega) bS.cell bN.cell) KeepsTwo.t KeepsTwo.b (Below.refl _ _) (fun _ => rfl)
    (fun pre W1 => (Bld w1.heap.size w1.heap.size (.pointer (some ⟨w1.heap.size, 0, none⟩)) (L0 ++ rowsL W ks (pre.map Subtype.val)) W1 ∧ (Boxed W1 w6.heap.size 157 (.slice (some ⟨ga, 0, none⟩) n n) ∧ Boxed W1 (w6.heap.size + 1) 3 (.int .i64 W) ∧ W1.heap[ga]? = some (.cells cur 3 (0, 0)))) ∧ Below w.heap.size w W1)
    (fun _ _ _ => False)
    (OwnFrom.and (OwnFrom.and (Own.from (bld_own w1.heap.size w1.heap.size _ (fun pre : List (Ch H) => L0 ++ rowsL W ks (pre.map Subtype.val))) _) (OwnFrom.and (Own.from (boxed_own _ _ (fun _ => .slice (some ⟨ga, 0, none⟩) n n)) _) (OwnFrom.and (Own.from (boxed_own _ _ (fun _ => .int .i64 W)) _) (Own.from (row_own _ _ _) _)))) (ownFrom_below (by omega) (by omega)))
    (fun _ _ _ _ _ hs _ _ => hs)
    ⟨⟨by simpa [rowsL] using kb, bS, bN, ka⟩, hB7⟩
    (fun p a' W1 => a' = { tmps := #[.agg #[.int .i64 W, .int .i64 H, .slice (some ⟨b, o, none⟩) n c], .pointer (some ⟨w.heap.size, 0, none⟩), .string ⟨#[]⟩, .int .i64 0, .int .i64 0, .pointer (some ⟨w1.heap.size, 0, none⟩), .slice (some ⟨ga, p.1 * W, none⟩) W W, .agg #[.int .i64 W, .int .i64 H, .slice (some ⟨b, o, none⟩) n c], .int .i64 0, .int .i64 0, .bool false, undef, .pointer (some ⟨w.heap.size, 0, none⟩), .int .i64 W, .pointer (some ⟨w.heap.size, 1, none⟩), .int .i64 H, .slice (some ⟨W2.heap.size, 0, none⟩) 2 2, .string ⟨L0.toArray⟩, .tuple #[.int .i64 L0.length, .nilIface], .agg #[.int .i64 W, .int .i64 H, .slice (some ⟨b, o, none⟩) n c], .agg #[.int .i64 W, .int .i64 H, .slice (some ⟨ga, 0, none⟩) n n], .slice (some ⟨ga, 0, none⟩) n n, .pointer (some ⟨w.heap.size, 0, none⟩), .int .i64 W, .func (.func 207) #[] #[.pointer (some ⟨w6.heap.size, 0, none⟩), .pointer (some ⟨w6.heap.size + 1, 0, none⟩)], .slice (some ⟨ga, p.1 * W, none⟩) W W, undef, undef, undef, undef], defers := [] })
    (fun p a' _ X Y row hs hg hr => hs)
    ?assign ?body ?done ?stop
  case assign =>
    rintro l pre p W1 K ⟨⟨b8, b6, b7, ba⟩, hB1⟩ hK
    have hsz1 := hB1.size
    gi_wp2
    exact hK _ _ ((KeepsOthers.refl _).from _) (fun x => x) ⟨⟨b8, b6, b7, ba⟩, hB1⟩ rfl
  case body =>
    rintro l pre p a' W1 hl ⟨r, hr⟩ ⟨⟨b8, b6, b7, ba⟩, hB1⟩ rfl hlt
    have hsz1 := hB1.size
    have hl8 := b8.lt
    have hl6 := b6.lt
    have hl7 := b7.lt
    have hla := lt_of_blk ba
    have hmw : p.1 * W + W ≤ n := by
      rw [← HN.out]
      have := Nat.mul_le_mul_right W (show p.1 + 1 ≤ H from p.2)
      rw [Nat.add_mul] at this; omega
    have hrl : (rowOf W ks p.1).length = W := rowOf_len W ks p.1 (by rw [HRA.out.lenk]; exact hmw)
    have KL : Hid (Calls Tryz.prog 99 #[.string ⟨#[114, 111, 119]⟩, .slice (some ⟨ga, p.1 * W, none⟩) W W] W1 fun e w' => e = .returned (strV (lineL [114, 111, 119] (rowOf W ks p.1))) ∧ Below W1.heap.size W1 w') := Lib.hid (by
      have h := line_any (w := W1) [114, 111, 119] ga (p.1 * W) W W (rowOf W ks p.1) (by decide) hrl (by omega) (by omega) (HT.out.on hB1) (fun j hj => by
        rw [rowOf_get W ks p.1 j hj]; exact HCELL.out W1 ba _ (by omega)) (fun j hj => by
        rw [rowOf_get W ks p.1 j hj]
        have := HRA.out.sizes (p.1 * W + j) (by omega)
        omega)
      exact h)
    have hnl := line_len [114, 111, 119] (rowOf W ks p.1) (fun k hk => HBD.out k (rowOf_mem hk))
    rw [hrl] at hnl
    obtain ⟨L1, hL1⟩ : ∃ L1, lineL [114, 111, 119] (rowOf W ks p.1) = L1 := ⟨_, rfl⟩
    have hpl := rowsL_len W ks HBD.out (pre.map Subtype.val)
    rw [List.length_map] at hpl
    have hpl2 : pre.length * (4 + 22 * W) ≤ 64 * (4 + 22 * 64) := Nat.mul_le_mul (by omega) (by omega)
    have hsn : rowsL W ks ((pre ++ [p]).map Subtype.val) = rowsL W ks (pre.map Subtype.val) ++ L1 := by rw [List.map_append, List.map_cons, List.map_nil, rowsL_snoc, hL1]
    obtain ⟨L2, hL2⟩ : ∃ L2, L0 ++ rowsL W ks (pre.map Subtype.val) = L2 := ⟨_, rfl⟩
    have hl2 : L2.length ≤ 200000 := by rw [← hL2, List.length_append]; omega
    have hsn2 : L0 ++ rowsL W ks ((pre ++ [p]).map Subtype.val) = L2 ++ L1 := by rw [hsn, ← hL2, List.append_assoc]
    rw [hL1] at KL hnl
    rw [hL2] at b8
    simp only [List.length_cons, List.length_nil] at hnl
    have HSN := Lib.hid hsn2
    have HB8 := Lib.hid b8
    clear hL1 hL2 hsn hsn2 b8 hrl hpl hpl2
    unfold strV at KL
    gi_wp2_with (first
      | ((refine ⟨trivial, ?_⟩; gi_at_call 99; refine (CallsIn.inRound l (callsIn_wide.2 KL.out)).mono ?_; rintro e v2 ⟨rfl, hc2⟩
          have hsv2 := hc2.size
          have hbv2 := bld_kept HB8.out hc2 (Nat.le_refl _)
          have KB := Lib.hid (bld_write w1.heap.size w1.heap.size L2 L1 v2 (.inr hbv2) (by omega) (by omega))))
      | ((refine ⟨trivial, ?_⟩; gi_at_call 158; refine (CallsIn.inRound l (callsIn_wide.2 KB.out)).mono ?_; rintro e v3 ⟨rfl, hbv3, hc3, ho3⟩)))
    have hsv3 := hc3.size
    have g6 : Boxed v3 w6.heap.size 157 (.slice (some ⟨ga, 0, none⟩) n n) := oth_row ho3 ((hc2.block _ hl6).trans b6) (by omega) (by decide)
    have g7 : Boxed v3 (w6.heap.size + 1) 3 (.int .i64 W) := oth_row ho3 ((hc2.block _ hl7).trans b7) (by omega) (by decide)
    have ga3 := oth_row ho3 ((hc2.block _ hla).trans ba) (by omega) (by decide)
    refine ⟨((KeepsOthers.of_below hc2).trans (oth_keeps ho3 hsv3 (by obtain ⟨_, v, hbk, _⟩ := hbv2; exact ⟨_, _, _, hbk⟩))).from _, fun _ => ⟨g6.cell, g7.cell⟩, ⟨by rw [HSN.out]; exact hbv3, g6, g7, ga3⟩, (hB1.trans (hc2.mono hsz1)).trans (hc3.mono (by omega))⟩
  case done =>
    rintro D ys W1 hD hys ⟨⟨b8, b6, b7, ba⟩, hB1⟩ hK
    rw [hys, ← HL0.out] at b8
    have hsz1 := hB1.size
    have KB := Lib.hid (bld_string w1.heap.size w1.heap.size (textL W H ks) W1 (.inr b8) (by have := b8.lt; omega))
    obtain ⟨_, vb, hbk, _⟩ := b8
    go_wp2_with (go_at_call 160; refine KB.out.mono ?_; rintro e v2 ⟨rfl, hc2, ho2⟩)
    have kF : v2.heap[D]? = some (.deferred (some [])) := ho2 D _ hK (fun e => by have := Option.some.inj e; omega) (fun c fz e => by cases e)
    refine ⟨by simp, .inl ⟨_, _, rfl, run_takeDeferred kF, ?_⟩⟩
    exact ⟨_, by simp [results, Tryz.results73, go_sem], rfl, (hB1.trans (hc2.mono (by omega))).trans (belowK_b (w := w) (Nat.le_refl _) v2 D _ _ (by omega) kF rfl rfl)⟩
  case stop =>
    rintro D c pre W1 _ _ h _
    exact h.elim
end Go.Proofs.YtpmjiifdnnhecaaGreatDoor
