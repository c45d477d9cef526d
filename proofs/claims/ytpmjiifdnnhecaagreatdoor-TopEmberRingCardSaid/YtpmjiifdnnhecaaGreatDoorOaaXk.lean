/-
  Contract of Spread for a right map whose spread integers are in range.
-/
import Derived.Sort.CutIn
import Derived.Deep.DeepFit
import Derived.Test.YtpmjiifdnnhecaaGreatDoorOaaXi
namespace Go.Proofs.YtpmjiifdnnhecaaGreatDoor
open Go.RowKit Go.Shelf
set_option linter.unusedVariables false
set_option linter.unusedSimpArgs false
attribute [local go_sem] Oper.semAt_some

theorem qval_at : ∀ (L : List (Int × Int)) (k : Nat), k < L.length → (L.flatMap qval)[k * 2]? = some (.int .i64 (L[k]?.getD (0, 0)).1) ∧ (L.flatMap qval)[k * 2 + 1]? = some (.int .i64 (L[k]?.getD (0, 0)).2)
  | [], _, h => by simp at h
  | q :: L, 0, _ => by simp [qval]
  | q :: L, k + 1, h => by
    have := qval_at L k (by simpa using h)
    have e : (k + 1) * 2 = k * 2 + 1 + 1 := by omega
    simp only [List.flatMap_cons, qval, e, List.cons_append, List.nil_append, List.getElem?_cons_succ]
    exact this
theorem rowc_own {β : Type} (n₀ g e n c : Nat) (f : β → List Value) : Own (fun (s : β) W => W.ownsRow n₀ e 1 (.slice (some ⟨g, 0, none⟩) n c) n (f s)) := by
  rintro s X Y row hr hg hrow
  refine hr.kept hg ?_
  rcases hr.2 with ⟨h, _⟩ | ⟨g', cap, cur, e1, _, hgb, _⟩
  · cases h
  · simp at e1
    obtain ⟨rfl, rfl⟩ := e1
    refine .inr fun e' => ?_
    obtain ⟨o, ho, hc⟩ := hrow g (by simpa [Value.ownBlock] using e'.symm)
    rw [hgb] at ho; cases ho; cases hc
theorem obj_own {β : Type} (B : Nat) (o : Obj) (ho : o.isCells = true) : Own (fun (_ : β) W => W.heap[B]? = some o) := fun s X Y row h hg hr =>
  (hg.block B (Array.getElem?_eq_some_iff.1 h).1 (fun e => by obtain ⟨o', ho', hc⟩ := hr B e.symm; rw [h] at ho'; cases ho'; rw [ho] at hc; cases hc)).trans h

set_option maxRecDepth 100000 in
set_option maxHeartbeats 6400000 in
theorem spread_any (W H : Nat) (share : Int) (h0 : 0 ≤ share) (h1 : share ≤ 4) (b o c n : Nat) (xs : List Nat) (ks : List Int) (w : World) (hA : RightMap w W H b o n xs ks) (hb : b < w.heap.size)
    (hs : ∀ j : Nat, ((roundsTo W H share ks (placesTo W (H * W)))[j]?.getD 0 : Int).natAbs ≤ 16384) :
    Calls Tryz.prog 69 #[.agg #[.int .i64 W, .int .i64 H, .slice (some ⟨b, o, none⟩) n c], .int .i64 share] w fun e w' =>
      ∃ g, e = .returned (.tuple #[.agg #[.int .i64 W, .int .i64 H, .slice (some ⟨g, 0, none⟩) n n], .int .i64 0]) ∧ g < w'.heap.size ∧
        (∀ j, j < n → w'.cell? ⟨g, j, none⟩ = some (.float .f32 (smpOf ((roundsTo W H share ks (placesTo W (H * W)))[j]?.getD 0)))) ∧ Below w.heap.size w w' := by
  obtain ⟨W0, hW0⟩ : ∃ W0, ((w.alloc (.cells #[.int .i64 W, .int .i64 H, .slice (some ⟨b, o, none⟩) n c] 121)).alloc (.cells #[.int .i64 share] 3)).alloc (.cells #[.int .i64 0, .int .i64 0, .slice none 0 0] 121) = W0 := ⟨_, rfl⟩
  have hB0 : Below w.heap.size w W0 := by rw [← hW0]; exact (((Below.refl _ w).alloc (Nat.le_refl _) _).alloc (by simp) _).alloc (by simp; omega) _
  have hS0 : W0.heap.size = w.heap.size + 3 := by rw [← hW0]; simp
  have a0 : W0.cell? ⟨w.heap.size, 0, none⟩ = some (.int .i64 W) := by rw [← hW0]; simp [go_sem]
  have a1 : W0.cell? ⟨w.heap.size, 1, none⟩ = some (.int .i64 H) := by rw [← hW0]; simp [go_sem]
  have a2 : W0.cell? ⟨w.heap.size, 2, none⟩ = some (.slice (some ⟨b, o, none⟩) n c) := by rw [← hW0]; simp [go_sem]
  have c0 : W0.cell? ⟨w.heap.size + 1, 0, none⟩ = some (.int .i64 share) := by rw [← hW0]; simp [go_sem]
  have z0 : W0.cell? ⟨w.heap.size + 1 + 1, 0, none⟩ = some (.int .i64 0) := by rw [← hW0]; simp [go_sem]
  have z1 : W0.cell? ⟨w.heap.size + 1 + 1, 1, none⟩ = some (.int .i64 0) := by rw [← hW0]; simp [go_sem]
  have z2 : W0.cell? ⟨w.heap.size + 1 + 1, 2, none⟩ = some (.slice none 0 0) := by rw [← hW0]; simp [go_sem]
  have zf : ∀ j, W0.frozen? ⟨w.heap.size + 1 + 1, j, none⟩ = false := fun j => by rw [← hW0]; simp [go_sem]
  have zM : W0.heap[w.heap.size + 1 + 1]? = some (.cells #[.int .i64 0, .int .i64 0, .slice none 0 0] 121 (0, 0)) := by rw [← hW0]; exact blk_alloc_at _ _ (by simp)
  have KA : ∀ w1 : World, Blw (w.heap.size + 3) W0 w1 → Calls Tryz.prog 134 #[.agg #[.int .i64 W, .int .i64 H, .slice (some ⟨b, o, none⟩) n c]] w1 fun e w' => e = .returned (.int .i64 0) ∧ Below (w.heap.size + 3) W0 w' := fun w1 (h : Below (w.heap.size + 3) W0 w1) => by
    have h1 := h.size
    have h2 := hB0.trans (h.mono (by omega))
    exact (checkMap_any W H b o n c xs ks w1 (hA.below h2 hb) (by omega)).mono fun e w' ⟨he, hw⟩ => ⟨he, h.trans (hw.mono (by omega))⟩
  have GA : ∀ w1 : World, Below (w.heap.size + 3) W0 w1 → Calls Tryz.prog 135 #[.agg #[.int .i64 W, .int .i64 H, .slice (some ⟨b, o, none⟩) n c]] w1 fun e w' =>
      ∃ g, e = .returned (.agg #[.int .i64 W, .int .i64 H, .slice (some ⟨g, 0, none⟩) n n]) ∧ w1.heap.size ≤ g ∧ RowAt w' g n ks ∧ Below w1.heap.size w1 w' ∧ Below (w.heap.size + 3) W0 w' := fun w1 (h : Below (w.heap.size + 3) W0 w1) => by
    have h1 := h.size
    have h2 := hB0.trans (h.mono (by omega))
    exact (grid_row W H b o n c xs ks w1 (hA.below h2 hb).toWords (by omega)).mono fun e w' ⟨g, he, h3, h4, h5⟩ => ⟨g, he, h3, h4, h5, h.trans (h5.mono (by omega))⟩
  have hre : rangeErr share 0 4 = 0 := rangeErr_in h0 h1
  have HKA := Lib.hid KA
  have HGA := Lib.hid GA
  have HB0 := Lib.hid hB0
  have HS0 := Lib.hid hS0
  have HSUM := Lib.hid hs
  have HRA := Lib.hid hA
  have HS3 : w.heap.size + 3 ≤ W0.heap.size := by omega
  have hR : Blw (w.heap.size + 3) W0 W0.drew := show Below _ _ _ from (Below.refl (w.heap.size + 3) W0).drew
  clear KA GA hs hA hB0 hS0
  refine (callsIn_wide (n := 6)).1 ?_
  refine callsIn_of_wp_marks Tryz.func69 rfl trivial ?_ rfl
  simp only [Tryz.ntmps69, List.size_toArray, List.length_cons, List.length_nil, Nat.reduceAdd, Nat.reduceSub, Array.replicate_succ, Array.replicate_zero, List.push_toArray, List.append_toArray, List.nil_append, List.cons_append]
  refine wpIn_wide.2 ?_
  go_wp2_with fail
  try rw [hW0]
  clear hW0
  go_region_held3 (fun w' => w'.cell? ⟨w.heap.size, 0, none⟩ = some (.int .i64 W) ∧ w'.cell? ⟨w.heap.size, 1, none⟩ = some (.int .i64 H) ∧ w'.cell? ⟨w.heap.size, 2, none⟩ = some (.slice (some ⟨b, o, none⟩) n c) ∧
      w'.cell? ⟨w.heap.size + 1, 0, none⟩ = some (.int .i64 share) ∧ Blw (w.heap.size + 3) W0 w')
    (first
      | (go_split_ands; refine ⟨?_, ?_, ?_, ?_, ?_⟩ <;> first | assumption | exact hb1 | ((rw [hb1.cell (by simp; try omega)]; assumption)))
      | (go_split_ands; refine ⟨?_, ?_, ?_, ?_, ?_⟩ <;> first | ((rw [(hb1.alloc (by have := hb1.size; have := HS0.out; omega) _).cell (by simp; try omega)]; assumption)) | exact (hb1.alloc (by have := hb1.size; have := HS0.out; omega) _ : Below _ _ _))
      | go_keep)
    (first
      | (go_at_call 134; refine (HKA.out _ ?_).mono ?_; rotate_left 1; rintro e w' ⟨rfl, hb1⟩; rotate_left 1; (simp [*]))
      | (go_at_call 89; refine (checkRange_any _ _ _ _).mono ?_; rw [hre]; rintro e w' ⟨rfl, rfl⟩)
      | ((go_at_call 77; refine (first_zeros _ 0 2 2 (by omega) _ ?_).mono ?_; rotate_left 1; rintro e w' ⟨rfl, rfl⟩; rotate_left 1; (intro j hj; match j, hj with | 0, _ => simp [go_sem] | 1, _ => simp [go_sem]))))
  have hb2 : Below (w.heap.size + 3) W0 (w'.alloc (.cells #[.int .i64 0, .int .i64 0] 26)) := hb1.alloc (by have := hb1.size; have := HS0.out; omega) _
  obtain ⟨W1, hW1⟩ : ∃ W1, w'.alloc (.cells #[.int .i64 0, .int .i64 0] 26) = W1 := ⟨_, rfl⟩
  rw [hW1] at hb2 ⊢
  clear hW1
  have hs1 := hb2.size
  have a0' := (hb2.cell (p := ⟨w.heap.size, 0, none⟩) (by show w.heap.size < _; omega)).trans a0
  have a1' := (hb2.cell (p := ⟨w.heap.size, 1, none⟩) (by show w.heap.size < _; omega)).trans a1
  have a2' := (hb2.cell (p := ⟨w.heap.size, 2, none⟩) (by show w.heap.size < _; omega)).trans a2
  have K3 := Lib.hid (HGA.out W1 hb2)
  clear a0 a1 a2 hb1
  go_wp2_with (first
    | ((go_at_call 135; refine K3.out.mono ?_; rintro e w2 ⟨ga, rfl, hga, hRA, hb3, hb4⟩
        have hs2 := hb3.size
        have hra := hRA.lt
        clear a0' a1' a2'
        obtain ⟨W2, hW2⟩ : ∃ W2, (w2.alloc (.cells #[.int .i64 W, .int .i64 H, .slice (some ⟨ga, 0, none⟩) n n] 225)).alloc (.cells #[.int .i64 W, .int .i64 H, .slice (some ⟨ga, 0, none⟩) n n] 225) = W2 := ⟨_, rfl⟩
        have K4 := Lib.hid (clone_any (w := W2) ga n n ks HRA.out.lenk (by have := HRA.out.area; have := HRA.out.wid; have := HRA.out.hei; have := Int.mul_le_mul HRA.out.wid.1 HRA.out.hei.1 (by omega) (by omega); omega) HRA.out.small (by rw [← hW2]; simp; omega) (fun j hj => by
          rw [← hW2]
          exact ((((Below.refl _ w2).alloc (Nat.le_refl _) _).alloc (by simp) _).cell (p := ⟨ga, j, none⟩) hra).trans (hRA.cells j hj)))
        have q0 : W2.cell? ⟨w2.heap.size, 0, none⟩ = some (.int .i64 W) := by rw [← hW2]; simp [go_sem]
        have q1 : W2.cell? ⟨w2.heap.size, 1, none⟩ = some (.int .i64 H) := by rw [← hW2]; simp [go_sem]
        have q2 : W2.cell? ⟨w2.heap.size, 2, none⟩ = some (.slice (some ⟨ga, 0, none⟩) n n) := by rw [← hW2]; simp [go_sem]
        have r0 : W2.cell? ⟨w2.heap.size + 1, 0, none⟩ = some (.int .i64 W) := by rw [← hW2]; simp [go_sem]
        have r1 : W2.cell? ⟨w2.heap.size + 1, 1, none⟩ = some (.int .i64 H) := by rw [← hW2]; simp [go_sem]
        have r2 : W2.cell? ⟨w2.heap.size + 1, 2, none⟩ = some (.slice (some ⟨ga, 0, none⟩) n n) := by rw [← hW2]; simp [go_sem]
        have rf : W2.frozen? ⟨w2.heap.size + 1, 2, none⟩ = false := by rw [← hW2]; simp [go_sem]
        have hS2 : W2.heap.size = w2.heap.size + 2 := by rw [← hW2]; simp
        have hB2 : Below w2.heap.size w2 W2 := by rw [← hW2]; exact ((Below.refl _ w2).alloc (Nat.le_refl _) _).alloc (by simp) _
        have hRA2 := hRA.below hB2 hra
        have hB02 := hb4.trans (hB2.mono (by omega))
        have E7 : W2.heap[w2.heap.size]? = some (.cells #[.int .i64 W, .int .i64 H, .slice (some ⟨ga, 0, none⟩) n n] 225 (0, 0)) := by rw [← hW2]; exact blk_alloc_other (blk_alloc_new _ _) _
        have E8 : W2.heap[w2.heap.size + 1]? = some (.cells #[.int .i64 W, .int .i64 H, .slice (some ⟨ga, 0, none⟩) n n] 225 (0, 0)) := by rw [← hW2]; exact blk_alloc_new1 _ _ _
        have HS2 := Lib.hid hS2
        have HB02 := Lib.hid hB02
        have HRA2 := Lib.hid hRA2
        clear hS2 hB02 hRA2 hRA hb3 hb4))
    | ((go_at_call 148; refine K4.out.mono ?_; rintro e w4 ⟨gb, cb, rfl, hown4, hb5⟩
        have hS2 := HS2.out
        have hs5 := hb5.size
        replace q0 := (hb5.cell (p := ⟨w2.heap.size, 0, none⟩) (by show w2.heap.size < _; omega)).trans q0
        replace q1 := (hb5.cell (p := ⟨w2.heap.size, 1, none⟩) (by show w2.heap.size < _; omega)).trans q1
        replace q2 := (hb5.cell (p := ⟨w2.heap.size, 2, none⟩) (by show w2.heap.size < _; omega)).trans q2
        replace r0 := (hb5.cell (p := ⟨w2.heap.size + 1, 0, none⟩) (by show w2.heap.size + 1 < _; omega)).trans r0
        replace r1 := (hb5.cell (p := ⟨w2.heap.size + 1, 1, none⟩) (by show w2.heap.size + 1 < _; omega)).trans r1
        replace r2 := (hb5.cell (p := ⟨w2.heap.size + 1, 2, none⟩) (by show w2.heap.size + 1 < _; omega)).trans r2
        replace rf := (hb5.frozen (p := ⟨w2.heap.size + 1, 2, none⟩) (by show w2.heap.size + 1 < _; omega)).trans rf
        clear hS2)))
  have hN : W * H = n := by have := HRA.out.area; exact_mod_cast this
  have hS2 := HS2.out
  have hs5 := hb5.size
  obtain ⟨W5, hW5⟩ : ∃ W5, w4.setCell ⟨w2.heap.size + 1, 2, none⟩ (.slice (some ⟨gb, 0, none⟩) n cb) = W5 := ⟨_, rfl⟩
  have hS5 : W5.heap.size = w4.heap.size := by rw [← hW5]; simp [World.setCell]
  have hgb : W2.heap.size ≤ gb ∧ gb < w4.heap.size := hown4.lt gb rfl
  have hB5 : Below (w.heap.size + 3) W0 W5 := by rw [← hW5]; exact (HB02.out.trans (hb5.mono (by omega))).setCell (by dsimp only; omega) _
  have hG7 : GridAt W5 w2.heap.size W H ga n n := by
    rw [← hW5]
    exact ⟨by simp [go_sem, q0], by simp [go_sem, q1], by simp [go_sem, q2]⟩
  have hG8 : GridAt W5 (w2.heap.size + 1) W H gb n cb := by
    rw [← hW5]
    exact ⟨by simp [go_sem, r0], by simp [go_sem, r1], by simp [go_sem, r2]⟩
  have hRow : RowAt W5 ga n ks := by
    have h := HRA2.out.below hb5 HRA2.out.lt
    rw [← hW5]
    exact ⟨by simpa [World.setCell] using h.lt, fun j hj => by
      have := h.cells j hj
      exact (World.cell?_setCell_other w4 ⟨w2.heap.size + 1, 2, none⟩ ⟨ga, j, none⟩ _ (fun e => by have := congrArg Addr.block e; simp at this; omega)).trans this⟩
  have hOwn : W5.ownsRow W2.heap.size 3 1 (.slice (some ⟨gb, 0, none⟩) n cb) n (ks.map (Value.int .i64)) := by
    rw [← hW5]
    exact ownsRow_setCell_below hown4 (by dsimp only; omega) _
  obtain ⟨oa, hoa⟩ : ∃ oa, W5.heap[ga]? = some oa := ⟨_, Array.getElem?_eq_getElem hRow.lt⟩
  have hoc : oa.isCells = true := by
    have h := hRow.cells 0 (by have := HRA.out.wid; have := HRA.out.hei; have := Int.mul_le_mul HRA.out.wid.1 HRA.out.hei.1 (by omega) (by omega); have := HRA.out.area; omega)
    simp only [World.cell?, hoa] at h
    cases oa <;> first | rfl | (simp at h)
  have e7 : W5.heap[w2.heap.size]? = some (.cells #[.int .i64 W, .int .i64 H, .slice (some ⟨ga, 0, none⟩) n n] 225 (0, 0)) := by
    rw [← hW5]
    exact blk_set_other ((hb5.block _ (by omega)).trans E7) (by dsimp only; omega) _
  have e8 : W5.heap[w2.heap.size + 1]? = some (.cells #[.int .i64 W, .int .i64 H, .slice (some ⟨gb, 0, none⟩) n cb] 225 (0, 0)) := by
    rw [← hW5]
    have h := (hb5.block _ (by omega)).trans E8
    simp only [World.setCell, Array.getElem?_modify, if_true, h, Option.map_some]
    simp
  rw [hW5]
  have HOA := Lib.hid hoa
  have HOC := Lib.hid hoc
  have HG7 := Lib.hid hG7
  have HE7 := Lib.hid e7
  have HE8 := Lib.hid e8
  have HROW := Lib.hid hRow
  have HOWN := Lib.hid hOwn
  have HB5 := Lib.hid hB5
  have HS5 := Lib.hid hS5
  have HN := Lib.hid hN
  clear hoa hoc hG7 hG8 e7 e8 hRow hOwn hB5 hS5 hN hW5 hown4 q0 q1 q2 r0 r1 r2 rf hb5 hS2
  refine (callsIn_wide.1 (places_in Fence.wide 6 trivial rfl W H W5)).mono ?_
  rintro e w6 ⟨rfl, rfl⟩
  go_wp2
  have hS5 : w4.heap.size ≤ W5.heap.size := by have := HS5.out; omega
  have hS2 : w2.heap.size + 2 ≤ W2.heap.size := by have := HS2.out; omega
  obtain ⟨W7, hW7⟩ : ∃ W7, (W5.alloc (.cells #[.int .i64 W] 3)).alloc (.cells #[.int .i64 H] 3) = W7 := ⟨_, rfl⟩
  have bW : Boxed W7 W5.heap.size 3 (.int .i64 W) := by rw [← hW7]; exact (Boxed.new W5 _ _).alloc _
  have bH : Boxed W7 (W5.heap.size + 1) 3 (.int .i64 H) := by rw [← hW7]; exact blk_alloc_new1 _ _ _
  have hS7 : W5.heap.size + 2 ≤ W7.heap.size := by rw [← hW7]; simp
  have k7 : W7.heap[w2.heap.size]? = some (.cells #[.int .i64 W, .int .i64 H, .slice (some ⟨ga, 0, none⟩) n n] 225 (0, 0)) := by rw [← hW7]; exact blk_alloc_other (blk_alloc_other HE7.out _) _
  have k8 : W7.heap[w2.heap.size + 1]? = some (.cells #[.int .i64 W, .int .i64 H, .slice (some ⟨gb, 0, none⟩) n cb] 225 (0, 0)) := by rw [← hW7]; exact blk_alloc_other (blk_alloc_other HE8.out _) _
  have ka : W7.heap[ga]? = some oa := by rw [← hW7]; exact blk_alloc_other (blk_alloc_other HOA.out _) _
  have kb : W7.ownsRow W2.heap.size 3 1 (.slice (some ⟨gb, 0, none⟩) n cb) n (ks.map (Value.int .i64)) := by rw [← hW7]; exact (HOWN.out.alloc _).alloc _
  have hB7 : Below (w.heap.size + 3) W0 W7 := by rw [← hW7]; exact below_alloc (below_alloc HB5.out HS3 _) HS3 _
  have HW := HRA.out.wid
  have HH := HRA.out.hei
  have hW64 : W ≤ 64 := by omega
  have hH64 : H ≤ 64 := by omega
  clear HW HH
  rw [hW7]
  clear hW7
  have hgb4 : Hid (gb < w4.heap.size) := Lib.hid hgb.2
  have HGAB : Hid (gb ≠ ga) := Lib.hid (by have := hgb; have := hra; omega)
  have hro : Fence.wide.round = none := rfl
  refine (wpIn_wide (n := 6)).1 ?_
  refine wpIn_rangeFunc_ownH hro (by omega) (gf := 201) (lb := #[.pointer (some ⟨W5.heap.size + 1, 0, none⟩), .pointer (some ⟨W5.heap.size, 0, none⟩)]) rfl trivial (enters_of Tryz.func201 (by kernel_rfl) rfl)
    (places_stops Fence.wide (6 - 1) trivial hro (by omega) (W5.heap.size + 1) W5.heap.size W H hW64 hH64 W7 (by omega) (by omega) bH.cell bW.cell) KeepsWide.t KeepsWide.b (Below.refl _ _) (fun _ => rfl)
    (fun pre W1 => (W1.ownsRow W2.heap.size 3 1 (.slice (some ⟨gb, 0, none⟩) n cb) n ((roundsTo W H share ks (pre.map Subtype.val)).map (Value.int .i64)) ∧ (Boxed W1 W5.heap.size 3 (.int .i64 W) ∧ W1.heap[w2.heap.size]? = some (.cells #[.int .i64 W, .int .i64 H, .slice (some ⟨ga, 0, none⟩) n n] 225 (0, 0)) ∧ W1.heap[w2.heap.size + 1]? = some (.cells #[.int .i64 W, .int .i64 H, .slice (some ⟨gb, 0, none⟩) n cb] 225 (0, 0)) ∧ W1.heap[ga]? = some oa)) ∧ Below (w.heap.size + 3) W0 W1)
    (fun _ _ _ => False)
    (OwnFrom.and (OwnFrom.and (Own.from (rowc_own W2.heap.size gb 3 n cb (fun pre : List (Pl W H) => (roundsTo W H share ks (pre.map Subtype.val)).map (Value.int .i64))) _) (OwnFrom.and (Own.from (boxed_own _ _ (fun _ => .int .i64 W)) _) (OwnFrom.and (Own.from (row_own _ _ _) _) (OwnFrom.and (Own.from (row_own _ _ _) _) (Own.from (obj_own _ _ HOC.out) _))))) (ownFrom_below (by omega) (by omega)))
    (fun _ _ _ _ _ hs _ _ => hs)
    ⟨⟨kb, bW, k7, k8, ka⟩, hB7⟩
    (fun p a' W1 => ∃ Bx, W5.heap.size < Bx ∧ W1.heap[Bx]? = some (.cells #[.int .i64 (p.1.1 : Nat), .int .i64 (p.1.2 : Nat)] 124 (0, 0)) ∧ a' = { tmps := #[.agg #[.int .i64 W, .int .i64 H, .slice (some ⟨b, o, none⟩) n c], .int .i64 share, .pointer (some ⟨w.heap.size, 0, none⟩), .pointer (some ⟨w.heap.size + 1, 0, none⟩), .pointer (some ⟨w.heap.size + 1 + 1, 0, none⟩), .int .i64 0, .int .i64 0, .pointer (some ⟨w2.heap.size, 0, none⟩), .pointer (some ⟨w2.heap.size + 1, 0, none⟩), .pointer (some ⟨Bx, 0, none⟩), undef, undef, undef, .agg #[.int .i64 W, .int .i64 H, .slice (some ⟨b, o, none⟩) n c], .int .i64 0, .int .i64 share, .int .i64 0, .slice (some ⟨w'.heap.size, 0, none⟩) 2 2, .int .i64 0, .int .i64 0, .bool false, undef, undef, .agg #[.int .i64 W, .int .i64 H, .slice (some ⟨b, o, none⟩) n c], .agg #[.int .i64 W, .int .i64 H, .slice (some ⟨ga, 0, none⟩) n n], .agg #[.int .i64 W, .int .i64 H, .slice (some ⟨ga, 0, none⟩) n n], .pointer (some ⟨w2.heap.size, 2, none⟩), .slice (some ⟨ga, 0, none⟩) n n, .slice (some ⟨gb, 0, none⟩) n cb, .pointer (some ⟨w2.heap.size + 1, 2, none⟩), .pointer (some ⟨w2.heap.size, 0, none⟩), .int .i64 W, .pointer (some ⟨w2.heap.size, 1, none⟩), .int .i64 H, .func (.func 201) #[] #[.pointer (some ⟨W5.heap.size + 1, 0, none⟩), .pointer (some ⟨W5.heap.size, 0, none⟩)], .agg #[.int .i64 (p.1.1 : Nat), .int .i64 (p.1.2 : Nat)], undef, undef, undef, undef, undef, undef, undef, undef, undef, undef, undef, undef, undef, undef, undef, undef, undef, undef, undef, undef, undef, undef, undef, undef, undef, undef, undef, undef, undef, undef, undef, undef, undef, undef, undef, undef, undef, undef, undef], defers := [] })
    (fun p a' _ X Y row hs hg hr => by obtain ⟨Bx, h1, h2, h3⟩ := hs; exact ⟨Bx, h1, row_own (β := Unit) Bx _ _ () X Y row h2 hg (fun r e => (hr r e).2), h3⟩)
    ?assign ?body ?done ?stop
  case assign =>
    rintro l pre p W1 K ⟨⟨hrow, bW1, b7, b8, ba⟩, hB1⟩ hK
    have hsz1 := hB1.size
    have hlw := bW1.lt
    gi_wp2
    exact hK _ _ ((KeepsOthers.alloc _ _).from _) (KeepsWide.of_below ((Below.refl _ W1).alloc (Nat.le_refl _) _) bW1.lt)
      ⟨⟨hrow.alloc _, bW1.alloc _, blk_alloc_other b7 _, blk_alloc_other b8 _, blk_alloc_other ba _⟩, below_alloc hB1 HS3 _⟩ ⟨W1.heap.size, hlw, heap_alloc_new W1 _, rfl⟩
  case body =>
    rintro l pre p a' W1 hl ⟨r, hr⟩ ⟨⟨hrow, bW1, b7, b8, ba⟩, hB1⟩ ⟨Bx, hBx, bX, rfl⟩ hlt
    have hlB := lt_of_blk bX
    have hl7 := lt_of_blk b7
    have hl8 := lt_of_blk b8
    have hlg := lt_of_blk ba
    have hx0 : W1.cell? ⟨Bx, 0, none⟩ = some (.int .i64 (p.1.1 : Nat)) := by rw [cell_of_row W1 Bx 0 _ _ (0, 0) bX]; rfl
    have hx1 : W1.cell? ⟨Bx, 1, none⟩ = some (.int .i64 (p.1.2 : Nat)) := by rw [cell_of_row W1 Bx 1 _ _ (0, 0) bX]; rfl
    obtain ⟨q0, q1, q2⟩ := GridAt.of_blk b7
    obtain ⟨r0, r1, r2⟩ := GridAt.of_blk b8
    have hcs : W1.cell? ⟨w.heap.size + 1, 0, none⟩ = some (.int .i64 share) := (hB1.cell (p := ⟨w.heap.size + 1, 0, none⟩) (by show w.heap.size + 1 < _; omega)).trans c0
    have hj : p.1.2 * W + p.1.1 < n := idx_lt p.2.1 p.2.2 HN.out
    have hlsh : w.heap.size + 1 < W1.heap.size := by have := hB1.size; omega
    have hp1 := p.2.1
    have hp2 := p.2.2
    have hka : W1.cell? ⟨ga, p.1.2 * W + p.1.1, none⟩ = some (.int .i64 (ks[p.1.2 * W + p.1.1]?.getD 0)) := (World.cell?_of_block (w := W5) (w' := W1) (a := ⟨ga, p.1.2 * W + p.1.1, none⟩) (ba.trans HOA.out.symm)).trans (HROW.out.cells _ hj)
    have hgb := gift_bd (HRA.out.sizes _ hj) h0 h1
    obtain ⟨kj, hkj⟩ : ∃ kj : Int, ks[p.1.2 * W + p.1.1]?.getD 0 = kj := ⟨_, rfl⟩
    rw [hkj] at hka hgb
    have hm1 : p.1.2 * W ≤ 64 * 64 := Nat.mul_le_mul (by omega) hW64
    have hks : kj.natAbs ≤ 16384 := by rw [← hkj]; exact HRA.out.sizes _ hj
    have ei : ((p.1.2 : Int) * (W : Int) + (p.1.1 : Int)).toNat = p.1.2 * W + p.1.1 := by
      have : ((p.1.2 : Int) * (W : Int) + (p.1.1 : Int)) = ((p.1.2 * W + p.1.1 : Nat) : Int) := by push_cast; rfl
      rw [this]; rfl
    have e2 : (p.1.2 : Int) * (W : Int) = ((p.1.2 * W : Nat) : Int) := by push_cast; rfl
    have hnn := HRA.out.small
    have KAT : Hid (∀ Wx : World, Below W1.heap.size W1 Wx → Calls Tryz.prog 142 #[.agg #[.int .i64 W, .int .i64 H, .slice (some ⟨ga, 0, none⟩) n n], .agg #[.int .i64 (p.1.1 : Nat), .int .i64 (p.1.2 : Nat)]] Wx fun e w' => e = .returned (.int .i64 kj) ∧ Below W1.heap.size W1 w') := Lib.hid (fun Wx h => by
      have hs := h.size
      exact (at_any W H (p.1.1 : Nat) (p.1.2 : Nat) ga n n kj (by omega) (by omega) (by omega) (by rw [e2]; omega) Wx (by rw [e2]; omega) (by omega) (by rw [ei]; exact (h.cell (p := ⟨ga, _, none⟩) hlg).trans hka)).mono fun e w' ⟨he, hw⟩ => ⟨he, h.trans (hw.mono hs)⟩)
    have KLOW : Hid (∀ Wx : World, Calls Tryz.prog 150 #[.int .i64 (kj * share), .int .i64 16] Wx fun e w' => e = .returned (.int .i64 (kj * share / 16)) ∧ Wx = w') := Lib.hid (fun Wx => lowered_any _ 16 (by omega) (by omega) (by omega) (by omega) Wx)
    have hmul : IntKind.i64.wrap (kj * share) = kj * share := IntWalk.i64_in _ ⟨by omega, by omega⟩
    have HKJ := Lib.hid hkj
    clear hkj ei e2 hka
    have hmix : Tryz.prog.follows Departure.mixedOrders = true := by kernel_rfl
    dsimp only
    gi_upto_region 9 with fail
    gi_cut [10] from 36 (fun s10 wx => s10 = .int .i64 (kj * share / 16) ∧ Below W1.heap.size W1 wx)
    case first =>
      gi_region_with_o (first
        | ((refine ⟨trivial, ?_⟩; gi_at_call 142; refine (CallsIn.inRound l (callsIn_wide.2 (KAT.out _ (Below.refl _ W1).drew))).mono ?_; rintro e W2 ⟨rfl, hb2⟩
            have cs2 : W2.cell? ⟨w.heap.size + 1, 0, none⟩ = some (.int .i64 share) := (hb2.cell (p := ⟨w.heap.size + 1, 0, none⟩) hlsh).trans hcs))
        | ((refine ⟨trivial, ?_⟩; gi_at_call 150; refine (CallsIn.inRound l (callsIn_wide.2 (KLOW.out _))).mono ?_; rintro e W3 ⟨rfl, rfl⟩)))
      all_goals gi_wp2_with fail
      all_goals gi_meet
      all_goals exact ⟨rfl, hb2⟩
    case rest =>
      obtain ⟨rfl, hbc⟩ := hcut
      have hsc := hbc.size
      have hx0 := (hbc.cell (p := ⟨Bx, 0, none⟩) hlB).trans hx0
      have hx1 := (hbc.cell (p := ⟨Bx, 1, none⟩) hlB).trans hx1
      have q0 := (hbc.cell (p := ⟨w2.heap.size, 0, none⟩) hl7).trans q0
      have q1 := (hbc.cell (p := ⟨w2.heap.size, 1, none⟩) hl7).trans q1
      have q2 := (hbc.cell (p := ⟨w2.heap.size, 2, none⟩) hl7).trans q2
      obtain ⟨L, hL⟩ : ∃ L, nbrsTo W H (p.1.1 : Nat) (p.1.2 : Nat) 4 = L := ⟨_, rfl⟩
      have K2 := Lib.hid (hL ▸ neighbours_any W H (p.1.1 : Nat) (p.1.2 : Nat) (by omega) (by omega) (some ⟨ga, 0, none⟩) n n wc)
      have hL4 : L.length ≤ 4 := by rw [← hL]; exact nbrsTo_len _ _ _ _ _
      have HL := Lib.hid hL
      clear hL
      gi_wp2_with ((refine ⟨trivial, ?_⟩; gi_at_call 151; refine (CallsIn.inRound l (callsIn_wide.2 K2.out)).mono ?_; rintro e w3 ⟨v, rfl, hownN, hb3⟩; (obtain ⟨ao, cN, rfl⟩ := owns_slice hownN)))
      have hs3 := hb3.size
      have hgn : ∃ gN oN, w3.heap[gN]? = some oN ∧ gb ≠ gN ∧ ∀ k, k < L.length → ao = some ⟨gN, 0, none⟩ ∧ ∀ W' : World, W'.heap[gN]? = some oN → W'.cell? ⟨gN, k * 2, none⟩ = some (.int .i64 (L[k]?.getD (0, 0)).1) ∧ W'.cell? ⟨gN, k * 2 + 1, none⟩ = some (.int .i64 (L[k]?.getD (0, 0)).2) := by
        by_cases hm : 1 ≤ L.length
        · obtain ⟨gN, c', e1, hgl, hgw⟩ := owns_some hownN hm
          cases e1
          refine ⟨gN, _, Array.getElem?_eq_getElem hgl, by omega, fun k hk => ⟨rfl, fun W' hW' => ?_⟩⟩
          have hc : ∀ a, W'.cell? ⟨gN, a, none⟩ = w3.cell? ⟨gN, a, none⟩ := fun a => World.cell?_of_block (w := w3) (w' := W') (a := ⟨gN, a, none⟩) (hW'.trans (Array.getElem?_eq_getElem hgl).symm)
          rw [hc, hc, hownN.cellAt (k * 2) (by omega), hownN.cellAt (k * 2 + 1) (by omega)]
          exact qval_at L k hk
        · exact ⟨ga, oa, (hb3.block _ (Nat.lt_of_lt_of_le hlg hsc)).trans ((hbc.block _ hlg).trans ba), by have := HGAB.out; omega, fun k hk => by omega⟩
      obtain ⟨gN, oN, hoN, hneN, hNC⟩ := hgn
      have HNC := Lib.hid hNC
      clear hNC
      obtain ⟨PP, hPP⟩ : ∃ PP : SpP, PP = { B7 := w2.heap.size, B8 := w2.heap.size + 1, Bw := W5.heap.size, Bx := Bx, ga := ga, gb := gb, gn := gN, o7 := .cells #[.int .i64 W, .int .i64 H, .slice (some ⟨ga, 0, none⟩) n n] 225 (0, 0), o8 := .cells #[.int .i64 W, .int .i64 H, .slice (some ⟨gb, 0, none⟩) n cb] 225 (0, 0), ow := .cells #[.int .i64 W] 3 (0, 0), ox := .cells #[.int .i64 (p.1.1 : Nat), .int .i64 (p.1.2 : Nat)] 124 (0, 0), oa := oa, on := oN, N := W2.heap.size, M := w.heap.size + 3, n := n, cb := cb, T := 3, W0 := W0, W1 := W1 } := ⟨_, rfl⟩
      have hlw := bW1.lt
      have hst : SpW PP (roundsTo W H share ks (pre.map Subtype.val)) w3 := by
        rw [hPP]
        exact ⟨owns_kept (owns_kept hrow hbc (Nat.le_refl _)) hb3 (Nat.le_refl _), (hb3.block _ (Nat.lt_of_lt_of_le hl7 hsc)).trans ((hbc.block _ hl7).trans b7), (hb3.block _ (Nat.lt_of_lt_of_le hl8 hsc)).trans ((hbc.block _ hl8).trans b8), (hb3.block _ (Nat.lt_of_lt_of_le hlw hsc)).trans ((hbc.block _ hlw).trans bW1),
          (hb3.block _ (Nat.lt_of_lt_of_le hlB hsc)).trans ((hbc.block _ hlB).trans bX), (hb3.block _ (Nat.lt_of_lt_of_le hlg hsc)).trans ((hbc.block _ hlg).trans ba), hoN, (hB1.trans (hbc.mono (by have := hB1.size; omega))).trans (hb3.mono (by have := hB1.size; omega)), (KeepsOthers.of_below hbc).trans (KeepsOthers.of_below hb3)⟩
      have hap : PP.Apart := by
        have h1 := HGAB.out
        rw [hPP]
        exact ⟨by show gb ≠ w2.heap.size; omega, by show gb ≠ w2.heap.size + 1; omega, by show gb ≠ W5.heap.size; omega, by show gb ≠ Bx; omega, h1, hneN, by show w.heap.size + 3 ≤ gb; omega⟩
      have HPP := Lib.hid hPP
      have HST := Lib.hid hst
      clear hPP hst hoN hownN
      gi_loopw [46] (fun i wi => ∃ k : Nat, k ≤ L.length ∧ i = .int .i64 k ∧ SpW PP (giveTo W (p.1.2 * W + p.1.1) (kj * share / 16) (L.take k) (roundsTo W H share ks (pre.map Subtype.val))) wi)
        (fun i _ => L.length - (intOf i).toNat)
      case atStart => exact ⟨0, Nat.zero_le _, rfl, HST.out⟩
      case round =>
        obtain ⟨k, hk, rfl, hSP⟩ := hrel
        by_cases hkl : k < L.length
        · have hNk := HNC.out k hkl
          obtain ⟨rfl, hNk2⟩ := hNk
          have hbn : wr.heap[gN]? = some oN := by have := hSP.bn; rw [HPP.out] at this; exact this
          obtain ⟨n0, n1⟩ := hNk2 wr hbn
          have hSq : L.take (k + 1) = L.take k ++ [L[k]?.getD (0, 0)] := by rw [List.take_succ_eq_append_getElem hkl, List.getElem?_eq_getElem hkl]; rfl
          have hqin := nbrs_in (W := W) (H := H) (x := (p.1.1 : Nat)) (y := (p.1.2 : Nat)) (k := 4) (q := L[k]?.getD (0, 0)) (by rw [HL.out, List.getElem?_eq_getElem hkl]; exact List.getElem_mem _)
          obtain ⟨qx, hqx⟩ : ∃ qx, (L[k]?.getD (0, 0)).1 = qx := ⟨_, rfl⟩
          obtain ⟨qy, hqy⟩ : ∃ qy, (L[k]?.getD (0, 0)).2 = qy := ⟨_, rfl⟩
          have hq2 : L[k]?.getD (0, 0) = (qx, qy) := by rw [← hqx, ← hqy]
          rw [hqx] at n0 hqin
          rw [hqy] at n1 hqin
          rw [hq2] at hSq
          have HSQ := Lib.hid hSq
          have HSP := Lib.hid hSP
          clear hqx hqy hq2 hSq hSP hbn hNk2
          have ik : (k : Int) < (L.length : Int) := by omega
          obtain ⟨C, hC⟩ : ∃ C, giveTo W (p.1.2 * W + p.1.1) (kj * share / 16) (L.take k) (roundsTo W H share ks (pre.map Subtype.val)) = C := ⟨_, rfl⟩
          have hClen : C.length = n := by rw [← hC, give_len, roundsTo_len]; exact HRA.out.lenk
          have hCbd : Within C 1073741824 := by
            rw [← hC]
            have h1 := roundsTo_bd (W := W) (H := H) (share := share) (ks := ks) (fun j => by
              by_cases hj : j < n
              · exact HRA.out.sizes j hj
              · rw [List.getElem?_eq_none (by rw [HRA.out.lenk]; omega)]; simp) h0 h1 (pre.map Subtype.val)
            refine (Within.give (W := W) (j := p.1.2 * W + p.1.1) (G := 4097) hgb.1 (L.take k) h1).mono ?_
            have h2 : (L.take k).length ≤ 4 := by rw [List.length_take]; omega
            have h3 : (pre.map Subtype.val).length ≤ 4096 := by rw [List.length_map]; have := HN.out; omega
            have h4 : 2 * 4097 * (L.take k).length ≤ 2 * 4097 * 4 := Nat.mul_le_mul (Nat.le_refl _) h2
            have h5 : 32776 * (pre.map Subtype.val).length ≤ 32776 * 4096 := Nat.mul_le_mul (Nat.le_refl _) h3
            omega
          rw [hC] at HSP
          have HCE := Lib.hid hC
          have HCL := Lib.hid hClen
          have HCB := Lib.hid hCbd
          clear hC hClen hCbd
          obtain ⟨jj, hjj⟩ : ∃ jj, p.1.2 * W + p.1.1 = jj := ⟨_, rfl⟩
          have hjn : (jj : Int) < (n : Int) := by rw [← hjj]; exact_mod_cast hj
          have hj0 : (0 : Int) ≤ (jj : Int) := by omega
          obtain ⟨gift, hgi⟩ : ∃ gift, kj * share / 16 = gift := ⟨_, rfl⟩
          have hgi2 : -4097 ≤ gift ∧ gift ≤ 4097 := by rw [← hgi]; omega
          obtain ⟨cj, hcj⟩ : ∃ cj : Int, C[jj]?.getD 0 = cj := ⟨_, rfl⟩
          have hcj2 : -1073741824 ≤ cj ∧ cj ≤ 1073741824 := by have := HCB.out jj; rw [hcj] at this; omega
          have hsub : IntKind.i64.wrap (cj - gift) = cj - gift := IntWalk.i64_in _ ⟨by omega, by omega⟩
          have KIX : Hid (∀ Wx : World, Calls Tryz.prog 152 #[.agg #[.int .i64 W, .int .i64 H, .slice (some ⟨ga, 0, none⟩) n n], .agg #[.int .i64 (p.1.1 : Nat), .int .i64 (p.1.2 : Nat)]] Wx fun e w' => e = .returned (.int .i64 (jj : Nat)) ∧ Below Wx.heap.size Wx w') := Lib.hid (fun Wx => by
            have e2 : (p.1.2 : Int) * (W : Int) = ((p.1.2 * W : Nat) : Int) := by push_cast; rfl
            have h := index_any W H (p.1.1 : Nat) (p.1.2 : Nat) (some ⟨ga, 0, none⟩) n n (by omega) (by omega) (by omega) (by rw [e2]; omega) Wx
            rw [show (p.1.2 : Int) * (W : Int) + (p.1.1 : Int) = ((jj : Nat) : Int) by rw [← hjj]; push_cast; rfl] at h
            exact h)
          obtain ⟨Wa, hWa⟩ : ∃ Wa, wr.alloc (.cells #[.int .i64 qx, .int .i64 qy] 124) = Wa := ⟨_, rfl⟩
          have hSa : SpW PP C Wa := by rw [← hWa]; exact HSP.out.alloc (by rw [HPP.out]; exact HS3) _
          have hQa : Wa.heap[wr.heap.size]? = some (.cells #[.int .i64 qx, .int .i64 qy] 124 (0, 0)) := by rw [← hWa]; exact blk_alloc_new _ _
          have hFACT : ∀ (V : List Int) (Wx : World), SpW PP V Wx → Wx.cell? ⟨w2.heap.size, 0, none⟩ = some (.int .i64 W) ∧ Wx.cell? ⟨w2.heap.size, 1, none⟩ = some (.int .i64 H) ∧ Wx.cell? ⟨w2.heap.size, 2, none⟩ = some (.slice (some ⟨ga, 0, none⟩) n n) ∧ Wx.cell? ⟨w2.heap.size + 1, 2, none⟩ = some (.slice (some ⟨gb, 0, none⟩) n cb) ∧ Wx.cell? ⟨Bx, 0, none⟩ = some (.int .i64 (p.1.1 : Nat)) ∧ Wx.cell? ⟨Bx, 1, none⟩ = some (.int .i64 (p.1.2 : Nat)) := fun V Wx h => by
            rw [HPP.out] at h
            obtain ⟨x0, x1, x2⟩ := GridAt.of_blk h.b7
            obtain ⟨y0, y1, y2⟩ := GridAt.of_blk h.b8
            exact ⟨x0, x1, x2, y2, by rw [cell_of_row Wx Bx 0 _ _ (0, 0) h.bx]; rfl, by rw [cell_of_row Wx Bx 1 _ _ (0, 0) h.bx]; rfl⟩
          have hGB : ∀ (V : List Int) (Wx : World), SpW PP V Wx → V.length = n → ∀ m, m < n → Wx.cell? ⟨gb, m, none⟩ = some (.int .i64 (V[m]?.getD 0)) ∧ Wx.frozen? ⟨gb, m, none⟩ = false := fun V Wx h hV m hm => by
            have a := h.cell (j := m) (by rw [hV]; exact hm)
            have b := h.frozen m
            rw [HPP.out] at a b
            exact ⟨a, b⟩
          have hgbl : gb < w4.heap.size := hgb4.out
          have HWR := Lib.hid (show w4.heap.size ≤ wr.heap.size by have h := lt_of_blk (HSP.out.bw); rw [HPP.out] at h; have h' : W5.heap.size < wr.heap.size := h; omega)
          have HSa := Lib.hid hSa
          have HQa := Lib.hid hQa
          have HFACT := Lib.hid hFACT
          have HGB := Lib.hid hGB
          have HCJ := Lib.hid hcj
          have HJJ := Lib.hid hjj
          have HGI := Lib.hid hgi
          clear hSa hQa hFACT hGB hcj hjj hgi
          gi_upto_region 13 with fail
          try rw [hWa]
          obtain ⟨q0a, q1a, q2a, r2a, hx0a, hx1a⟩ := HFACT.out C Wa HSa.out
          obtain ⟨S, hSdef⟩ : ∃ S : World → Prop, S = fun w' => w'.cell? ⟨w2.heap.size, 0, none⟩ = some (.int .i64 W) ∧ w'.cell? ⟨w2.heap.size, 1, none⟩ = some (.int .i64 H) ∧ w'.cell? ⟨w2.heap.size, 2, none⟩ = some (.slice (some ⟨ga, 0, none⟩) n n) ∧ w'.cell? ⟨w2.heap.size + 1, 2, none⟩ = some (.slice (some ⟨gb, 0, none⟩) n cb) ∧ w'.cell? ⟨Bx, 0, none⟩ = some (.int .i64 (p.1.1 : Nat)) ∧ w'.cell? ⟨Bx, 1, none⟩ = some (.int .i64 (p.1.2 : Nat)) ∧ w'.cell? ⟨gb, jj, none⟩ = some (.int .i64 cj) ∧ w'.frozen? ⟨gb, jj, none⟩ = false ∧ SpW PP C w' := ⟨_, rfl⟩
          have hSof : ∀ Wx : World, SpW PP C Wx → S Wx := fun Wx h => by
            obtain ⟨e1, e2, e3, e4, e5, e6⟩ := HFACT.out C Wx h
            obtain ⟨e7, e8⟩ := HGB.out C Wx h HCL.out jj (by omega)
            rw [HCJ.out] at e7
            rw [hSdef]
            exact ⟨e1, e2, e3, e4, e5, e6, e7, e8, h⟩
          have HSOF := Lib.hid hSof
          clear hSof
          have hS : S Wa.drew := HSOF.out _ HSa.out.drew
          refine wpIn_region_heldI S hmix ?_
          change wpAnyHIn _ _ _ _ _ _ _ 11 _ _ Wa.drew
          refine wpAnyHIn_take (i := 0) (v := ?_) rfl (by kernel_rfl) (by kernel_rfl) (by kernel_rfl) (by kernel_rfl) (fun _ _ _ h => h) ⟨Or.inl ⟨by rfl, ?_⟩, fun _ => rfl⟩ hS ?_
          rotate_left 1
          · intro Wy hSy
            rw [hSdef] at hSy
            obtain ⟨s70, s71, s72, s82, sx0, sx1, sgb, sfb, sq⟩ := hSy
            go_simp
            try with_reducible rfl
          try simp only [Act.put, List.setIfInBounds_toArray, List.set_cons_zero, List.set_cons_succ]
          refine wpAnyHIn_take (i := 1) (v := ?_) rfl (by kernel_rfl) (by kernel_rfl) (by kernel_rfl) (by kernel_rfl) (fun _ _ _ h => h) ⟨Or.inl ⟨by rfl, ?_⟩, fun _ => rfl⟩ hS ?_
          rotate_left 1
          · intro Wy hSy
            rw [hSdef] at hSy
            obtain ⟨s70, s71, s72, s82, sx0, sx1, sgb, sfb, sq⟩ := hSy
            go_simp
            try with_reducible rfl
          try simp only [Act.put, List.setIfInBounds_toArray, List.set_cons_zero, List.set_cons_succ]
          refine wpAnyHIn_take (i := 2) (v := ?_) rfl (by kernel_rfl) (by kernel_rfl) (by kernel_rfl) (by kernel_rfl) (fun _ _ _ h => h) ⟨Or.inl ⟨by rfl, ?_⟩, fun _ => rfl⟩ hS ?_
          rotate_left 1
          · intro Wy hSy
            rw [hSdef] at hSy
            obtain ⟨s70, s71, s72, s82, sx0, sx1, sgb, sfb, sq⟩ := hSy
            go_simp
            try with_reducible rfl
          try simp only [Act.put, List.setIfInBounds_toArray, List.set_cons_zero, List.set_cons_succ]
          refine wpAnyHIn_take (i := 3) (v := ?_) rfl (by kernel_rfl) (by kernel_rfl) (by kernel_rfl) (by kernel_rfl) (fun _ _ _ h => h) ⟨Or.inl ⟨by rfl, ?_⟩, fun _ => rfl⟩ hS ?_
          rotate_left 1
          · intro Wy hSy
            rw [hSdef] at hSy
            obtain ⟨s70, s71, s72, s82, sx0, sx1, sgb, sfb, sq⟩ := hSy
            go_simp
            try with_reducible rfl
          try simp only [Act.put, List.setIfInBounds_toArray, List.set_cons_zero, List.set_cons_succ]
          refine wpAnyHIn_take (i := 7) (v := ?_) rfl (by kernel_rfl) (by kernel_rfl) (by kernel_rfl) (by kernel_rfl) (fun _ _ _ h => h) ⟨Or.inl ⟨by rfl, ?_⟩, fun _ => rfl⟩ hS ?_
          rotate_left 1
          · intro Wy hSy
            rw [hSdef] at hSy
            obtain ⟨s70, s71, s72, s82, sx0, sx1, sgb, sfb, sq⟩ := hSy
            go_simp
            try with_reducible rfl
          try simp only [Act.put, List.setIfInBounds_toArray, List.set_cons_zero, List.set_cons_succ]
          refine wpAnyHIn_one (i := 4) (by kernel_rfl) rfl (fun K hK => ?_)
          go_simp
          refine ⟨trivial, ?_⟩
          gi_at_call 152
          refine (CallsIn.inRound l (callsIn_wide.2 (KIX.out _))).mono ?_
          rintro e W2' ⟨rfl, hb2⟩
          have hS2' : SpW PP C W2' := (HSa.out.drew).below (by rw [HPP.out]; exact HS3) hb2
          have hQ2 : Hid (W2'.heap[wr.heap.size]? = some (.cells #[.int .i64 qx, .int .i64 qy] 124 (0, 0))) := Lib.hid ((hb2.block _ (lt_of_blk HQa.out)).trans HQa.out)
          have hS := HSOF.out _ hS2'
          try gi_wp2_with fail
          refine hK _ _ hS ?_
          clear hK K
          try simp only [Act.put, List.setIfInBounds_toArray, List.set_cons_zero, List.set_cons_succ]
          refine wpAnyHIn_take (i := 5) (v := ?_) rfl (by kernel_rfl) (by kernel_rfl) (by kernel_rfl) (by kernel_rfl) (fun _ _ _ h => h) ⟨Or.inl ⟨by rfl, ?_⟩, fun _ => rfl⟩ hS ?_
          rotate_left 1
          · intro Wy hSy
            rw [hSdef] at hSy
            obtain ⟨s70, s71, s72, s82, sx0, sx1, sgb, sfb, sq⟩ := hSy
            go_simp
            try with_reducible rfl
          try simp only [Act.put, List.setIfInBounds_toArray, List.set_cons_zero, List.set_cons_succ]
          refine wpAnyHIn_take (i := 6) (v := ?_) rfl (by kernel_rfl) (by kernel_rfl) (by kernel_rfl) (by kernel_rfl) (fun _ _ _ h => h) ⟨Or.inl ⟨by rfl, ?_⟩, fun _ => rfl⟩ hS ?_
          rotate_left 1
          · intro Wy hSy
            rw [hSdef] at hSy
            obtain ⟨s70, s71, s72, s82, sx0, sx1, sgb, sfb, sq⟩ := hSy
            go_simp
            try with_reducible rfl
          try simp only [Act.put, List.setIfInBounds_toArray, List.set_cons_zero, List.set_cons_succ]
          refine wpAnyHIn_take (i := 8) (v := ?_) rfl (by kernel_rfl) (by kernel_rfl) (by kernel_rfl) (by kernel_rfl) (fun _ _ _ h => h) ⟨Or.inl ⟨by rfl, ?_⟩, fun _ => rfl⟩ hS ?_
          rotate_left 1
          · intro Wy hSy
            rw [hSdef] at hSy
            obtain ⟨s70, s71, s72, s82, sx0, sx1, sgb, sfb, sq⟩ := hSy
            go_simp
            try with_reducible rfl
          try simp only [Act.put, List.setIfInBounds_toArray, List.set_cons_zero, List.set_cons_succ]
          refine wpAnyHIn_take (i := 9) (v := ?_) rfl (by kernel_rfl) (by kernel_rfl) (by kernel_rfl) (by kernel_rfl) (fun _ _ _ h => h) ⟨Or.inl ⟨by rfl, ?_⟩, fun _ => rfl⟩ hS ?_
          rotate_left 1
          · intro Wy hSy
            rw [hSdef] at hSy
            obtain ⟨s70, s71, s72, s82, sx0, sx1, sgb, sfb, sq⟩ := hSy
            go_simp
            try with_reducible rfl
          try simp only [Act.put, List.setIfInBounds_toArray, List.set_cons_zero, List.set_cons_succ]
          have hEF := hS
          rw [hSdef] at hEF
          obtain ⟨s70, s71, s72, s82, sx0, sx1, sgb, sfb, sq⟩ := hEF
          refine wpAnyHIn_end (i := 10) (by kernel_rfl) rfl (by kernel_rfl) (by kernel_rfl) (fun K hK => ?_)
          go_simp
          refine hK _ _ ?_
          clear hK K
          try simp only [Act.put, List.setIfInBounds_toArray, List.set_cons_zero, List.set_cons_succ]
          have hwr : IntKind.i64.wrap (cj - kj * share / 16) = C[jj]?.getD 0 + -gift := by rw [HGI.out, hsub, HCJ.out]; omega
          have hst := hS2'.store hap jj (C[jj]?.getD 0 + -gift)
          have hgbe : PP.gb = gb := by rw [HPP.out]
          rw [hgbe] at hst
          have hSc : SpW PP (addAt C jj (-gift)) (W2'.setCell ⟨gb, jj, none⟩ (.int .i64 (IntKind.i64.wrap (cj - kj * share / 16)))) := by rw [hwr]; exact hst
          have hQc : (W2'.setCell ⟨gb, jj, none⟩ (.int .i64 (IntKind.i64.wrap (cj - kj * share / 16)))).heap[wr.heap.size]? = some (.cells #[.int .i64 qx, .int .i64 qy] 124 (0, 0)) := blk_set_other hQ2.out (by
            have h1 := lt_of_blk HQa.out
            dsimp only
            have h2 : gb < w4.heap.size := hgbl
            have h3 := HWR.out
            omega) _
          obtain ⟨wc, hwc⟩ : ∃ wc, W2'.setCell ⟨gb, jj, none⟩ (.int .i64 (IntKind.i64.wrap (cj - kj * share / 16))) = wc := ⟨_, rfl⟩
          rw [hwc] at hSc hQc ⊢
          clear hwc hwr hst hgbe hS2' hQ2 hS hSdef HSOF s70 s71 s72 s82 sx0 sx1 sgb sfb sq q0a q1a q2a r2a hx0a hx1a hb2
          obtain ⟨C1, hC1⟩ : ∃ C1, addAt C jj (-gift) = C1 := ⟨_, rfl⟩
          have hC1len : C1.length = n := by rw [← hC1]; simp only [addAt, List.length_set]; exact HCL.out
          have hC1bd : Within C1 1073745921 := by rw [← hC1]; exact (HCB.out.add jj (-gift) (G := 4097) (by omega))
          obtain ⟨iq, hiq⟩ : ∃ iq, idx W (qx, qy) = iq := ⟨_, rfl⟩
          have e2 : qy * (W : Int) + qx = (iq : Int) := by
            rw [← hiq]; unfold idx
            have : 0 ≤ qy * (W : Int) := Int.mul_nonneg hqin.2.2.1 (by omega)
            have := hqin.1
            dsimp only
            omega
          have hiqn : iq < n := by
            have h1 : qy.toNat * W + qx.toNat < n := idx_lt (p := (qx.toNat, qy.toNat)) (W := W) (H := H) (n := n) (by have := hqin; dsimp only; omega) (by have := hqin; dsimp only; omega) HN.out
            have h2 : ((qy.toNat * W + qx.toNat : Nat) : Int) = (iq : Int) := by
              push_cast
              rw [Int.toNat_of_nonneg hqin.2.2.1, Int.toNat_of_nonneg hqin.1]
              exact e2
            omega
          have hin : (iq : Int) < (n : Int) := by omega
          have hi0 : (0 : Int) ≤ (iq : Int) := by omega
          obtain ⟨cv, hcv⟩ : ∃ cv : Int, C1[iq]?.getD 0 = cv := ⟨_, rfl⟩
          have hcv2 : -1073745921 ≤ cv ∧ cv ≤ 1073745921 := by have := hC1bd iq; rw [hcv] at this; omega
          have hadd : IntKind.i64.wrap (cv + gift) = cv + gift := IntWalk.i64_in _ ⟨by omega, by omega⟩
          have KIQ : Hid (∀ Wx : World, Calls Tryz.prog 152 #[.agg #[.int .i64 W, .int .i64 H, .slice (some ⟨ga, 0, none⟩) n n], .agg #[.int .i64 qx, .int .i64 qy]] Wx fun e w' => e = .returned (.int .i64 (iq : Nat)) ∧ Below Wx.heap.size Wx w') := Lib.hid (fun Wx => by
            have h := index_any W H qx qy (some ⟨ga, 0, none⟩) n n (by omega) (by have := hqin; omega) (by have := hqin; omega) ⟨Int.mul_nonneg hqin.2.2.1 (by omega), by have := hqin.1; omega⟩ Wx
            rw [e2] at h
            exact h)
          have HC1 := Lib.hid hC1
          have HCL1 := Lib.hid hC1len
          have HCV := Lib.hid hcv
          have HIQ := Lib.hid hiq
          rw [hC1] at hSc
          clear hC1 hC1len hC1bd hcv hiq e2
          gi_upto_region 14 with fail
          obtain ⟨S, hSdef⟩ : ∃ S : World → Prop, S = fun w' => w'.cell? ⟨w2.heap.size, 0, none⟩ = some (.int .i64 W) ∧ w'.cell? ⟨w2.heap.size, 1, none⟩ = some (.int .i64 H) ∧ w'.cell? ⟨w2.heap.size, 2, none⟩ = some (.slice (some ⟨ga, 0, none⟩) n n) ∧ w'.cell? ⟨w2.heap.size + 1, 2, none⟩ = some (.slice (some ⟨gb, 0, none⟩) n cb) ∧ w'.cell? ⟨wr.heap.size, 0, none⟩ = some (.int .i64 qx) ∧ w'.cell? ⟨wr.heap.size, 1, none⟩ = some (.int .i64 qy) ∧ w'.cell? ⟨gb, iq, none⟩ = some (.int .i64 cv) ∧ w'.frozen? ⟨gb, iq, none⟩ = false ∧ SpW PP C1 w' ∧ w'.heap[wr.heap.size]? = some (.cells #[.int .i64 qx, .int .i64 qy] 124 (0, 0)) := ⟨_, rfl⟩
          have hSof : ∀ Wx : World, SpW PP C1 Wx → Wx.heap[wr.heap.size]? = some (.cells #[.int .i64 qx, .int .i64 qy] 124 (0, 0)) → S Wx := fun Wx h hq => by
            obtain ⟨e1, e2, e3, e4, e5, e6⟩ := HFACT.out C1 Wx h
            obtain ⟨e7, e8⟩ := HGB.out C1 Wx h HCL1.out iq hiqn
            rw [HCV.out] at e7
            rw [hSdef]
            exact ⟨e1, e2, e3, e4, by rw [cell_of_row Wx wr.heap.size 0 _ _ (0, 0) hq]; rfl, by rw [cell_of_row Wx wr.heap.size 1 _ _ (0, 0) hq]; rfl, e7, e8, h, hq⟩
          have HSOF := Lib.hid hSof
          clear hSof
          have hS : S wc.drew := HSOF.out _ hSc.drew hQc
          refine wpIn_region_heldI S hmix ?_
          change wpAnyHIn _ _ _ _ _ _ _ 11 _ _ wc.drew
          refine wpAnyHIn_take (i := 0) (v := ?_) rfl (by kernel_rfl) (by kernel_rfl) (by kernel_rfl) (by kernel_rfl) (fun _ _ _ h => h) ⟨Or.inl ⟨by rfl, ?_⟩, fun _ => rfl⟩ hS ?_
          rotate_left 1
          · intro Wy hSy
            rw [hSdef] at hSy
            obtain ⟨s70, s71, s72, s82, sx0, sx1, sgb, sfb, sq, sk⟩ := hSy
            go_simp
            try with_reducible rfl
          try simp only [Act.put, List.setIfInBounds_toArray, List.set_cons_zero, List.set_cons_succ]
          refine wpAnyHIn_take (i := 1) (v := ?_) rfl (by kernel_rfl) (by kernel_rfl) (by kernel_rfl) (by kernel_rfl) (fun _ _ _ h => h) ⟨Or.inl ⟨by rfl, ?_⟩, fun _ => rfl⟩ hS ?_
          rotate_left 1
          · intro Wy hSy
            rw [hSdef] at hSy
            obtain ⟨s70, s71, s72, s82, sx0, sx1, sgb, sfb, sq, sk⟩ := hSy
            go_simp
            try with_reducible rfl
          try simp only [Act.put, List.setIfInBounds_toArray, List.set_cons_zero, List.set_cons_succ]
          refine wpAnyHIn_take (i := 2) (v := ?_) rfl (by kernel_rfl) (by kernel_rfl) (by kernel_rfl) (by kernel_rfl) (fun _ _ _ h => h) ⟨Or.inl ⟨by rfl, ?_⟩, fun _ => rfl⟩ hS ?_
          rotate_left 1
          · intro Wy hSy
            rw [hSdef] at hSy
            obtain ⟨s70, s71, s72, s82, sx0, sx1, sgb, sfb, sq, sk⟩ := hSy
            go_simp
            try with_reducible rfl
          try simp only [Act.put, List.setIfInBounds_toArray, List.set_cons_zero, List.set_cons_succ]
          refine wpAnyHIn_take (i := 3) (v := ?_) rfl (by kernel_rfl) (by kernel_rfl) (by kernel_rfl) (by kernel_rfl) (fun _ _ _ h => h) ⟨Or.inl ⟨by rfl, ?_⟩, fun _ => rfl⟩ hS ?_
          rotate_left 1
          · intro Wy hSy
            rw [hSdef] at hSy
            obtain ⟨s70, s71, s72, s82, sx0, sx1, sgb, sfb, sq, sk⟩ := hSy
            go_simp
            try with_reducible rfl
          try simp only [Act.put, List.setIfInBounds_toArray, List.set_cons_zero, List.set_cons_succ]
          refine wpAnyHIn_take (i := 7) (v := ?_) rfl (by kernel_rfl) (by kernel_rfl) (by kernel_rfl) (by kernel_rfl) (fun _ _ _ h => h) ⟨Or.inl ⟨by rfl, ?_⟩, fun _ => rfl⟩ hS ?_
          rotate_left 1
          · intro Wy hSy
            rw [hSdef] at hSy
            obtain ⟨s70, s71, s72, s82, sx0, sx1, sgb, sfb, sq, sk⟩ := hSy
            go_simp
            try with_reducible rfl
          try simp only [Act.put, List.setIfInBounds_toArray, List.set_cons_zero, List.set_cons_succ]
          refine wpAnyHIn_one (i := 4) (by kernel_rfl) rfl (fun K hK => ?_)
          go_simp
          refine ⟨trivial, ?_⟩
          gi_at_call 152
          refine (CallsIn.inRound l (callsIn_wide.2 (KIQ.out _))).mono ?_
          rintro e W2' ⟨rfl, hb2⟩
          have hS2' : SpW PP C1 W2' := (hSc.drew).below (by rw [HPP.out]; exact HS3) hb2
          have hQ2 : W2'.heap[wr.heap.size]? = some (.cells #[.int .i64 qx, .int .i64 qy] 124 (0, 0)) := (hb2.block _ (lt_of_blk hQc)).trans hQc
          have hS := HSOF.out _ hS2' hQ2
          clear hQ2
          try gi_wp2_with fail
          refine hK _ _ hS ?_
          clear hK K
          try simp only [Act.put, List.setIfInBounds_toArray, List.set_cons_zero, List.set_cons_succ]
          refine wpAnyHIn_take (i := 5) (v := ?_) rfl (by kernel_rfl) (by kernel_rfl) (by kernel_rfl) (by kernel_rfl) (fun _ _ _ h => h) ⟨Or.inl ⟨by rfl, ?_⟩, fun _ => rfl⟩ hS ?_
          rotate_left 1
          · intro Wy hSy
            rw [hSdef] at hSy
            obtain ⟨s70, s71, s72, s82, sx0, sx1, sgb, sfb, sq, sk⟩ := hSy
            go_simp
            try with_reducible rfl
          try simp only [Act.put, List.setIfInBounds_toArray, List.set_cons_zero, List.set_cons_succ]
          refine wpAnyHIn_take (i := 6) (v := ?_) rfl (by kernel_rfl) (by kernel_rfl) (by kernel_rfl) (by kernel_rfl) (fun _ _ _ h => h) ⟨Or.inl ⟨by rfl, ?_⟩, fun _ => rfl⟩ hS ?_
          rotate_left 1
          · intro Wy hSy
            rw [hSdef] at hSy
            obtain ⟨s70, s71, s72, s82, sx0, sx1, sgb, sfb, sq, sk⟩ := hSy
            go_simp
            try with_reducible rfl
          try simp only [Act.put, List.setIfInBounds_toArray, List.set_cons_zero, List.set_cons_succ]
          refine wpAnyHIn_take (i := 8) (v := ?_) rfl (by kernel_rfl) (by kernel_rfl) (by kernel_rfl) (by kernel_rfl) (fun _ _ _ h => h) ⟨Or.inl ⟨by rfl, ?_⟩, fun _ => rfl⟩ hS ?_
          rotate_left 1
          · intro Wy hSy
            rw [hSdef] at hSy
            obtain ⟨s70, s71, s72, s82, sx0, sx1, sgb, sfb, sq, sk⟩ := hSy
            go_simp
            try with_reducible rfl
          try simp only [Act.put, List.setIfInBounds_toArray, List.set_cons_zero, List.set_cons_succ]
          refine wpAnyHIn_take (i := 9) (v := ?_) rfl (by kernel_rfl) (by kernel_rfl) (by kernel_rfl) (by kernel_rfl) (fun _ _ _ h => h) ⟨Or.inl ⟨by rfl, ?_⟩, fun _ => rfl⟩ hS ?_
          rotate_left 1
          · intro Wy hSy
            rw [hSdef] at hSy
            obtain ⟨s70, s71, s72, s82, sx0, sx1, sgb, sfb, sq, sk⟩ := hSy
            go_simp
            try with_reducible rfl
          try simp only [Act.put, List.setIfInBounds_toArray, List.set_cons_zero, List.set_cons_succ]
          have hEF := hS
          rw [hSdef] at hEF
          obtain ⟨s70, s71, s72, s82, sx0, sx1, sgb, sfb, sq, sk⟩ := hEF
          refine wpAnyHIn_end (i := 10) (by kernel_rfl) rfl (by kernel_rfl) (by kernel_rfl) (fun K hK => ?_)
          go_simp
          refine hK _ _ ?_
          clear hK K
          try simp only [Act.put, List.setIfInBounds_toArray, List.set_cons_zero, List.set_cons_succ]
          gi_wp2
          go_roundw
          case rel =>
            refine ⟨k + 1, by omega, by go_num, ?_⟩
            have e1 : giveTo W (p.1.2 * W + p.1.1) (kj * share / 16) (L.take (k + 1)) (roundsTo W H share ks (pre.map Subtype.val)) = addAt C1 iq gift := by
              rw [HSQ.out, giveTo, List.foldl_append]
              show give1 W (p.1.2 * W + p.1.1) (kj * share / 16) (giveTo W (p.1.2 * W + p.1.1) (kj * share / 16) (L.take k) (roundsTo W H share ks (pre.map Subtype.val))) (qx, qy) = _
              rw [HCE.out, give1, HGI.out, HJJ.out, HC1.out, HIQ.out]
            rw [e1]
            have hwr : cv + kj * share / 16 = C1[iq]?.getD 0 + gift := by rw [HGI.out, HCV.out]
            rw [hwr]
            have hst := hS2'.store hap iq (C1[iq]?.getD 0 + gift)
            have hgbe : PP.gb = gb := by rw [HPP.out]
            rw [hgbe] at hst
            exact hst
          case measure => simp [intOf]; omega
        · obtain rfl : k = L.length := by omega
          gi_wp2
          rw [List.take_length] at hSP
          rw [HPP.out] at hSP
          refine ⟨hSP.keeps.from _, fun _ => Boxed.cell hSP.bw, ⟨?_, hSP.bw, hSP.b7, hSP.b8, hSP.ba⟩, hSP.bel⟩
          have e1 : roundsTo W H share ks ((pre ++ [p]).map Subtype.val) = giveTo W (p.1.2 * W + p.1.1) (kj * share / 16) L (roundsTo W H share ks (pre.map Subtype.val)) := by
            rw [List.map_append, List.map_cons, List.map_nil, roundsTo_snoc, round1, HKJ.out, HL.out]
          rw [e1]
          exact hSP.own
  case done =>
    rintro D ys W1 hD hys ⟨⟨hrow, bW1, b7, b8, ba⟩, hB1⟩ hK
    rw [hys] at hrow
    have hsz1 := hB1.size
    have hlgb := (hrow.lt gb rfl).2
    obtain ⟨r0, r1, r2⟩ := GridAt.of_blk b8
    obtain ⟨R, hR⟩ : ∃ R, roundsTo W H share ks (placesTo W (H * W)) = R := ⟨_, rfl⟩
    have hRl : R.length = n := by rw [← hR, roundsTo_len]; exact HRA.out.lenk
    rw [hR] at hrow
    have T := Lib.hid (toMap_any W H gb 0 n cb R hRl HRA.out.small W1 hlgb (fun j hj => by
        rw [Nat.zero_add]
        refine owns_cell hrow ?_
        rw [List.getElem?_map, List.getElem?_eq_getElem (by omega)]; rfl)
      (fun j hj => by rw [← hR]; exact HSUM.out j))
    have bM1 := (hB1.block (w.heap.size + 1 + 1) (by omega)).trans zM
    have m0 : W1.cell? ⟨w.heap.size + 1 + 1, 0, none⟩ = some (.int .i64 0) := by rw [cell_of_row W1 (w.heap.size + 1 + 1) 0 _ _ (0, 0) bM1]; rfl
    have m1 : W1.cell? ⟨w.heap.size + 1 + 1, 1, none⟩ = some (.int .i64 0) := by rw [cell_of_row W1 (w.heap.size + 1 + 1) 1 _ _ (0, 0) bM1]; rfl
    have m2 : W1.cell? ⟨w.heap.size + 1 + 1, 2, none⟩ = some (.slice none 0 0) := by rw [cell_of_row W1 (w.heap.size + 1 + 1) 2 _ _ (0, 0) bM1]; rfl
    have fm : ∀ j, W1.frozen? ⟨w.heap.size + 1 + 1, j, none⟩ = false := fun j => by simp [World.frozen?, bM1]
    have lM := lt_of_blk bM1
    have HRE := Lib.hid hR
    have HRL := Lib.hid hRl
    have HM1 := Lib.hid bM1
    have hro : Fence.wide.round = none := rfl
    clear hR hRl hrow bM1 ba b7 b8
    dsimp only
    go_wp2_with ((go_at_call 153; refine T.out.mono ?_; rintro e w9 ⟨rfl, hown9, hb9⟩
                  have s0 : w9.cell? ⟨w.heap.size + 1 + 1, 0, none⟩ = some (.int .i64 0) := (hb9.cell lM).trans m0
                  have s1 : w9.cell? ⟨w.heap.size + 1 + 1, 1, none⟩ = some (.int .i64 0) := (hb9.cell lM).trans m1
                  have s2 : w9.cell? ⟨w.heap.size + 1 + 1, 2, none⟩ = some (.slice none 0 0) := (hb9.cell lM).trans m2
                  have f0 : w9.frozen? ⟨w.heap.size + 1 + 1, 0, none⟩ = false := (hb9.frozen lM).trans (fm 0)
                  have f1 : w9.frozen? ⟨w.heap.size + 1 + 1, 1, none⟩ = false := (hb9.frozen lM).trans (fm 1)
                  have f2 : w9.frozen? ⟨w.heap.size + 1 + 1, 2, none⟩ = false := (hb9.frozen lM).trans (fm 2)))
    have rM2 := (hb9.block _ lM).trans HM1.out
    obtain ⟨WF, hWF⟩ : ∃ WF, ((w9.setCell ⟨w.heap.size + 1 + 1, 0, none⟩ (.int .i64 W)).setCell ⟨w.heap.size + 1 + 1, 1, none⟩ (.int .i64 H)).setCell ⟨w.heap.size + 1 + 1, 2, none⟩ (.slice (some ⟨W1.heap.size + 2, 0, none⟩) n n) = WF := ⟨_, rfl⟩
    have rF : WF.heap[w.heap.size + 1 + 1]? = some (.cells #[.int .i64 W, .int .i64 H, .slice (some ⟨W1.heap.size + 2, 0, none⟩) n n] 121 (0, 0)) := by
      rw [← hWF]; exact blk_set3 rM2 _ _ _
    have kF : WF.heap[D]? = some (.deferred (some [])) := by
      rw [← hWF]
      exact ((((KeepsOthers.of_below hb9).trans (KeepsOthers.setCell _ _ _)).trans (KeepsOthers.setCell _ _ _)).trans (KeepsOthers.setCell _ _ _)).same D _ hK rfl
    have oF : WF.ownsRow w.heap.size 119 1 (.slice (some ⟨W1.heap.size + 2, 0, none⟩) n n) n (R.map (fun n : Int => Value.float .f32 (smpOf n))) := by
      rw [← hWF]
      exact owns_base (ownsRow_setCell_below (ownsRow_setCell_below (ownsRow_setCell_below hown9 (by show w.heap.size + 1 + 1 < _; omega) _) (by show w.heap.size + 1 + 1 < _; omega) _) (by show w.heap.size + 1 + 1 < _; omega) _) (by omega)
    have bF9 : Below w.heap.size w WF := by
      rw [← hWF]
      exact ((((HB0.out.trans (hB1.mono (by omega))).trans (hb9.mono (by omega))).setCell (p := ⟨w.heap.size + 1 + 1, 0, none⟩) (by show w.heap.size ≤ w.heap.size + 1 + 1; omega) _).setCell (p := ⟨w.heap.size + 1 + 1, 1, none⟩) (by show w.heap.size ≤ w.heap.size + 1 + 1; omega) _).setCell (p := ⟨w.heap.size + 1 + 1, 2, none⟩) (by show w.heap.size ≤ w.heap.size + 1 + 1; omega) _
    have nD : w.heap.size + 1 + 1 ≠ D := fun e => by rw [← e, rF] at kF; cases kF
    have oP := ownsRow_putObj oF (.deferred none) kF rfl
    try rw [hWF]
    refine ⟨by simp, .inl ⟨_, _, rfl, run_takeDeferred kF, ?_⟩⟩
    refine ⟨_, results_row_tmp Tryz.results69 _ _ (w.heap.size + 1 + 1) 121 _ (0, 0) _ rfl ((World.putObj_heap_other nD).trans rF) Tryz.underlying121 rfl (by kernel_rfl), _, rfl, (oP.lt _ rfl).2, fun j hj => ?_, bF9.trans (belowK_b (w := w) (Nat.le_refl _) WF D _ _ (by omega) kF rfl rfl)⟩
    refine owns_cell oP ?_
    rw [HRE.out, List.getElem?_map, List.getElem?_eq_getElem (by rw [HRL.out]; exact hj)]; rfl
  case stop =>
    rintro D c pre W1 _ _ h _
    exact h.elim
end Go.Proofs.YtpmjiifdnnhecaaGreatDoor
