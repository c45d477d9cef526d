/-
  Contract of the reference's Added of two right maps: the sums, or an error.
-/
import Derived.Test.YtfdkmmllemkogaaGreatDoorOBx
import Derived.Test.YtfdkmmllemkogaaGreatDoorOWk
namespace Go.Proofs.YtfdkmmllemkogaaGreatDoor
open Go.RowKit
set_option linter.unusedVariables false
set_option linter.unusedSimpArgs false

theorem sameSize_no (W H W' H' : Int) (hne : ¬ (W = W' ∧ H = H')) (a a' : Option Addr) (n c n' c' : Nat) (w : World) :
    Calls Tryz.prog 142 #[.agg #[.int .i64 W, .int .i64 H, .slice a n c], .agg #[.int .i64 W', .int .i64 H', .slice a' n' c']] w fun e w' => e = .returned (.bool false) ∧ Below w.heap.size w w' := by
  by_cases h : W = W'
  · subst h
    have h1 : (W == W) = true := by simp
    have h2 : (H == H') = false := by
      simp only [beq_eq_false_iff_ne]; exact fun h => hne ⟨rfl, h⟩
    clear hne
    go_enter Tryz.func142, Tryz.ntmps142
    go_wp2
    go_ret
    exact ⟨rfl, (((Below.refl _ _).alloc (Nat.le_refl _) _).alloc (by simp) _)⟩
  · have h1 : (W == W') = false := by simp [h]
    clear hne
    go_enter Tryz.func142, Tryz.ntmps142
    go_wp2
    go_ret
    exact ⟨rfl, (((Below.refl _ _).alloc (Nat.le_refl _) _).alloc (by simp) _)⟩

/-- The first k sums, and what is left. -/
def mixA (n : Nat) (ks js : List Int) (k : Nat) : List Int := (List.range n).map (fun j => if j < k then ks[j]?.getD 0 + js[j]?.getD 0 else ks[j]?.getD 0)
theorem mixA_zero {n : Nat} {ks js : List Int} (h : ks.length = n) : mixA n ks js 0 = ks := by
  apply List.ext_getElem
  · simp [mixA, h]
  · intro i h1 h2
    simp [mixA, List.getElem?_eq_getElem h2]
theorem mixA_all (n : Nat) (ks js : List Int) : mixA n ks js n = addL n ks js := by
  unfold mixA addL
  refine List.map_congr_left (fun j hj => ?_)
  rw [if_pos (List.mem_range.1 hj)]
theorem mixA_len (n : Nat) (ks js : List Int) (k : Nat) : (mixA n ks js k).length = n := by simp [mixA]
theorem mixA_at (n : Nat) (ks js : List Int) (k : Nat) (hk : k < n) : (mixA n ks js k)[k]? = some (ks[k]?.getD 0) := by
  unfold mixA
  rw [List.getElem?_map, List.getElem?_range hk]
  simp
theorem mixA_succ (n : Nat) (ks js : List Int) (k : Nat) (hk : k < n) : ((mixA n ks js k).map (Value.int .i64)).set k (.int .i64 (ks[k]?.getD 0 + js[k]?.getD 0)) = (mixA n ks js (k + 1)).map (Value.int .i64) := by
  apply List.ext_getElem
  · simp [mixA]
  · intro i h1 h2
    have hi : i < n := by simpa [mixA] using h2
    rw [List.getElem_set]
    by_cases h : k = i
    · subst h
      simp [mixA]
    · rw [if_neg h]
      simp only [mixA, List.getElem_map, List.getElem_range]
      by_cases h3 : i < k
      · rw [if_pos h3, if_pos (by omega)]
      · rw [if_neg h3, if_neg (by omega)]

set_option maxRecDepth 100000 in
set_option maxHeartbeats 6400000 in
theorem refAdded_ok (W H : Nat) (b o c b' o' c' n : Nat) (xs ys : List Nat) (ks js : List Int) (w : World) (hA : RightMap w W H b o n xs ks) (hB : RightMap w W H b' o' n ys js) (hb : b < w.heap.size) (hb' : b' < w.heap.size) :
    Calls Tryz.prog 61 #[.agg #[.int .i64 W, .int .i64 H, .slice (some ⟨b, o, none⟩) n c], .agg #[.int .i64 W, .int .i64 H, .slice (some ⟨b', o', none⟩) n c']] w fun e w' =>
      ∃ X Y a2 n2 c2, e = .returned (.tuple #[.agg #[.int .i64 X, .int .i64 Y, .slice a2 n2 c2], .int .i64 (largeErr n (addL n ks js))]) ∧ ResV w' (largeErr n (addL n ks js)) W H (addL n ks js) X Y a2 n2 c2 ∧ Below w.heap.size w w' := by
  have hW : 1 ≤ W ∧ W ≤ 64 := by have := hA.wid; omega
  have hH : 1 ≤ H ∧ H ≤ 64 := by have := hA.hei; omega
  have hN : W * H = n := by have := hA.area; exact_mod_cast this
  have hn1 : 1 ≤ n := by rw [← hN]; exact Nat.mul_pos (by omega) (by omega)
  have hsm : n ≤ 4096 := hA.small
  obtain ⟨W0, hW0⟩ : ∃ W0, ((w.alloc (.cells #[.int .i64 W, .int .i64 H, .slice (some ⟨b, o, none⟩) n c] 48)).alloc (.cells #[.int .i64 W, .int .i64 H, .slice (some ⟨b', o', none⟩) n c'] 48)).alloc (.cells #[.int .i64 0, .int .i64 0, .slice none 0 0] 48) = W0 := ⟨_, rfl⟩
  have hB0 : Below w.heap.size w W0 := by rw [← hW0]; exact (((Below.refl _ w).alloc (Nat.le_refl _) _).alloc (by simp) _).alloc (by simp; omega) _
  have hS0 : W0.heap.size = w.heap.size + 3 := by rw [← hW0]; simp
  have a0 : W0.cell? ⟨w.heap.size, 0, none⟩ = some (.int .i64 W) := by rw [← hW0]; simp [go_sem]
  have a1 : W0.cell? ⟨w.heap.size, 1, none⟩ = some (.int .i64 H) := by rw [← hW0]; simp [go_sem]
  have a2 : W0.cell? ⟨w.heap.size, 2, none⟩ = some (.slice (some ⟨b, o, none⟩) n c) := by rw [← hW0]; simp [go_sem]
  have c0 : W0.cell? ⟨w.heap.size + 1, 0, none⟩ = some (.int .i64 W) := by rw [← hW0]; simp [go_sem]
  have c1 : W0.cell? ⟨w.heap.size + 1, 1, none⟩ = some (.int .i64 H) := by rw [← hW0]; simp [go_sem]
  have c2 : W0.cell? ⟨w.heap.size + 1, 2, none⟩ = some (.slice (some ⟨b', o', none⟩) n c') := by rw [← hW0]; simp [go_sem]
  have bz0 : W0.heap[w.heap.size + 1 + 1]? = some (.cells #[.int .i64 0, .int .i64 0, .slice none 0 0] 48 (0, 0)) := by rw [← hW0]; have h := blk_alloc_new ((w.alloc (.cells #[.int .i64 W, .int .i64 H, .slice (some ⟨b, o, none⟩) n c] 48)).alloc (.cells #[.int .i64 W, .int .i64 H, .slice (some ⟨b', o', none⟩) n c'] 48)) (.cells #[.int .i64 0, .int .i64 0, .slice none 0 0] 48); simpa using h
  have KS : Hid (Calls Tryz.prog 142 #[.agg #[.int .i64 W, .int .i64 H, .slice (some ⟨b, o, none⟩) n c], .agg #[.int .i64 W, .int .i64 H, .slice (some ⟨b', o', none⟩) n c']] W0 fun e w' => e = .returned (.bool true) ∧ Below W0.heap.size W0 w') := Lib.hid (sameSize_any W H _ _ n c n c' W0)
  have KA : Hid (∀ w1 : World, Blw (w.heap.size + 3) W0 w1 → Calls Tryz.prog 143 #[.agg #[.int .i64 W, .int .i64 H, .slice (some ⟨b, o, none⟩) n c]] w1 fun e w' =>
      ∃ v, e = .returned v ∧ w'.ownsRow w1.heap.size 3 1 v n (ks.map (Value.int .i64)) ∧ Blw w1.heap.size w1 w' ∧ Below (w.heap.size + 3) W0 w') := Lib.hid fun w1 (h : Below (w.heap.size + 3) W0 w1) => by
    have h1 := h.size
    have h2 := hB0.trans (h.mono (by omega))
    exact (levels_any W H b o n c xs ks (hA.below h2 hb).toWords hn1 (by omega)).mono fun e w' ⟨v, he, ho, hw⟩ => ⟨v, he, ho, hw, h.trans (hw.mono (by omega))⟩
  have KB : Hid (∀ w1 : World, Blw (w.heap.size + 3) W0 w1 → Calls Tryz.prog 143 #[.agg #[.int .i64 W, .int .i64 H, .slice (some ⟨b', o', none⟩) n c']] w1 fun e w' =>
      ∃ v, e = .returned v ∧ w'.ownsRow w1.heap.size 3 1 v n (js.map (Value.int .i64)) ∧ Blw w1.heap.size w1 w' ∧ Below (w.heap.size + 3) W0 w') := Lib.hid fun w1 (h : Below (w.heap.size + 3) W0 w1) => by
    have h1 := h.size
    have h2 := hB0.trans (h.mono (by omega))
    exact (levels_any W H b' o' n c' ys js (hB.below h2 hb').toWords hn1 (by omega)).mono fun e w' ⟨v, he, ho, hw⟩ => ⟨v, he, ho, hw, h.trans (hw.mono (by omega))⟩
  have HSA := Lib.hid hA.sizes
  have HSB := Lib.hid hB.sizes
  have HLA := Lib.hid hA.lenk
  have HLB := Lib.hid hB.lenk
  have HB0 := Lib.hid hB0
  have HS0 := Lib.hid hS0
  have HZB := Lib.hid bz0
  have HN := Lib.hid hN
  clear hA hB hB0 bz0 hN
  go_enter Tryz.func61, Tryz.ntmps61
  go_upto_region 1 with fail
  try rw [hW0]
  clear hW0
  go_upto_region 3 with (go_at_call 142; refine KS.out.mono ?_; rintro e w1 ⟨rfl, hb1⟩)
  have hz1 := hb1.size
  have a0' := (hb1.cell (p := ⟨w.heap.size, 0, none⟩) (by show w.heap.size < _; omega)).trans a0
  have a1' := (hb1.cell (p := ⟨w.heap.size, 1, none⟩) (by show w.heap.size < _; omega)).trans a1
  have a2' := (hb1.cell (p := ⟨w.heap.size, 2, none⟩) (by show w.heap.size < _; omega)).trans a2
  have c0' := (hb1.cell (p := ⟨w.heap.size + 1, 0, none⟩) (by show w.heap.size + 1 < _; omega)).trans c0
  have c1' := (hb1.cell (p := ⟨w.heap.size + 1, 1, none⟩) (by show w.heap.size + 1 < _; omega)).trans c1
  have c2' := (hb1.cell (p := ⟨w.heap.size + 1, 2, none⟩) (by show w.heap.size + 1 < _; omega)).trans c2
  have hb0 : Below (w.heap.size + 3) W0 w1 := hb1.mono (by omega)
  clear hb1
  go_cut [6, 7] (fun s6 s7 wr => ∃ ga ca gb cb, s6 = .slice (some ⟨ga, 0, none⟩) n ca ∧ s7 = .slice (some ⟨gb, 0, none⟩) n cb ∧ ga ≠ gb ∧ wr.ownsRow (w.heap.size + 3) 3 1 (.slice (some ⟨ga, 0, none⟩) n ca) n (ks.map (Value.int .i64)) ∧ wr.ownsRow (w.heap.size + 3) 3 1 (.slice (some ⟨gb, 0, none⟩) n cb) n (js.map (Value.int .i64)) ∧ Below (w.heap.size + 3) W0 wr)
  case first =>
    have hR : Blw (w.heap.size + 3) W0 w1.drew := show Below _ _ _ from hb0.drew
    have HR0 : Blw (w.heap.size + 3) W0 w1 := hb0
    go_region_held3 (fun w' => w'.cell? ⟨w.heap.size, 0, none⟩ = some (.int .i64 W) ∧ w'.cell? ⟨w.heap.size, 1, none⟩ = some (.int .i64 H) ∧ w'.cell? ⟨w.heap.size, 2, none⟩ = some (.slice (some ⟨b, o, none⟩) n c) ∧
      w'.cell? ⟨w.heap.size + 1, 0, none⟩ = some (.int .i64 W) ∧ w'.cell? ⟨w.heap.size + 1, 1, none⟩ = some (.int .i64 H) ∧ w'.cell? ⟨w.heap.size + 1, 2, none⟩ = some (.slice (some ⟨b', o', none⟩) n c') ∧ Blw (w.heap.size + 3) W0 w')
      (first
        | (go_split_ands; refine ⟨?_, ?_, ?_, ?_, ?_, ?_, ?_⟩ <;> first | assumption | exact hb2 | ((rw [hb2.cell (by simp; try omega)]; assumption)))
        | go_keep)
      (first
        | (go_at_call_of 143 (Value.agg #[.int .i64 W, .int .i64 H, .slice (some ⟨b, o, none⟩) n c]); refine (KA.out _ ?_).mono ?_; rotate_left 1; rintro e wA ⟨vA, rfl, hoA, hbA, hb2⟩; rotate_left 1; (simp [*]))
        | (go_at_call_of 143 (Value.agg #[.int .i64 W, .int .i64 H, .slice (some ⟨b', o', none⟩) n c']); refine (KB.out _ ?_).mono ?_; rotate_left 1; rintro e wB ⟨vB, rfl, hoB, hbB, hb2⟩; rotate_left 1; (simp [*])))
    all_goals go_wp2_with fail
    all_goals go_meet
    all_goals
      obtain ⟨ga, ca, rfl, hga1, hga2⟩ := owns_someB hoA hn1
      obtain ⟨gb, cb, rfl, hgb1, hgb2⟩ := owns_someB hoB hn1
      have hsA := (hbA : Below _ _ _).size
      have hz3 := hS0
      have hd : w1.drew.heap.size = w1.heap.size := rfl
      exact ⟨ga, ca, gb, cb, rfl, rfl, by omega, owns_base (owns_kept hoA (hbB : Below _ _ _) (Nat.le_refl _)) (by omega), owns_base hoB (by omega), hb2⟩
  case rest =>
    obtain ⟨ga, ca, gb, cb, rfl, rfl, hne, hoA, hoB, hbw⟩ := hcut
    have HOB := Lib.hid hoB
    rw [← mixA_zero HLA.out (js := js)] at hoA
    have HOA := Lib.hid hoA
    have HBW := Lib.hid hbw
    have HNE := Lib.hid hne
    clear hoA hoB hbw hne
    go_wp2_with fail
    go_loopw [8] (fun i wr => ∃ k : Nat, k ≤ n ∧ i = .int .i64 k ∧ wr.ownsRow (w.heap.size + 3) 3 1 (.slice (some ⟨ga, 0, none⟩) n ca) n ((mixA n ks js k).map (Value.int .i64)) ∧ wr.ownsRow (w.heap.size + 3) 3 1 (.slice (some ⟨gb, 0, none⟩) n cb) n (js.map (Value.int .i64)) ∧ Below (w.heap.size + 3) W0 wr)
      (fun i _ => n - (intOf i).toNat)
    case atStart => exact ⟨0, Nat.zero_le _, rfl, HOA.out, HOB.out, HBW.out⟩
    case round =>
      obtain ⟨k, hk, rfl, hoA, hoB, hbr⟩ := hrel
      by_cases hlt : k < n
      · have hne := HNE.out
        have x1 : wr.cell? ⟨ga, k, none⟩ = some (.int .i64 (ks[k]?.getD 0)) := owns_cell hoA (by rw [List.getElem?_map, mixA_at n ks js k hlt]; rfl)
        have x2 : wr.cell? ⟨gb, k, none⟩ = some (.int .i64 (js[k]?.getD 0)) := owns_cell hoB (by rw [List.getElem?_map, List.getElem?_eq_getElem (by have := HLB.out; omega)]; rfl)
        have x3 := owns_free hoA k
        have hga := (owns_room' hoA)
        have s1 := HSA.out k hlt
        have s2 := HSB.out k hlt
        have hset := owns_set hoA hlt (.int .i64 (ks[k]?.getD 0 + js[k]?.getD 0))
        rw [mixA_succ n ks js k hlt] at hset
        have hobs := ownsRow_setCell_other hoB (a := ⟨ga, k, none⟩) (by simp [Value.ownBlock]; exact fun h => hne h.symm) (.int .i64 (ks[k]?.getD 0 + js[k]?.getD 0))
        have hbs := hbr.setCell (p := ⟨ga, k, none⟩) hga.1 (.int .i64 (ks[k]?.getD 0 + js[k]?.getD 0))
        have HSET := Lib.hid hset
        have HOBS := Lib.hid hobs
        have HBS := Lib.hid hbs
        have h4 : (k : Int) < (n : Int) := by omega
        have h5 : (0 : Int) ≤ (k : Int) := by omega
        clear hset hobs hbs hoA hoB hbr
        obtain ⟨u, hu⟩ : ∃ u, ks[k]?.getD 0 = u := ⟨_, rfl⟩
        obtain ⟨v, hv⟩ : ∃ v, js[k]?.getD 0 = v := ⟨_, rfl⟩
        rw [hu] at x1 s1 HSET HOBS HBS
        rw [hv] at x2 s2 HSET HOBS HBS
        clear hu hv
        go_upto_region 7 with fail
        go_region
        all_goals
          go_wp2_with fail
          go_roundw
          case rel => exact ⟨k + 1, by omega, by go_num, HSET.out, HOBS.out, HBS.out.drew⟩
          case measure => simp [intOf]; omega
      · obtain rfl : n = k := by omega
        rw [mixA_all] at hoA
        have hb3 := HB0.out.trans (hbr.mono (by omega))
        have hz2 := hbr.size
        have x0 := (hbr.cell (p := ⟨w.heap.size, 0, none⟩) (by show w.heap.size < _; omega)).trans a0
        have x1 := (hbr.cell (p := ⟨w.heap.size, 1, none⟩) (by show w.heap.size < _; omega)).trans a1
        have KM := Lib.hid (made_all W H (some ⟨ga, 0, none⟩) n ca _ (addL n ks js) (by simp [addL]) hn1 hsm wr hoA)
        have bR1 := (hbr.block (w.heap.size + 1 + 1) (by omega)).trans HZB.out
        have HB3 := Lib.hid hb3
        have HBR1 := Lib.hid bR1
        clear hoA hoB hbr hb3 bR1 a0' a1' a2' c0' c1' c2'
        generalize hle : largeErr n (addL n ks js) = r at *
        go_wp2_with ((go_at_call 141; refine KM.out.mono ?_; rintro e w2 ⟨X, Y, a', n', c2', rfl, hres, hb4⟩
                      have bR2 := (hb4.block (w.heap.size + 1 + 1) (by omega)).trans HBR1.out
                      have q0 : w2.frozen? ⟨w.heap.size + 1 + 1, 0, none⟩ = false := by simp [World.frozen?, bR2]
                      have q1 : w2.frozen? ⟨w.heap.size + 1 + 1, 1, none⟩ = false := by simp [World.frozen?, bR2]
                      have q2 : w2.frozen? ⟨w.heap.size + 1 + 1, 2, none⟩ = false := by simp [World.frozen?, bR2]
                      have p0 : w2.cell? ⟨w.heap.size + 1 + 1, 0, none⟩ = some (.int .i64 0) := by rw [cell_of_row w2 _ 0 _ _ (0, 0) bR2]; rfl
                      have p1 : w2.cell? ⟨w.heap.size + 1 + 1, 1, none⟩ = some (.int .i64 0) := by rw [cell_of_row w2 _ 1 _ _ (0, 0) bR2]; rfl
                      have p2 : w2.cell? ⟨w.heap.size + 1 + 1, 2, none⟩ = some (.slice none 0 0) := by rw [cell_of_row w2 _ 2 _ _ (0, 0) bR2]; rfl
                      have HR2 := Lib.hid bR2
                      have HRES := Lib.hid hres
                      have HB4 := Lib.hid (HB3.out.trans (hb4.mono (by omega)))
                      clear bR2 hres hb4))
        obtain ⟨WF, hWF⟩ : ∃ WF, (((w2.setCell ⟨w.heap.size + 1 + 1, 0, none⟩ (.int .i64 X)).setCell ⟨w.heap.size + 1 + 1, 1, none⟩ (.int .i64 Y)).setCell ⟨w.heap.size + 1 + 1, 2, none⟩ (.slice a' n' c2')) = WF := ⟨_, rfl⟩
        have rF : WF.heap[w.heap.size + 1 + 1]? = some (.cells #[.int .i64 X, .int .i64 Y, .slice a' n' c2'] 48 (0, 0)) := by rw [← hWF]; exact blk_set3 HR2.out _ _ _
        have bF : Below w.heap.size w WF := by rw [← hWF]; exact below_set3 HB4.out (by omega) _ _ _
        have vF : ResV WF r W H (addL n ks js) X Y a' n' c2' := by rw [← hWF]; exact HRES.out.stored HR2.out (OneBlk.set3 _ _ _ _ _)
        rw [hWF]
        subst hle
        exact bodyPost_ret (v := .tuple #[.agg #[.int .i64 X, .int .i64 Y, .slice a' n' c2'], .int .i64 (largeErr n (addL n ks js))]) (results_row_tmp Tryz.results61 _ _ (w.heap.size + 1 + 1) 48 _ (0, 0) _ rfl rF Tryz.underlying48 rfl (by kernel_rfl)) rfl ⟨_, _, _, _, _, rfl, vF, bF⟩

set_option maxRecDepth 100000 in
set_option maxHeartbeats 3200000 in
theorem refAdded_shape (W H W2 H2 : Int) (hne : ¬ (W = W2 ∧ H = H2)) (a a2 : Option Addr) (n c n2 c2 : Nat) (w : World) :
    Calls Tryz.prog 61 #[.agg #[.int .i64 W, .int .i64 H, .slice a n c], .agg #[.int .i64 W2, .int .i64 H2, .slice a2 n2 c2]] w fun e w' =>
      e = .returned (.tuple #[.agg #[.int .i64 0, .int .i64 0, .slice none 0 0], .int .i64 2]) ∧ Below w.heap.size w w' := by
  obtain ⟨W0, hW0⟩ : ∃ W0, ((w.alloc (.cells #[.int .i64 W, .int .i64 H, .slice a n c] 48)).alloc (.cells #[.int .i64 W2, .int .i64 H2, .slice a2 n2 c2] 48)).alloc (.cells #[.int .i64 0, .int .i64 0, .slice none 0 0] 48) = W0 := ⟨_, rfl⟩
  have hB0 : Below w.heap.size w W0 := by rw [← hW0]; exact (((Below.refl _ w).alloc (Nat.le_refl _) _).alloc (by simp) _).alloc (by simp; omega) _
  have hS0 : W0.heap.size = w.heap.size + 3 := by rw [← hW0]; simp
  have a0 : W0.cell? ⟨w.heap.size, 0, none⟩ = some (.int .i64 W) := by rw [← hW0]; simp [go_sem]
  have a1 : W0.cell? ⟨w.heap.size, 1, none⟩ = some (.int .i64 H) := by rw [← hW0]; simp [go_sem]
  have a2' : W0.cell? ⟨w.heap.size, 2, none⟩ = some (.slice a n c) := by rw [← hW0]; simp [go_sem]
  have c0 : W0.cell? ⟨w.heap.size + 1, 0, none⟩ = some (.int .i64 W2) := by rw [← hW0]; simp [go_sem]
  have c1 : W0.cell? ⟨w.heap.size + 1, 1, none⟩ = some (.int .i64 H2) := by rw [← hW0]; simp [go_sem]
  have c2' : W0.cell? ⟨w.heap.size + 1, 2, none⟩ = some (.slice a2 n2 c2) := by rw [← hW0]; simp [go_sem]
  have bz0 : W0.heap[w.heap.size + 1 + 1]? = some (.cells #[.int .i64 0, .int .i64 0, .slice none 0 0] 48 (0, 0)) := by rw [← hW0]; have h := blk_alloc_new ((w.alloc (.cells #[.int .i64 W, .int .i64 H, .slice a n c] 48)).alloc (.cells #[.int .i64 W2, .int .i64 H2, .slice a2 n2 c2] 48)) (.cells #[.int .i64 0, .int .i64 0, .slice none 0 0] 48); simpa using h
  have KS := Lib.hid (sameSize_no W H W2 H2 hne a a2 n c n2 c2 W0)
  have HB0 := Lib.hid hB0
  have HZB := Lib.hid bz0
  clear hB0 bz0 hne
  go_enter Tryz.func61, Tryz.ntmps61
  go_upto_region 1 with fail
  try rw [hW0]
  clear hW0
  go_wp2_with ((go_at_call 142; refine KS.out.mono ?_; rintro e w2 ⟨rfl, hb4⟩
                have bR2 := (hb4.block (w.heap.size + 1 + 1) (by omega)).trans HZB.out
                have q0 : w2.frozen? ⟨w.heap.size + 1 + 1, 0, none⟩ = false := by simp [World.frozen?, bR2]
                have q1 : w2.frozen? ⟨w.heap.size + 1 + 1, 1, none⟩ = false := by simp [World.frozen?, bR2]
                have q2 : w2.frozen? ⟨w.heap.size + 1 + 1, 2, none⟩ = false := by simp [World.frozen?, bR2]
                have p0 : w2.cell? ⟨w.heap.size + 1 + 1, 0, none⟩ = some (.int .i64 0) := by rw [cell_of_row w2 _ 0 _ _ (0, 0) bR2]; rfl
                have p1 : w2.cell? ⟨w.heap.size + 1 + 1, 1, none⟩ = some (.int .i64 0) := by rw [cell_of_row w2 _ 1 _ _ (0, 0) bR2]; rfl
                have p2 : w2.cell? ⟨w.heap.size + 1 + 1, 2, none⟩ = some (.slice none 0 0) := by rw [cell_of_row w2 _ 2 _ _ (0, 0) bR2]; rfl
                have HR2 := Lib.hid bR2
                have HB4 := Lib.hid (HB0.out.trans (hb4.mono (by omega)))
                clear bR2 hb4))
  obtain ⟨WF, hWF⟩ : ∃ WF, (((w2.setCell ⟨w.heap.size + 1 + 1, 0, none⟩ (.int .i64 0)).setCell ⟨w.heap.size + 1 + 1, 1, none⟩ (.int .i64 0)).setCell ⟨w.heap.size + 1 + 1, 2, none⟩ (.slice none 0 0)) = WF := ⟨_, rfl⟩
  have rF : WF.heap[w.heap.size + 1 + 1]? = some (.cells #[.int .i64 0, .int .i64 0, .slice none 0 0] 48 (0, 0)) := by rw [← hWF]; exact blk_set3 HR2.out _ _ _
  have bF : Below w.heap.size w WF := by rw [← hWF]; exact below_set3 HB4.out (by omega) _ _ _
  rw [hWF]
  exact bodyPost_ret (v := .tuple #[.agg #[.int .i64 0, .int .i64 0, .slice none 0 0], .int .i64 2]) (results_row_tmp Tryz.results61 _ _ (w.heap.size + 1 + 1) 48 _ (0, 0) _ rfl rF Tryz.underlying48 rfl (by kernel_rfl)) rfl ⟨rfl, bF⟩
end Go.Proofs.YtfdkmmllemkogaaGreatDoor

/-
  Contracts of the reference's Flipped and Turned of a right map.
-/
namespace Go.Proofs.YtfdkmmllemkogaaGreatDoor
open Go.RowKit
set_option linter.unusedVariables false
set_option linter.unusedSimpArgs false

theorem flip_at (W x y : Nat) (ks : List Int) (hx : x < W) : ks[(y * W + x) / W * W + (W - 1 - (y * W + x) % W)]?.getD 0 = ks[y * W + (W - 1 - x)]?.getD 0 := by
  have e1 : (y * W + x) / W = y := by rw [Nat.mul_comm, Nat.mul_add_div (by omega), Nat.div_eq_of_lt hx]; rfl
  have e2 : (y * W + x) % W = x := by rw [Nat.mul_comm, Nat.mul_add_mod, Nat.mod_eq_of_lt hx]
  rw [e1, e2]
theorem turn_at (W H x y : Nat) (ks : List Int) (hx : x < H) : ks[(H - 1 - (y * H + x) % H) * W + (y * H + x) / H]?.getD 0 = ks[(H - 1 - x) * W + y]?.getD 0 := by
  have e1 : (y * H + x) / H = y := by rw [Nat.mul_comm, Nat.mul_add_div (by omega), Nat.div_eq_of_lt hx]; rfl
  have e2 : (y * H + x) % H = x := by rw [Nat.mul_comm, Nat.mul_add_mod, Nat.mod_eq_of_lt hx]
  rw [e1, e2]

set_option maxRecDepth 100000 in
set_option maxHeartbeats 6400000 in
theorem refFlipped_any (W H : Nat) (b o n c : Nat) (xs : List Nat) (ks : List Int) (w : World) (hA : RightMap w W H b o n xs ks) (hb : b < w.heap.size) :
    Calls Tryz.prog 59 #[.agg #[.int .i64 W, .int .i64 H, .slice (some ⟨b, o, none⟩) n c]] w fun e w' =>
      ∃ X Y a n' c', e = .returned (.agg #[.int .i64 X, .int .i64 Y, .slice a n' c']) ∧ ResV w' 0 W H (flipL W n ks) X Y a n' c' ∧ Below w.heap.size w w' := by
  obtain ⟨i0, hi, hz0, hz1, hz2⟩ := info_parts Tryz.infoInt
  have hW : 1 ≤ W ∧ W ≤ 64 := by have := hA.wid; omega
  have hH : 1 ≤ H ∧ H ≤ 64 := by have := hA.hei; omega
  have hN : W * H = n := by have := hA.area; exact_mod_cast this
  have hN' : H * W = n := by first | exact hN | (rw [Nat.mul_comm]; exact hN)
  have hsm : n ≤ 4096 := hA.small
  obtain ⟨W0, hW0⟩ : ∃ W0, (w.alloc (.cells #[.int .i64 W, .int .i64 H, .slice (some ⟨b, o, none⟩) n c] 48)).alloc (.cells #[.int .i64 0, .int .i64 0, .slice none 0 0] 48) = W0 := ⟨_, rfl⟩
  have hB0 : Below w.heap.size w W0 := by rw [← hW0]; exact ((Below.refl _ w).alloc (Nat.le_refl _) _).alloc (by simp) _
  have hS0 : W0.heap.size = w.heap.size + 2 := by rw [← hW0]; simp
  have a0 : W0.cell? ⟨w.heap.size, 0, none⟩ = some (.int .i64 W) := by rw [← hW0]; simp [go_sem]
  have a1 : W0.cell? ⟨w.heap.size, 1, none⟩ = some (.int .i64 H) := by rw [← hW0]; simp [go_sem]
  have a2 : W0.cell? ⟨w.heap.size, 2, none⟩ = some (.slice (some ⟨b, o, none⟩) n c) := by rw [← hW0]; simp [go_sem]
  have bR : W0.heap[w.heap.size + 1]? = some (.cells #[.int .i64 0, .int .i64 0, .slice none 0 0] 48 (0, 0)) := by rw [← hW0]; exact blk_alloc_new1 _ _ _
  have KL : Hid (∀ (wr : World) (x y : Nat), Below (w.heap.size + 2) W0 wr → x < W → y < H → Calls Tryz.prog 46 #[.agg #[.int .i64 W, .int .i64 H, .slice (some ⟨b, o, none⟩) n c], .int .i64 ((W : Int) - 1 - (x : Int)), .int .i64 ((y : Int))] wr fun e w' => e = .returned (.int .i64 ((flipL W n ks)[y * W + x]?.getD 0)) ∧ Below wr.heap.size wr w') :=
    Lib.hid fun wr x y h hx hy => by
      have h2 := hB0.trans (h.mono (by omega))
      have hz := h2.size
      have hj : y * W + x < n := idx_lt (p := (x, y)) hx hy (by rw [Nat.mul_comm]; exact hN')
      have hL := refLevel_any W H b o n c xs ks wr (hA.below h2 hb) (by omega) (W - 1 - x) (y) (by omega) (by omega)
      have ex : (((W - 1 - x : Nat) : Int)) = (W : Int) - 1 - (x : Int) := by omega
      have ey : (((y : Nat) : Int)) = (y : Int) := by omega
      rw [ex, ey] at hL
      rw [show (flipL W n ks)[y * W + x]?.getD 0 = ks[(y) * W + (W - 1 - x)]?.getD 0 from by unfold flipL; rw [range_get _ _ _ hj]; exact flip_at W x y ks hx]
      exact hL
  have hlen : (flipL W n ks).length = n := by unfold flipL; simp
  have hsize : ∀ j, j < n → ((flipL W n ks)[j]?.getD 0).natAbs ≤ 16384 := fun j hj => by
    unfold flipL
    rw [range_get _ _ _ hj]
    by_cases hh : j / W * W + (W - 1 - j % W) < n
    · exact hA.sizes _ hh
    · rw [List.getElem?_eq_none (by have := hA.lenk; omega)]; decide
  have hle : largeErr n (flipL W n ks) = 0 := by unfold largeErr; rw [if_pos hsize]
  have KM : Hid (∀ (wr : World) (v : Value), wr.ownsRow (w.heap.size + 2) 3 1 v n ((flipL W n ks).map (Value.int .i64)) → Calls Tryz.prog 141 #[.int .i64 W, .int .i64 H, v] wr fun e w' =>
      ∃ X Y a' n' c', e = .returned (.tuple #[.agg #[.int .i64 X, .int .i64 Y, .slice a' n' c'], .int .i64 0]) ∧ ResV w' 0 W H (flipL W n ks) X Y a' n' c' ∧ Below wr.heap.size wr w') :=
    Lib.hid fun wr v hown => by
      obtain ⟨av, cv, rfl⟩ := owns_slice hown
      have h := made_all W H av n cv _ (flipL W n ks) hlen (by rw [← hN']; exact Nat.mul_pos (by omega) (by omega)) hsm wr hown
      rw [hle] at h
      exact h
  have HB0 := Lib.hid hB0
  have HS0 := Lib.hid hS0
  have HBR := Lib.hid bR
  have HLEN := Lib.hid hlen
  have HSZ := Lib.hid hsize
  have HN' := Lib.hid hN'
  clear hA hB0 hS0 bR hN hN' hlen hsize hle
  go_enter Tryz.func59, Tryz.ntmps59
  go_upto_region 1 with fail
  try rw [hW0]
  clear hW0
  go_wp2_with fail
  go_loopw [3, 4] (fun out i wr => ∃ y : Nat, y ≤ H ∧ i = .int .i64 y ∧ wr.ownsRow (w.heap.size + 2) 3 1 out (y * W) (((List.range (y * W)).map (fun j => (flipL W n ks)[j]?.getD 0)).map (Value.int .i64)) ∧ Below (w.heap.size + 2) W0 wr)
    (fun _ i _ => H - (intOf i).toNat)
  case atStart => exact ⟨0, Nat.zero_le _, rfl, by rw [Nat.zero_mul]; exact World.ownsRow_nil _ _ _ _, Below.refl _ _⟩
  case round =>
    obtain ⟨y, hy, rfl, hown, hnx⟩ := hrel
    have a0' := (hnx.cell (p := ⟨w.heap.size, 0, none⟩) (by show w.heap.size < _; omega)).trans a0
    have a1' := (hnx.cell (p := ⟨w.heap.size, 1, none⟩) (by show w.heap.size < _; omega)).trans a1
    by_cases hlt : y < H
    · have HO := Lib.hid hown
      have HNX := Lib.hid hnx
      have hd : decide ((y : Int) < (H : Int)) = true := decide_eq_true (by omega)
      clear hown hnx
      go_wp2_with fail
      try simp only [hd]
      clear hd
      go_loopw [3, 5] (fun out i wq => ∃ x : Nat, x ≤ W ∧ i = .int .i64 x ∧ wq.ownsRow (w.heap.size + 2) 3 1 out (y * W + x) (((List.range (y * W + x)).map (fun j => (flipL W n ks)[j]?.getD 0)).map (Value.int .i64)) ∧ Below (w.heap.size + 2) W0 wq)
        (fun _ i _ => W - (intOf i).toNat)
      case atStart => exact ⟨0, Nat.zero_le _, rfl, HO.out, HNX.out⟩
      case round =>
        obtain ⟨x, hx, rfl, hown, hnx⟩ := hrel
        have c0' := (hnx.cell (p := ⟨w.heap.size, 0, none⟩) (by show w.heap.size < _; omega)).trans a0
        have c1' := (hnx.cell (p := ⟨w.heap.size, 1, none⟩) (by show w.heap.size < _; omega)).trans a1
        have c2' := (hnx.cell (p := ⟨w.heap.size, 2, none⟩) (by show w.heap.size < _; omega)).trans a2
        clear a0' a1'
        by_cases hlx : x < W
        · obtain ⟨av, cv, rfl⟩ := owns_slice hown
          have hj : y * W + x < n := idx_lt (p := (x, y)) hlx hlt (by rw [Nat.mul_comm]; exact HN'.out)
          have KLL := Lib.hid (KL.out wr x y hnx hlx hlt)
          have hsz : w.heap.size + 2 ≤ wr.heap.size := by have := hnx.size; have := HS0.out; omega
          have HE := Lib.hid (list_succ (fun j => (flipL W n ks)[j]?.getD 0) (y * W + x))
          generalize hJ : y * W + x = J at *
          go_wp2_with (first
            | ((go_at_call 46; refine KLL.out.mono ?_; rintro e w1 ⟨rfl, hb1⟩
                have hown1 := owns_kept hown hb1 (Nat.le_refl _)
                have hs1 := hb1.size))
            | (at_builtin; refine wpList_append_own _ rfl (.tmp 20) (.tmp 29) 25 rfl (w.heap.size + 2) 3 i0 (.int .i64 0) 1 8 Tryz.underlying25 hi hz0 hz1 hz2 rfl (by decide) _ J _ rfl (hown1.alloc _) ⟨w1.heap.size, 0, none⟩ 1 1 [.int .i64 ((flipL W n ks)[J]?.getD 0)] rfl rfl (cell_one_new _ _ _) (by intro u hu; simp at hu; subst hu; rfl) (by unfold maxLen; omega) (by omega) (by simp; omega) ?_; intro v' w2 hown2 hgrow2 _))
          have hlt' := hown1.lt
          go_roundw
          case rel => exact ⟨x + 1, by omega, by go_num, by rw [← Nat.add_assoc, hJ, HE.out]; exact hown2, ((hnx.trans (hb1.mono hsz)).alloc (by omega) _).grown hgrow2 (by simp; omega) (fun j hj => (hlt' j hj).1)⟩
          case measure => simp [intOf]; omega
        · obtain rfl : x = W := by omega
          go_wp2_with fail
          go_roundw
          case rel => exact ⟨y + 1, by omega, by go_num, by rw [Nat.succ_mul]; exact hown, hnx⟩
          case measure => simp [intOf]; omega
    · obtain rfl : H = y := by omega
      rw [HN'.out, show ((List.range n).map (fun j => (flipL W n ks)[j]?.getD 0)) = flipL W n ks from by
        unfold flipL
        refine List.map_congr_left (fun j hj => ?_)
        exact range_get _ _ j (List.mem_range.1 hj)] at hown
      obtain ⟨av, cv, rfl⟩ := owns_slice hown
      have KMM := Lib.hid (KM.out wr _ hown)
      have hs2 : w.heap.size + 2 ≤ wr.heap.size := by have := hnx.size; have := HS0.out; omega
      have bR1 := (hnx.block (w.heap.size + 1) (by omega)).trans HBR.out
      have HNX := Lib.hid hnx
      have HBR1 := Lib.hid bR1
      clear hown hnx bR1
      go_wp2_with ((go_at_call 141; refine KMM.out.mono ?_; rintro e w1 ⟨X, Y, a', n', c', rfl, hres, hb1⟩
                    have bR2 := (hb1.block (w.heap.size + 1) (by omega)).trans HBR1.out
                    have hs1 := hb1.size
                    have bRx := (Below.heap_alloc w1 (.cells #[.int .i64 X, .int .i64 Y, .slice a' n' c'] 48) (w.heap.size + 1) (by omega)).trans bR2
                    obtain ⟨W2, hW2⟩ : ∃ W2, w1.alloc (.cells #[.int .i64 X, .int .i64 Y, .slice a' n' c'] 48) = W2 := ⟨_, rfl⟩
                    rw [hW2] at bRx
                    have q0 : W2.frozen? ⟨w.heap.size + 1, 0, none⟩ = false := by simp [World.frozen?, bRx]
                    have q1 : W2.frozen? ⟨w.heap.size + 1, 1, none⟩ = false := by simp [World.frozen?, bRx]
                    have q2 : W2.frozen? ⟨w.heap.size + 1, 2, none⟩ = false := by simp [World.frozen?, bRx]
                    have p0 : W2.cell? ⟨w.heap.size + 1, 0, none⟩ = some (.int .i64 0) := by rw [cell_of_row W2 _ 0 _ _ (0, 0) bRx]; rfl
                    have p1 : W2.cell? ⟨w.heap.size + 1, 1, none⟩ = some (.int .i64 0) := by rw [cell_of_row W2 _ 1 _ _ (0, 0) bRx]; rfl
                    have p2 : W2.cell? ⟨w.heap.size + 1, 2, none⟩ = some (.slice none 0 0) := by rw [cell_of_row W2 _ 2 _ _ (0, 0) bRx]; rfl
                    have bM2 : W2.heap[w1.heap.size]? = some (.cells #[.int .i64 X, .int .i64 Y, .slice a' n' c'] 48 (0, 0)) := by rw [← hW2]; exact blk_alloc_new _ _
                    have m0 : W2.cell? ⟨w1.heap.size, 0, none⟩ = some (.int .i64 X) := by rw [cell_of_row W2 _ 0 _ _ (0, 0) bM2]; rfl
                    have m1 : W2.cell? ⟨w1.heap.size, 1, none⟩ = some (.int .i64 Y) := by rw [cell_of_row W2 _ 1 _ _ (0, 0) bM2]; rfl
                    have m2 : W2.cell? ⟨w1.heap.size, 2, none⟩ = some (.slice a' n' c') := by rw [cell_of_row W2 _ 2 _ _ (0, 0) bM2]; rfl
                    have hb2 : Below w1.heap.size w1 W2 := by rw [← hW2]; exact (Below.refl _ _).alloc (Nat.le_refl _) _
                    have HR2 := Lib.hid bRx
                    have HRES := Lib.hid (hres.kept hb2)
                    have HB2 := Lib.hid ((HNX.out.trans (hb1.mono hs2)).trans (hb2.mono (by omega)))
                    have HS2 := Lib.hid hs2
                    clear bRx bR2 bM2 hres hb1 hb2
                    try rw [hW2]))
      obtain ⟨WF, hWF⟩ : ∃ WF, (((W2.setCell ⟨w.heap.size + 1, 0, none⟩ (.int .i64 X)).setCell ⟨w.heap.size + 1, 1, none⟩ (.int .i64 Y)).setCell ⟨w.heap.size + 1, 2, none⟩ (.slice a' n' c')) = WF := ⟨_, rfl⟩
      have rF : WF.heap[w.heap.size + 1]? = some (.cells #[.int .i64 X, .int .i64 Y, .slice a' n' c'] 48 (0, 0)) := by rw [← hWF]; exact blk_set3 HR2.out _ _ _
      have bF : Below w.heap.size w WF := by rw [← hWF]; exact below_set3 (HB0.out.trans (HB2.out.mono (by omega))) (by omega) _ _ _
      have vF : ResV WF 0 W H (flipL W n ks) X Y a' n' c' := by rw [← hWF]; exact HRES.out.stored HR2.out (OneBlk.set3 _ _ _ _ _)
      rw [hWF]
      exact bodyPost_ret (v := .agg #[.int .i64 X, .int .i64 Y, .slice a' n' c']) (results_cell_row Tryz.results59 _ _ (w.heap.size + 1) 48 _ (0, 0) _ rfl rF Tryz.underlying48 rfl (by kernel_rfl)) rfl ⟨_, _, _, _, _, rfl, vF, bF⟩

set_option maxRecDepth 100000 in
set_option maxHeartbeats 6400000 in
theorem refTurned_any (W H : Nat) (b o n c : Nat) (xs : List Nat) (ks : List Int) (w : World) (hA : RightMap w W H b o n xs ks) (hb : b < w.heap.size) :
    Calls Tryz.prog 60 #[.agg #[.int .i64 W, .int .i64 H, .slice (some ⟨b, o, none⟩) n c]] w fun e w' =>
      ∃ X Y a n' c', e = .returned (.agg #[.int .i64 X, .int .i64 Y, .slice a n' c']) ∧ ResV w' 0 H W (turnL W H n ks) X Y a n' c' ∧ Below w.heap.size w w' := by
  obtain ⟨i0, hi, hz0, hz1, hz2⟩ := info_parts Tryz.infoInt
  have hW : 1 ≤ W ∧ W ≤ 64 := by have := hA.wid; omega
  have hH : 1 ≤ H ∧ H ≤ 64 := by have := hA.hei; omega
  have hN : W * H = n := by have := hA.area; exact_mod_cast this
  have hN' : W * H = n := by first | exact hN | (rw [Nat.mul_comm]; exact hN)
  have hsm : n ≤ 4096 := hA.small
  obtain ⟨W0, hW0⟩ : ∃ W0, (w.alloc (.cells #[.int .i64 W, .int .i64 H, .slice (some ⟨b, o, none⟩) n c] 48)).alloc (.cells #[.int .i64 0, .int .i64 0, .slice none 0 0] 48) = W0 := ⟨_, rfl⟩
  have hB0 : Below w.heap.size w W0 := by rw [← hW0]; exact ((Below.refl _ w).alloc (Nat.le_refl _) _).alloc (by simp) _
  have hS0 : W0.heap.size = w.heap.size + 2 := by rw [← hW0]; simp
  have a0 : W0.cell? ⟨w.heap.size, 0, none⟩ = some (.int .i64 W) := by rw [← hW0]; simp [go_sem]
  have a1 : W0.cell? ⟨w.heap.size, 1, none⟩ = some (.int .i64 H) := by rw [← hW0]; simp [go_sem]
  have a2 : W0.cell? ⟨w.heap.size, 2, none⟩ = some (.slice (some ⟨b, o, none⟩) n c) := by rw [← hW0]; simp [go_sem]
  have bR : W0.heap[w.heap.size + 1]? = some (.cells #[.int .i64 0, .int .i64 0, .slice none 0 0] 48 (0, 0)) := by rw [← hW0]; exact blk_alloc_new1 _ _ _
  have KL : Hid (∀ (wr : World) (x y : Nat), Below (w.heap.size + 2) W0 wr → x < H → y < W → Calls Tryz.prog 46 #[.agg #[.int .i64 W, .int .i64 H, .slice (some ⟨b, o, none⟩) n c], .int .i64 ((y : Int)), .int .i64 ((H : Int) - 1 - (x : Int))] wr fun e w' => e = .returned (.int .i64 ((turnL W H n ks)[y * H + x]?.getD 0)) ∧ Below wr.heap.size wr w') :=
    Lib.hid fun wr x y h hx hy => by
      have h2 := hB0.trans (h.mono (by omega))
      have hz := h2.size
      have hj : y * H + x < n := idx_lt (p := (x, y)) hx hy (by rw [Nat.mul_comm]; exact hN')
      have hL := refLevel_any W H b o n c xs ks wr (hA.below h2 hb) (by omega) (y) (H - 1 - x) (by omega) (by omega)
      have ex : (((y : Nat) : Int)) = (y : Int) := by omega
      have ey : (((H - 1 - x : Nat) : Int)) = (H : Int) - 1 - (x : Int) := by omega
      rw [ex, ey] at hL
      rw [show (turnL W H n ks)[y * H + x]?.getD 0 = ks[(H - 1 - x) * W + (y)]?.getD 0 from by unfold turnL; rw [range_get _ _ _ hj]; exact turn_at W H x y ks hx]
      exact hL
  have hlen : (turnL W H n ks).length = n := by unfold turnL; simp
  have hsize : ∀ j, j < n → ((turnL W H n ks)[j]?.getD 0).natAbs ≤ 16384 := fun j hj => by
    unfold turnL
    rw [range_get _ _ _ hj]
    by_cases hh : (H - 1 - j % H) * W + j / H < n
    · exact hA.sizes _ hh
    · rw [List.getElem?_eq_none (by have := hA.lenk; omega)]; decide
  have hle : largeErr n (turnL W H n ks) = 0 := by unfold largeErr; rw [if_pos hsize]
  have KM : Hid (∀ (wr : World) (v : Value), wr.ownsRow (w.heap.size + 2) 3 1 v n ((turnL W H n ks).map (Value.int .i64)) → Calls Tryz.prog 141 #[.int .i64 H, .int .i64 W, v] wr fun e w' =>
      ∃ X Y a' n' c', e = .returned (.tuple #[.agg #[.int .i64 X, .int .i64 Y, .slice a' n' c'], .int .i64 0]) ∧ ResV w' 0 H W (turnL W H n ks) X Y a' n' c' ∧ Below wr.heap.size wr w') :=
    Lib.hid fun wr v hown => by
      obtain ⟨av, cv, rfl⟩ := owns_slice hown
      have h := made_all H W av n cv _ (turnL W H n ks) hlen (by rw [← hN']; exact Nat.mul_pos (by omega) (by omega)) hsm wr hown
      rw [hle] at h
      exact h
  have HB0 := Lib.hid hB0
  have HS0 := Lib.hid hS0
  have HBR := Lib.hid bR
  have HLEN := Lib.hid hlen
  have HSZ := Lib.hid hsize
  have HN' := Lib.hid hN'
  clear hA hB0 hS0 bR hN hN' hlen hsize hle
  go_enter Tryz.func60, Tryz.ntmps60
  go_upto_region 1 with fail
  try rw [hW0]
  clear hW0
  go_wp2_with fail
  go_loopw [3, 4] (fun out i wr => ∃ y : Nat, y ≤ W ∧ i = .int .i64 y ∧ wr.ownsRow (w.heap.size + 2) 3 1 out (y * H) (((List.range (y * H)).map (fun j => (turnL W H n ks)[j]?.getD 0)).map (Value.int .i64)) ∧ Below (w.heap.size + 2) W0 wr)
    (fun _ i _ => W - (intOf i).toNat)
  case atStart => exact ⟨0, Nat.zero_le _, rfl, by rw [Nat.zero_mul]; exact World.ownsRow_nil _ _ _ _, Below.refl _ _⟩
  case round =>
    obtain ⟨y, hy, rfl, hown, hnx⟩ := hrel
    have a0' := (hnx.cell (p := ⟨w.heap.size, 0, none⟩) (by show w.heap.size < _; omega)).trans a0
    have a1' := (hnx.cell (p := ⟨w.heap.size, 1, none⟩) (by show w.heap.size < _; omega)).trans a1
    by_cases hlt : y < W
    · have HO := Lib.hid hown
      have HNX := Lib.hid hnx
      have hd : decide ((y : Int) < (W : Int)) = true := decide_eq_true (by omega)
      clear hown hnx
      go_wp2_with fail
      try simp only [hd]
      clear hd
      go_loopw [3, 5] (fun out i wq => ∃ x : Nat, x ≤ H ∧ i = .int .i64 x ∧ wq.ownsRow (w.heap.size + 2) 3 1 out (y * H + x) (((List.range (y * H + x)).map (fun j => (turnL W H n ks)[j]?.getD 0)).map (Value.int .i64)) ∧ Below (w.heap.size + 2) W0 wq)
        (fun _ i _ => H - (intOf i).toNat)
      case atStart => exact ⟨0, Nat.zero_le _, rfl, HO.out, HNX.out⟩
      case round =>
        obtain ⟨x, hx, rfl, hown, hnx⟩ := hrel
        have c0' := (hnx.cell (p := ⟨w.heap.size, 0, none⟩) (by show w.heap.size < _; omega)).trans a0
        have c1' := (hnx.cell (p := ⟨w.heap.size, 1, none⟩) (by show w.heap.size < _; omega)).trans a1
        have c2' := (hnx.cell (p := ⟨w.heap.size, 2, none⟩) (by show w.heap.size < _; omega)).trans a2
        clear a0' a1'
        by_cases hlx : x < H
        · obtain ⟨av, cv, rfl⟩ := owns_slice hown
          have hj : y * H + x < n := idx_lt (p := (x, y)) hlx hlt (by rw [Nat.mul_comm]; exact HN'.out)
          have KLL := Lib.hid (KL.out wr x y hnx hlx hlt)
          have hsz : w.heap.size + 2 ≤ wr.heap.size := by have := hnx.size; have := HS0.out; omega
          have HE := Lib.hid (list_succ (fun j => (turnL W H n ks)[j]?.getD 0) (y * H + x))
          generalize hJ : y * H + x = J at *
          go_wp2_with (first
            | ((go_at_call 46; refine KLL.out.mono ?_; rintro e w1 ⟨rfl, hb1⟩
                have hown1 := owns_kept hown hb1 (Nat.le_refl _)
                have hs1 := hb1.size))
            | (at_builtin; refine wpList_append_own _ rfl (.tmp 20) (.tmp 29) 25 rfl (w.heap.size + 2) 3 i0 (.int .i64 0) 1 8 Tryz.underlying25 hi hz0 hz1 hz2 rfl (by decide) _ J _ rfl (hown1.alloc _) ⟨w1.heap.size, 0, none⟩ 1 1 [.int .i64 ((turnL W H n ks)[J]?.getD 0)] rfl rfl (cell_one_new _ _ _) (by intro u hu; simp at hu; subst hu; rfl) (by unfold maxLen; omega) (by omega) (by simp; omega) ?_; intro v' w2 hown2 hgrow2 _))
          have hlt' := hown1.lt
          go_roundw
          case rel => exact ⟨x + 1, by omega, by go_num, by rw [← Nat.add_assoc, hJ, HE.out]; exact hown2, ((hnx.trans (hb1.mono hsz)).alloc (by omega) _).grown hgrow2 (by simp; omega) (fun j hj => (hlt' j hj).1)⟩
          case measure => simp [intOf]; omega
        · obtain rfl : x = H := by omega
          go_wp2_with fail
          go_roundw
          case rel => exact ⟨y + 1, by omega, by go_num, by rw [Nat.succ_mul]; exact hown, hnx⟩
          case measure => simp [intOf]; omega
    · obtain rfl : W = y := by omega
      rw [HN'.out, show ((List.range n).map (fun j => (turnL W H n ks)[j]?.getD 0)) = turnL W H n ks from by
        unfold turnL
        refine List.map_congr_left (fun j hj => ?_)
        exact range_get _ _ j (List.mem_range.1 hj)] at hown
      obtain ⟨av, cv, rfl⟩ := owns_slice hown
      have KMM := Lib.hid (KM.out wr _ hown)
      have hs2 : w.heap.size + 2 ≤ wr.heap.size := by have := hnx.size; have := HS0.out; omega
      have bR1 := (hnx.block (w.heap.size + 1) (by omega)).trans HBR.out
      have HNX := Lib.hid hnx
      have HBR1 := Lib.hid bR1
      clear hown hnx bR1
      go_wp2_with ((go_at_call 141; refine KMM.out.mono ?_; rintro e w1 ⟨X, Y, a', n', c', rfl, hres, hb1⟩
                    have bR2 := (hb1.block (w.heap.size + 1) (by omega)).trans HBR1.out
                    have hs1 := hb1.size
                    have bRx := (Below.heap_alloc w1 (.cells #[.int .i64 X, .int .i64 Y, .slice a' n' c'] 48) (w.heap.size + 1) (by omega)).trans bR2
                    obtain ⟨W2, hW2⟩ : ∃ W2, w1.alloc (.cells #[.int .i64 X, .int .i64 Y, .slice a' n' c'] 48) = W2 := ⟨_, rfl⟩
                    rw [hW2] at bRx
                    have q0 : W2.frozen? ⟨w.heap.size + 1, 0, none⟩ = false := by simp [World.frozen?, bRx]
                    have q1 : W2.frozen? ⟨w.heap.size + 1, 1, none⟩ = false := by simp [World.frozen?, bRx]
                    have q2 : W2.frozen? ⟨w.heap.size + 1, 2, none⟩ = false := by simp [World.frozen?, bRx]
                    have p0 : W2.cell? ⟨w.heap.size + 1, 0, none⟩ = some (.int .i64 0) := by rw [cell_of_row W2 _ 0 _ _ (0, 0) bRx]; rfl
                    have p1 : W2.cell? ⟨w.heap.size + 1, 1, none⟩ = some (.int .i64 0) := by rw [cell_of_row W2 _ 1 _ _ (0, 0) bRx]; rfl
                    have p2 : W2.cell? ⟨w.heap.size + 1, 2, none⟩ = some (.slice none 0 0) := by rw [cell_of_row W2 _ 2 _ _ (0, 0) bRx]; rfl
                    have bM2 : W2.heap[w1.heap.size]? = some (.cells #[.int .i64 X, .int .i64 Y, .slice a' n' c'] 48 (0, 0)) := by rw [← hW2]; exact blk_alloc_new _ _
                    have m0 : W2.cell? ⟨w1.heap.size, 0, none⟩ = some (.int .i64 X) := by rw [cell_of_row W2 _ 0 _ _ (0, 0) bM2]; rfl
                    have m1 : W2.cell? ⟨w1.heap.size, 1, none⟩ = some (.int .i64 Y) := by rw [cell_of_row W2 _ 1 _ _ (0, 0) bM2]; rfl
                    have m2 : W2.cell? ⟨w1.heap.size, 2, none⟩ = some (.slice a' n' c') := by rw [cell_of_row W2 _ 2 _ _ (0, 0) bM2]; rfl
                    have hb2 : Below w1.heap.size w1 W2 := by rw [← hW2]; exact (Below.refl _ _).alloc (Nat.le_refl _) _
                    have HR2 := Lib.hid bRx
                    have HRES := Lib.hid (hres.kept hb2)
                    have HB2 := Lib.hid ((HNX.out.trans (hb1.mono hs2)).trans (hb2.mono (by omega)))
                    have HS2 := Lib.hid hs2
                    clear bRx bR2 bM2 hres hb1 hb2
                    try rw [hW2]))
      obtain ⟨WF, hWF⟩ : ∃ WF, (((W2.setCell ⟨w.heap.size + 1, 0, none⟩ (.int .i64 X)).setCell ⟨w.heap.size + 1, 1, none⟩ (.int .i64 Y)).setCell ⟨w.heap.size + 1, 2, none⟩ (.slice a' n' c')) = WF := ⟨_, rfl⟩
      have rF : WF.heap[w.heap.size + 1]? = some (.cells #[.int .i64 X, .int .i64 Y, .slice a' n' c'] 48 (0, 0)) := by rw [← hWF]; exact blk_set3 HR2.out _ _ _
      have bF : Below w.heap.size w WF := by rw [← hWF]; exact below_set3 (HB0.out.trans (HB2.out.mono (by omega))) (by omega) _ _ _
      have vF : ResV WF 0 H W (turnL W H n ks) X Y a' n' c' := by rw [← hWF]; exact HRES.out.stored HR2.out (OneBlk.set3 _ _ _ _ _)
      rw [hWF]
      exact bodyPost_ret (v := .agg #[.int .i64 X, .int .i64 Y, .slice a' n' c']) (results_cell_row Tryz.results60 _ _ (w.heap.size + 1) 48 _ (0, 0) _ rfl rF Tryz.underlying48 rfl (by kernel_rfl)) rfl ⟨_, _, _, _, _, rfl, vF, bF⟩

end Go.Proofs.YtfdkmmllemkogaaGreatDoor
