/-
  Contract of Added for two right maps of one size whose sums are in range: the map of the sums.
-/
import Derived.Deep.DrawnRows
import Derived.Test.YtpmjiifdnnhecaaGreatDoorOaaZi
import Derived.Test.YtpmjiifdnnhecaaGreatDoorOaaXe
namespace Go.Proofs.YtpmjiifdnnhecaaGreatDoor
open Go.RowKit
set_option linter.unusedVariables false
attribute [local go_sem ↓] Go.wp_at_zero Go.wp_at_succ

set_option maxRecDepth 100000 in
set_option maxHeartbeats 25600000 in
theorem added_any (W H : Nat) (b o c b' o' c' n : Nat) (xs ys : List Nat) (ks js : List Int) (w : World) (hA : RightMap w W H b o n xs ks) (hB : RightMap w W H b' o' n ys js) (hb : b < w.heap.size) (hb' : b' < w.heap.size)
    (hs : ∀ j : Nat, (ks[j]?.getD 0 + js[j]?.getD 0 : Int).natAbs ≤ 16384) :
    Calls Tryz.prog 65 #[.agg #[.int .i64 W, .int .i64 H, .slice (some ⟨b, o, none⟩) n c], .agg #[.int .i64 W, .int .i64 H, .slice (some ⟨b', o', none⟩) n c']] w fun e w' =>
      ∃ g, e = .returned (.tuple #[.agg #[.int .i64 W, .int .i64 H, .slice (some ⟨g, 0, none⟩) n n], .int .i64 0]) ∧ g < w'.heap.size ∧ (∀ j, j < n → w'.cell? ⟨g, j, none⟩ = some (.float .f32 (smpOf (ks[j]?.getD 0 + js[j]?.getD 0)))) ∧ Below w.heap.size w w' := by
  obtain ⟨W0, hW0⟩ : ∃ W0, ((w.alloc (.cells #[.int .i64 W, .int .i64 H, .slice (some ⟨b, o, none⟩) n c] 121)).alloc (.cells #[.int .i64 W, .int .i64 H, .slice (some ⟨b', o', none⟩) n c'] 121)).alloc (.cells #[.int .i64 0, .int .i64 0, .slice none 0 0] 121) = W0 := ⟨_, rfl⟩
  have hB0 : Below w.heap.size w W0 := by rw [← hW0]; exact (((Below.refl _ w).alloc (Nat.le_refl _) _).alloc (by simp) _).alloc (by simp; omega) _
  have hS0 : W0.heap.size = w.heap.size + 3 := by rw [← hW0]; simp
  have a0 : W0.cell? ⟨w.heap.size, 0, none⟩ = some (.int .i64 W) := by rw [← hW0]; simp [go_sem]
  have a1 : W0.cell? ⟨w.heap.size, 1, none⟩ = some (.int .i64 H) := by rw [← hW0]; simp [go_sem]
  have a2 : W0.cell? ⟨w.heap.size, 2, none⟩ = some (.slice (some ⟨b, o, none⟩) n c) := by rw [← hW0]; simp [go_sem]
  have c0 : W0.cell? ⟨w.heap.size + 1, 0, none⟩ = some (.int .i64 W) := by rw [← hW0]; simp [go_sem]
  have c1 : W0.cell? ⟨w.heap.size + 1, 1, none⟩ = some (.int .i64 H) := by rw [← hW0]; simp [go_sem]
  have c2 : W0.cell? ⟨w.heap.size + 1, 2, none⟩ = some (.slice (some ⟨b', o', none⟩) n c') := by rw [← hW0]; simp [go_sem]
  have z0 : W0.cell? ⟨w.heap.size + 1 + 1, 0, none⟩ = some (.int .i64 0) := by rw [← hW0]; simp [go_sem]
  have z1 : W0.cell? ⟨w.heap.size + 1 + 1, 1, none⟩ = some (.int .i64 0) := by rw [← hW0]; simp [go_sem]
  have z2 : W0.cell? ⟨w.heap.size + 1 + 1, 2, none⟩ = some (.slice none 0 0) := by rw [← hW0]; simp [go_sem]
  have zf : ∀ j, W0.frozen? ⟨w.heap.size + 1 + 1, j, none⟩ = false := fun j => by rw [← hW0]; simp [go_sem]
  have KA : ∀ w1 : World, Blw (w.heap.size + 3) W0 w1 → Calls Tryz.prog 134 #[.agg #[.int .i64 W, .int .i64 H, .slice (some ⟨b, o, none⟩) n c]] w1 fun e w' => e = .returned (.int .i64 0) ∧ Below (w.heap.size + 3) W0 w' := fun w1 (h : Below (w.heap.size + 3) W0 w1) => by
    have h1 := h.size
    have h2 := hB0.trans (h.mono (by omega))
    exact (checkMap_any W H b o n c xs ks w1 (hA.below h2 hb) (by omega)).mono fun e w' ⟨he, hw⟩ => ⟨he, h.trans (hw.mono (by omega))⟩
  have KB : ∀ w1 : World, Blw (w.heap.size + 3) W0 w1 → Calls Tryz.prog 134 #[.agg #[.int .i64 W, .int .i64 H, .slice (some ⟨b', o', none⟩) n c']] w1 fun e w' => e = .returned (.int .i64 0) ∧ Below (w.heap.size + 3) W0 w' := fun w1 (h : Below (w.heap.size + 3) W0 w1) => by
    have h1 := h.size
    have h2 := hB0.trans (h.mono (by omega))
    exact (checkMap_any W H b' o' n c' ys js w1 (hB.below h2 hb') (by omega)).mono fun e w' ⟨he, hw⟩ => ⟨he, h.trans (hw.mono (by omega))⟩
  have GA : ∀ w1 : World, Blw (w.heap.size + 3) W0 w1 → Calls Tryz.prog 135 #[.agg #[.int .i64 W, .int .i64 H, .slice (some ⟨b, o, none⟩) n c]] w1 fun e w' =>
      ∃ g, e = .returned (.agg #[.int .i64 W, .int .i64 H, .slice (some ⟨g, 0, none⟩) n n]) ∧ w1.heap.size ≤ g ∧ RowAt w' g n ks ∧ Below w1.heap.size w1 w' ∧ Below (w.heap.size + 3) W0 w' := fun w1 (h : Below (w.heap.size + 3) W0 w1) => by
    have h1 := h.size
    have h2 := hB0.trans (h.mono (by omega))
    exact (grid_row W H b o n c xs ks w1 (hA.below h2 hb).toWords (by omega)).mono fun e w' ⟨g, he, h3, h4, h5⟩ => ⟨g, he, h3, h4, h5, h.trans (h5.mono (by omega))⟩
  have GB : ∀ w1 : World, Blw (w.heap.size + 3) W0 w1 → Calls Tryz.prog 135 #[.agg #[.int .i64 W, .int .i64 H, .slice (some ⟨b', o', none⟩) n c']] w1 fun e w' =>
      ∃ g, e = .returned (.agg #[.int .i64 W, .int .i64 H, .slice (some ⟨g, 0, none⟩) n n]) ∧ w1.heap.size ≤ g ∧ RowAt w' g n js ∧ Below w1.heap.size w1 w' ∧ Below (w.heap.size + 3) W0 w' := fun w1 (h : Below (w.heap.size + 3) W0 w1) => by
    have h1 := h.size
    have h2 := hB0.trans (h.mono (by omega))
    exact (grid_row W H b' o' n c' ys js w1 (hB.below h2 hb').toWords (by omega)).mono fun e w' ⟨g, he, h3, h4, h5⟩ => ⟨g, he, h3, h4, h5, h.trans (h5.mono (by omega))⟩
  have HKA := Lib.hid KA
  have HKB := Lib.hid KB
  have HGA := Lib.hid GA
  have HGB := Lib.hid GB
  have HB0 := Lib.hid hB0
  have HS0 := Lib.hid hS0
  have HSUM := Lib.hid hs
  have HRA := Lib.hid hA
  have HRB := Lib.hid hB
  have hR : Blw (w.heap.size + 3) W0 W0.drew := show Below _ _ _ from (Below.refl (w.heap.size + 3) W0).drew
  clear KA KB GA GB hs hA hB hB0 hS0
  go_enter Tryz.func65, Tryz.ntmps65
  go_wp2_with fail
  try rw [hW0]
  clear hW0
  go_region_held3 (fun w' => w'.cell? ⟨w.heap.size, 0, none⟩ = some (.int .i64 W) ∧ w'.cell? ⟨w.heap.size, 1, none⟩ = some (.int .i64 H) ∧ w'.cell? ⟨w.heap.size, 2, none⟩ = some (.slice (some ⟨b, o, none⟩) n c) ∧
      w'.cell? ⟨w.heap.size + 1, 0, none⟩ = some (.int .i64 W) ∧ w'.cell? ⟨w.heap.size + 1, 1, none⟩ = some (.int .i64 H) ∧ w'.cell? ⟨w.heap.size + 1, 2, none⟩ = some (.slice (some ⟨b', o', none⟩) n c') ∧ Blw (w.heap.size + 3) W0 w')
    (first
      | (go_split_ands; refine ⟨?_, ?_, ?_, ?_, ?_, ?_, ?_⟩ <;> first | assumption | exact hb1 | ((rw [hb1.cell (by simp; try omega)]; assumption)))
      | (go_split_ands; refine ⟨?_, ?_, ?_, ?_, ?_, ?_, ?_⟩ <;> first | ((rw [(hb1.alloc (by have := hb1.size; have := HS0.out; omega) _).cell (by simp; try omega)]; assumption)) | exact (hb1.alloc (by have := hb1.size; have := HS0.out; omega) _ : Below _ _ _))
      | go_keep)
    (first
      | (go_at_call_of 134 (Value.agg #[.int .i64 W, .int .i64 H, .slice (some ⟨b, o, none⟩) n c]); refine (HKA.out _ ?_).mono ?_; rotate_left 1; rintro e w' ⟨rfl, hb1⟩; rotate_left 1; (simp [*]))
      | (go_at_call_of 134 (Value.agg #[.int .i64 W, .int .i64 H, .slice (some ⟨b', o', none⟩) n c']); refine (HKB.out _ ?_).mono ?_; rotate_left 1; rintro e w' ⟨rfl, hb1⟩; rotate_left 1; (simp [*]))
      | ((go_at_call 77; refine (first_zeros _ 0 2 2 (by omega) _ ?_).mono ?_; rotate_left 1; rintro e w' ⟨rfl, rfl⟩; rotate_left 1; (intro j hj; match j, hj with | 0, _ => simp [go_sem] | 1, _ => simp [go_sem]))))
  have hb2 : Below (w.heap.size + 3) W0 (w'.alloc (.cells #[.int .i64 0, .int .i64 0] 26)) := hb1.alloc (by have := hb1.size; have := HS0.out; omega) _
  obtain ⟨W1, hW1⟩ : ∃ W1, w'.alloc (.cells #[.int .i64 0, .int .i64 0] 26) = W1 := ⟨_, rfl⟩
  rw [hW1] at hb2 ⊢
  clear hW1
  have a0' := (hb2.cell (p := ⟨w.heap.size, 0, none⟩) (by show w.heap.size < _; omega)).trans a0
  have a1' := (hb2.cell (p := ⟨w.heap.size, 1, none⟩) (by show w.heap.size < _; omega)).trans a1
  have a2' := (hb2.cell (p := ⟨w.heap.size, 2, none⟩) (by show w.heap.size < _; omega)).trans a2
  have c0' := (hb2.cell (p := ⟨w.heap.size + 1, 0, none⟩) (by show w.heap.size + 1 < _; omega)).trans c0
  have c1' := (hb2.cell (p := ⟨w.heap.size + 1, 1, none⟩) (by show w.heap.size + 1 < _; omega)).trans c1
  have c2' := (hb2.cell (p := ⟨w.heap.size + 1, 2, none⟩) (by show w.heap.size + 1 < _; omega)).trans c2
  have eW : ((W : Int) != W) = false := by simp
  have eH : ((H : Int) != H) = false := by simp
  have HS3 : w.heap.size + 3 ≤ W0.heap.size := by have := HS0.out; omega
  have hR2 : Below (w.heap.size + 3) W0 W1.drew := hb2.drew
  go_upto_region 6 with fail
  go_cut [7, 8] (fun s7 s8 wx => GridsMade w W0 W H n ks js s7 s8 wx)
  case first =>
   have hb3 := hb2
   have hz3 := hb3.size
   go_region_held3 (fun w' => w'.cell? ⟨w.heap.size, 0, none⟩ = some (.int .i64 W) ∧ w'.cell? ⟨w.heap.size, 1, none⟩ = some (.int .i64 H) ∧ w'.cell? ⟨w.heap.size, 2, none⟩ = some (.slice (some ⟨b, o, none⟩) n c) ∧
      w'.cell? ⟨w.heap.size + 1, 0, none⟩ = some (.int .i64 W) ∧ w'.cell? ⟨w.heap.size + 1, 1, none⟩ = some (.int .i64 H) ∧ w'.cell? ⟨w.heap.size + 1, 2, none⟩ = some (.slice (some ⟨b', o', none⟩) n c') ∧ Blw (w.heap.size + 3) W0 w')
    ((go_split_ands; refine ⟨?_, ?_, ?_, ?_, ?_, ?_, ?_⟩ <;> first
      | (with_reducible refine Eq.trans (Below.cell (B := w.heap.size + 3) (w := W0) ?_ (by first | (simp; done) | (simp; omega))) (by with_reducible assumption); (repeat (first | (with_reducible exact hb3) | (with_reducible refine below_alloc ?_ HS3 _) | (with_reducible refine Below.drew ?_) | (with_reducible refine Below.setCell ?_ (by dsimp only; omega) _))); done)
      | (show Below _ _ _; (repeat (first | (with_reducible exact hb3) | (with_reducible refine below_alloc ?_ HS3 _) | (with_reducible refine Below.drew ?_) | (with_reducible refine Below.setCell ?_ (by dsimp only; omega) _))); done)))
    (first
      | (go_at_call_of 135 (Value.agg #[.int .i64 W, .int .i64 H, .slice (some ⟨b, o, none⟩) n c]); refine (HGA.out _ ?_).mono ?_; rotate_left 1; rintro e wA ⟨ga, rfl, hga, hra, hba, hb3⟩; (obtain ⟨hcc, hff⟩ := bcell hba); (have hz3 := hb3.size); (have hls := hba.size); (try simp at hls); (try have hqW10 : W1.heap.size < wA.heap.size := by omega); (try have hqW11 : W1.heap.size + 1 < wA.heap.size := by omega); rotate_left 1; (simp [*]))
      | (go_at_call_of 135 (Value.agg #[.int .i64 W, .int .i64 H, .slice (some ⟨b', o', none⟩) n c']); refine (HGB.out _ ?_).mono ?_; rotate_left 1; rintro e wB ⟨gb, rfl, hgb, hrb, hbb, hb3⟩; (obtain ⟨hcc, hff⟩ := bcell hbb); (have hz3 := hb3.size); (have hls := hbb.size); (try simp at hls); (try have hqW10 : W1.heap.size < wB.heap.size := by omega); (try have hqW11 : W1.heap.size + 1 < wB.heap.size := by omega); (try have hqwA0 : wA.heap.size < wB.heap.size := by omega); (try have hqwA1 : wA.heap.size + 1 < wB.heap.size := by omega); rotate_left 1; (simp [*])))
   all_goals go_wp2_with fail
   all_goals go_meet
   all_goals first | (with_reducible exact made_00_7 hb2 HS3 hba hga hra hbb hgb hrb hb3) | (with_reducible exact made_00_8 hb2 HS3 hba hga hra hbb hgb hrb hb3) | (with_reducible exact made_01_7 hb2 HS3 hba hga hra hbb hgb hrb hb3) | (with_reducible exact made_01_8 hb2 HS3 hba hga hra hbb hgb hrb hb3) | (with_reducible exact made_02_7 hb2 HS3 hba hga hra hbb hgb hrb hb3) | (with_reducible exact made_02_8 hb2 HS3 hba hga hra hbb hgb hrb hb3) | (with_reducible exact made_10_7 hb2 HS3 hba hga hra hbb hgb hrb hb3) | (with_reducible exact made_10_8 hb2 HS3 hba hga hra hbb hgb hrb hb3) | (with_reducible exact made_11_7 hb2 HS3 hba hga hra hbb hgb hrb hb3) | (with_reducible exact made_11_8 hb2 HS3 hba hga hra hbb hgb hrb hb3) | (with_reducible exact made_20_7 hb2 HS3 hba hga hra hbb hgb hrb hb3) | (with_reducible exact made_20_8 hb2 HS3 hba hga hra hbb hgb hrb hb3)
  case rest =>
    obtain ⟨g7, g8, ga, gb, rfl, rfl, hGA, hGB, hRA, hRB, l7, l8, hbc⟩ := hcut
    obtain ⟨q0, q1, q2⟩ := hGA
    have hGA1 := q1
    obtain ⟨r0, r1, r2⟩ := hGB
    have hbw := hbc.size
    have hS3 := HS0.out
    have z0' := (hbc.cell (p := ⟨w.heap.size + 1 + 1, 0, none⟩) (by show w.heap.size + 1 + 1 < _; omega)).trans z0
    have z1' := (hbc.cell (p := ⟨w.heap.size + 1 + 1, 1, none⟩) (by show w.heap.size + 1 + 1 < _; omega)).trans z1
    have z2' := (hbc.cell (p := ⟨w.heap.size + 1 + 1, 2, none⟩) (by show w.heap.size + 1 + 1 < _; omega)).trans z2
    have zf' : ∀ j, wc.frozen? ⟨w.heap.size + 1 + 1, j, none⟩ = false := fun j => (hbc.frozen (p := ⟨w.heap.size + 1 + 1, j, none⟩) (by show w.heap.size + 1 + 1 < _; omega)).trans (zf j)
    have hN : W * H = n := by have := HRA.out.area; exact_mod_cast this
    have KP := Lib.hid (callsIn_wide.1 (painted_added W H (by have := HRA.out.wid; omega) (by have := HRA.out.hei; omega) g7 g8 wc (fun p => ks[p.2 * W + p.1]?.getD 0 + js[p.2 * W + p.1]?.getD 0) (fun p => HSUM.out _) (fun p W1 hp h1 => by
        have hlt := idx_lt hp.1 hp.2 hN
        have hsz := h1.size
        have e1 : ((p.2 : Int) * (W : Int) + (p.1 : Int)).toNat = p.2 * W + p.1 := by
          have : ((p.2 : Int) * (W : Int) + (p.1 : Int)) = ((p.2 * W + p.1 : Nat) : Int) := by push_cast; rfl
          rw [this]; rfl
        have e2 : (p.2 : Int) * (W : Int) = ((p.2 * W : Nat) : Int) := by push_cast; rfl
        have hW := HRA.out.wid
        have hH := HRA.out.hei
        have hsm := HRA.out.small
        have b1 := HRA.out.sizes _ hlt
        have b2 := HRB.out.sizes _ hlt
        have m1 : p.2 * W ≤ 64 * 64 := Nat.mul_le_mul (by omega) (by omega)
        exact added1_any W H ga n n gb n n g7 g8 p.1 p.2 _ _ (by omega) (by omega) (by omega) (by omega) (by omega) (by omega) W1 (by omega) (by omega) (by omega) (by omega) (by have := hRA.lt; omega) (by have := hRB.lt; omega)
          ⟨(h1.cell (p := ⟨g7, 0, none⟩) l7).trans q0, (h1.cell (p := ⟨g7, 1, none⟩) l7).trans q1, (h1.cell (p := ⟨g7, 2, none⟩) l7).trans q2⟩
          ⟨(h1.cell (p := ⟨g8, 0, none⟩) l8).trans r0, (h1.cell (p := ⟨g8, 1, none⟩) l8).trans r1, (h1.cell (p := ⟨g8, 2, none⟩) l8).trans r2⟩
          (by rw [e1]; exact (hRA.below h1 hRA.lt).cells _ hlt) (by rw [e1]; exact (hRB.below h1 hRB.lt).cells _ hlt))))
    have HN := Lib.hid hN
    have HRA' := Lib.hid hRA
    clear hN hRA hRB q1 q2 r0 r1 r2 z0 z1 z2 zf a0 a1 a2 c0 c1 c2 a0' a1' a2' c0' c1' c2'
    have q1 := hGA1
    go_wp2_with ((go_at_call 138; refine KP.out.mono ?_; rintro e w5 ⟨g, rfl, hown5, hb5⟩
                  have s0 : w5.cell? ⟨w.heap.size + 1 + 1, 0, none⟩ = some (.int .i64 0) := (hb5.cell (p := ⟨w.heap.size + 1 + 1, 0, none⟩) (by show w.heap.size + 1 + 1 < _; omega)).trans z0'
                  have s1 : w5.cell? ⟨w.heap.size + 1 + 1, 1, none⟩ = some (.int .i64 0) := (hb5.cell (p := ⟨w.heap.size + 1 + 1, 1, none⟩) (by show w.heap.size + 1 + 1 < _; omega)).trans z1'
                  have s2 : w5.cell? ⟨w.heap.size + 1 + 1, 2, none⟩ = some (.slice none 0 0) := (hb5.cell (p := ⟨w.heap.size + 1 + 1, 2, none⟩) (by show w.heap.size + 1 + 1 < _; omega)).trans z2'
                  have f0 : w5.frozen? ⟨w.heap.size + 1 + 1, 0, none⟩ = false := (hb5.frozen (p := ⟨w.heap.size + 1 + 1, 0, none⟩) (by show w.heap.size + 1 + 1 < _; omega)).trans (zf' 0)
                  have f1 : w5.frozen? ⟨w.heap.size + 1 + 1, 1, none⟩ = false := (hb5.frozen (p := ⟨w.heap.size + 1 + 1, 1, none⟩) (by show w.heap.size + 1 + 1 < _; omega)).trans (zf' 1)
                  have f2 : w5.frozen? ⟨w.heap.size + 1 + 1, 2, none⟩ = false := (hb5.frozen (p := ⟨w.heap.size + 1 + 1, 2, none⟩) (by show w.heap.size + 1 + 1 < _; omega)).trans (zf' 2)))
    have hN := HN.out
    have hsz5 := hb5.size
    have hg5 : wc.heap.size ≤ g ∧ g < w5.heap.size := hown5.lt g rfl
    rw [hN] at hown5
    refine bodyPost_ret (v := .tuple #[.agg #[.int .i64 W, .int .i64 H, .slice (some ⟨g, 0, none⟩) n n], .int .i64 0]) (by simp [results, Tryz.results65, go_sem, s0, s1, s2, hN]) rfl ⟨g, rfl, ?_, ?_, ?_⟩
    · simp; omega
    · intro j hj
      refine owns_cell (ownsRow_setCell_below (ownsRow_setCell_below (ownsRow_setCell_below hown5 (by dsimp only; omega) _) (by dsimp only; omega) _) (by dsimp only; omega) _) ?_
      rw [List.getElem?_map, placesTo_get W (H * W) j (by rw [Nat.mul_comm H W, hN]; exact hj), Option.map_some]
      have e : j / W * W + j % W = j := by rw [Nat.mul_comm]; exact Nat.div_add_mod j W
      simp only [e]
    · exact (((HB0.out.trans (hbc.mono (by omega))).trans (hb5.mono (by omega))).setCell (p := ⟨w.heap.size + 1 + 1, 0, none⟩) (by dsimp only; omega) _ |>.setCell (p := ⟨w.heap.size + 1 + 1, 1, none⟩) (by dsimp only; omega) _).setCell (p := ⟨w.heap.size + 1 + 1, 2, none⟩) (by dsimp only; omega) _
end Go.Proofs.YtpmjiifdnnhecaaGreatDoor
