/-
  Contracts of Peak, of the reference for a right map and of the program for every map.
-/
import Derived.Test.YtlnhgplloaiiiaaGreatDoorCZa
import Derived.Test.YtlnhgplloaiiiaaGreatDoorCZk
namespace Go.Proofs.YtlnhgplloaiiiaaGreatDoor
open Go.RowKit
set_option linter.unusedVariables false
set_option linter.unusedSimpArgs false

/-- The first index of the greatest integer among the first m. -/
def pkTo (ks : List Int) : Nat → Nat
  | 0 => 0
  | m + 1 => if ks[pkTo ks m]?.getD 0 < ks[m]?.getD 0 then m else pkTo ks m

theorem pkTo_lt (ks : List Int) : ∀ m, 1 ≤ m → pkTo ks m < m
  | 0, h => by omega
  | m + 1, _ => by
    unfold pkTo
    split
    · omega
    · rcases Nat.eq_zero_or_pos m with rfl | hm
      · simp [pkTo]
      · have := pkTo_lt ks m hm; omega

theorem peakTo_pk (W : Nat) (ks : List Int) (hW : 0 < W) : ∀ m, peakTo W ks (placesTo W m) = (pkTo ks m % W, pkTo ks m / W)
  | 0 => by simp [placesTo, peakTo, pkTo]
  | m + 1 => by
    have e : placesTo W (m + 1) = placesTo W m ++ [(m % W, m / W)] := by simp [placesTo, List.range_succ]
    have hi : ∀ j : Nat, j / W * W + j % W = j := fun j => by rw [Nat.mul_comm]; exact Nat.div_add_mod j W
    rw [e, peakTo_snoc, peakTo_pk W ks hW m]
    unfold peak1
    dsimp only
    rw [hi, hi, pkTo]
    split <;> rfl

theorem order_gt {x y : Nat} {k l : Int} (hx : Smp x k) (hy : Smp y l) : (Ieee.single.order x y == some .gt) = decide (l < k) := by
  rw [hx.order hy]
  by_cases h : l < k
  · rw [cmp_gt_of h, decide_eq_true h]; rfl
  · rw [decide_eq_false h]
    have : compare k l ≠ .gt := by
      show compareOfLessAndEq _ _ ≠ _
      unfold compareOfLessAndEq
      split
      · simp
      · split
        · simp
        · omega
    cases hc : compare k l <;> simp_all

theorem results_tmp_row {P : Program} {fn : Func} {s p : Tmp} {ty : TypeId} (h : fn.results = #[.tmp s, .cell p ty]) (tmps : Array Value) (w : World) (g : Nat) (t : TypeId) (cs : Array Value) (fr : Nat × Nat) (d : TypeDesc)
    (hp : tmps.getD p undef = .pointer (some ⟨g, 0, none⟩)) (hg : w.heap[g]? = some (.cells cs t fr))
    (hu : P.underlying ty = some d) (hd : (match d with | .struct _ | .array _ _ => true | _ => false) = true) (hi : (P.info? ty).map (·.size) = some cs.size) :
    (results fn tmps).run P w = .ok (.tuple #[tmps.getD s undef, .agg cs]) w := by
  have hp' : tmps[p]?.getD undef = .pointer (some ⟨g, 0, none⟩) := by simpa using hp
  simp [results, h, hp', asAddr, Sem.run_bind, Result.andThen, run_loadVar_row w g t ty cs fr d hg hu hd hi]

set_option maxRecDepth 100000 in
set_option maxHeartbeats 3200000 in
theorem refPeak_any (W H : Nat) (b o n c : Nat) (xs : List Nat) (ks : List Int) (w : World) (hw : RightMap w W H b o n xs ks) (hb : b < w.heap.size) :
    Calls Tryz.prog 38 #[.agg #[.int .i64 W, .int .i64 H, .slice (some ⟨b, o, none⟩) n c]] w fun e w' =>
      e = .returned (.tuple #[.float .f32 (xs[pkTo ks n]?.getD 0), .agg #[.int .i64 ((pkTo ks n % W : Nat) : Int), .int .i64 ((pkTo ks n / W : Nat) : Int)]]) ∧ Below w.heap.size w w' := by
  have hWd := hw.wid
  have hHt := hw.hei
  have hN : W * H = n := by have := hw.area; exact_mod_cast this
  have hn1 : 1 ≤ n := by rw [← hN]; exact Nat.mul_pos (by omega) (by omega)
  have hsm := hw.small
  have HW := Lib.hid hw
  clear hw hN
  obtain ⟨W0, hW0⟩ : ∃ W0, (w.alloc (.cells #[.int .i64 W, .int .i64 H, .slice (some ⟨b, o, none⟩) n c] 48)).alloc (.cells #[.int .i64 0, .int .i64 0] 50) = W0 := ⟨_, rfl⟩
  have hB0 : Below w.heap.size w W0 := by rw [← hW0]; exact ((Below.refl _ w).alloc (Nat.le_refl _) _).alloc (by simp) _
  have hS0 : W0.heap.size = w.heap.size + 2 := by rw [← hW0]; simp
  have bM0 : W0.heap[w.heap.size]? = some (.cells #[.int .i64 W, .int .i64 H, .slice (some ⟨b, o, none⟩) n c] 48 (0, 0)) := by rw [← hW0]; exact blk_alloc_other (blk_alloc_new _ _) _
  have bP0 : W0.heap[w.heap.size + 1]? = some (.cells #[.int .i64 0, .int .i64 0] 50 (0, 0)) := by rw [← hW0]; exact blk_alloc_new1 _ _ _
  have HB0 := Lib.hid hB0
  have HS0 := Lib.hid hS0
  have HBM := Lib.hid bM0
  have HBP := Lib.hid bP0
  clear hB0 hS0 bM0 bP0
  go_enter Tryz.func38, Tryz.ntmps38
  go_upto_region 3 with fail
  try rw [hW0]
  clear hW0
  go_loopw [4, 5] (fun av iv wr => ∃ k : Nat, 1 ≤ k ∧ k ≤ n ∧ iv = .int .i64 k ∧ av = .int .i64 (pkTo ks k) ∧ Below W0.heap.size W0 wr) (fun _ i _ => n - (intOf i).toNat)
  case atStart => exact ⟨1, Nat.le_refl _, hn1, rfl, by simp [pkTo], Below.refl _ _⟩
  case round =>
    obtain ⟨k, hk1, hk, rfl, rfl, hnx⟩ := hrel
    have hsz := hnx.size
    have hS0 := HS0.out
    have bM := (hnx.block w.heap.size (by omega)).trans HBM.out
    have bP := (hnx.block (w.heap.size + 1) (by omega)).trans HBP.out
    have c0 : wr.cell? ⟨w.heap.size, 0, none⟩ = some (.int .i64 W) := by rw [cell_of_row wr _ 0 _ _ (0, 0) bM]; rfl
    have c2 : wr.cell? ⟨w.heap.size, 2, none⟩ = some (.slice (some ⟨b, o, none⟩) n c) := by rw [cell_of_row wr _ 2 _ _ (0, 0) bM]; rfl
    have hpl := pkTo_lt ks k hk1
    obtain ⟨p, hp⟩ : ∃ p, pkTo ks k = p := ⟨_, rfl⟩
    rw [hp] at hpl ⊢
    have hcp : wr.cell? ⟨b, o + p, none⟩ = some (.float .f32 (xs[p]?.getD 0)) := (hnx.cell (p := ⟨b, o + p, none⟩) (by show b < _; omega)).trans ((HB0.out.cell (p := ⟨b, o + p, none⟩) hb).trans (HW.out.cells p (by omega)))
    have hp0 : (0 : Int) ≤ (p : Int) := by omega
    have hpn : (p : Int) < (n : Int) := by omega
    by_cases hlt : k < n
    · have hck : wr.cell? ⟨b, o + k, none⟩ = some (.float .f32 (xs[k]?.getD 0)) := (hnx.cell (p := ⟨b, o + k, none⟩) (by show b < _; omega)).trans ((HB0.out.cell (p := ⟨b, o + k, none⟩) hb).trans (HW.out.cells k hlt))
      have hgt := order_gt (HW.out.smps k hlt) (HW.out.smps p (by omega))
      have h4 : (k : Int) < (n : Int) := by omega
      have h5 : (0 : Int) ≤ (k : Int) := by omega
      have hnext : pkTo ks (k + 1) = if ks[p]?.getD 0 < ks[k]?.getD 0 then k else p := by rw [pkTo, hp]
      have HNX := Lib.hid hnext
      have HNW := Lib.hid hnx
      have HP := Lib.hid hp
      clear hnext hnx hp bM bP
      by_cases hg : ks[p]?.getD 0 < ks[k]?.getD 0
      · rw [decide_eq_true hg] at hgt
        have hgt' : (FloatKind.f32.format.order (xs[k]?.getD 0) (xs[p]?.getD 0) == some .gt) = true := hgt
        have HG := Lib.hid hg
        clear hg hgt
        go_wp2_with fail
        go_quiet (fail)
        go_wp2
        go_roundw
        case rel => exact ⟨k + 1, by omega, by omega, by go_num, by rw [HNX.out, if_pos HG.out], below_drewN HNW.out _⟩
        case measure => simp [intOf]; omega
      · rw [decide_eq_false hg] at hgt
        have hgt' : (FloatKind.f32.format.order (xs[k]?.getD 0) (xs[p]?.getD 0) == some .gt) = false := hgt
        have HG := Lib.hid hg
        clear hg hgt
        go_wp2_with fail
        go_quiet (fail)
        go_wp2
        go_roundw
        case rel => exact ⟨k + 1, by omega, by omega, by go_num, by rw [HNX.out, if_neg (by have := HG.out; omega)], below_drewN HNW.out _⟩
        case measure => simp [intOf]; omega
    · obtain rfl : k = n := by omega
      have hWn : ¬ (W = 0) := by omega
      have hWi : ¬ ((W : Int) = 0) := by omega
      have eR : (p : Int).tmod (W : Int) = ((p % W : Nat) : Int) := by rw [Int.tmod_eq_emod_of_nonneg (by omega)]; rfl
      have eQ : (p : Int).tdiv (W : Int) = ((p / W : Nat) : Int) := by rw [Int.tdiv_eq_ediv_of_nonneg (by omega)]; rfl
      have hq : p / W ≤ p := Nat.div_le_self _ _
      have hr : p % W ≤ p := Nat.mod_le _ _
      have HBPW := Lib.hid bP
      have HNW := Lib.hid hnx
      have HP := Lib.hid hp
      have p0 : wr.cell? ⟨w.heap.size + 1, 0, none⟩ = some (.int .i64 0) := by rw [cell_of_row wr _ 0 _ _ (0, 0) bP]; rfl
      have p1 : wr.cell? ⟨w.heap.size + 1, 1, none⟩ = some (.int .i64 0) := by rw [cell_of_row wr _ 1 _ _ (0, 0) bP]; rfl
      have q0 : wr.frozen? ⟨w.heap.size + 1, 0, none⟩ = false := by simp [World.frozen?, bP]
      have q1 : wr.frozen? ⟨w.heap.size + 1, 1, none⟩ = false := by simp [World.frozen?, bP]
      clear hnx hp bM bP
      obtain ⟨dq, hdq⟩ : ∃ dq, p / W = dq := ⟨_, rfl⟩
      obtain ⟨dr, hdr⟩ : ∃ dr, p % W = dr := ⟨_, rfl⟩
      rw [hdq] at eQ hq
      rw [hdr] at eR hr
      have wQ : IntKind.wrap .i64 (dq : Int) = (dq : Int) := IntWalk.i64_in _ (by omega)
      have wR : IntKind.wrap .i64 (dr : Int) = (dr : Int) := IntWalk.i64_in _ (by omega)
      have nb : ¬ (b = w.heap.size + 1) := by omega
      have nb' : ¬ (w.heap.size + 1 = b) := by omega
      have HDQ := Lib.hid hdq
      have HDR := Lib.hid hdr
      clear hdq hdr
      go_wp2_with fail
      go_region_held3 (fun w' => w'.cell? ⟨w.heap.size, 0, none⟩ = some (.int .i64 W) ∧ w'.cell? ⟨w.heap.size, 2, none⟩ = some (.slice (some ⟨b, o, none⟩) k c) ∧ w'.cell? ⟨b, o + p, none⟩ = some (.float .f32 (xs[p]?.getD 0)))
        (go_keep)
        (fail)
      all_goals
        go_wp2_with fail
        obtain ⟨WF, hWF⟩ : ∃ WF, ((wr.setCell ⟨w.heap.size + 1, 0, none⟩ (.int .i64 dr)).setCell ⟨w.heap.size + 1, 1, none⟩ (.int .i64 dq)).drew = WF := ⟨_, rfl⟩
        have rF : WF.heap[w.heap.size + 1]? = some (.cells #[.int .i64 dr, .int .i64 dq] 50 (0, 0)) := by rw [← hWF]; exact blk_set2 HBPW.out _ _
        have bF : Below w.heap.size w WF := by
          rw [← hWF]
          exact (((HB0.out.trans (HNW.out.mono (by omega))).setCell (p := ⟨w.heap.size + 1, 0, none⟩) (by show w.heap.size ≤ w.heap.size + 1; omega) _).setCell (p := ⟨w.heap.size + 1, 1, none⟩) (by show w.heap.size ≤ w.heap.size + 1; omega) _).drew
        rw [hWF]
        refine bodyPost_ret (v := .tuple #[.float .f32 (xs[p]?.getD 0), .agg #[.int .i64 dr, .int .i64 dq]]) (results_tmp_row Tryz.results38 _ _ (w.heap.size + 1) 50 _ (0, 0) _ rfl rF Tryz.underlying50 rfl (by kernel_rfl)) rfl ⟨?_, bF⟩
        rw [HP.out, HDR.out, HDQ.out]

set_option maxRecDepth 100000 in
set_option maxHeartbeats 3200000 in
theorem peak_bad (W H : Int) (a : Option Addr) (n c : Nat) (r : Int) (hr0 : r ≠ 0) (w : World)
    (hC : ∀ w1 : World, Below w.heap.size w w1 → Calls Tryz.prog 41 #[.agg #[.int .i64 W, .int .i64 H, .slice a n c]] w1 fun e w' => e = .returned (.int .i64 r) ∧ Below w1.heap.size w1 w') :
    Calls Tryz.prog 34 #[.agg #[.int .i64 W, .int .i64 H, .slice a n c]] w fun e w' =>
      e = .returned (.tuple #[.float .f32 0, .agg #[.int .i64 0, .int .i64 0], .int .i64 r]) ∧ Below w.heap.size w w' := by
  have e0 : (r != 0) = true := by simp [hr0]
  obtain ⟨W0, hW0⟩ : ∃ W0, (w.alloc (.cells #[.int .i64 W, .int .i64 H, .slice a n c] 54)).alloc (.cells #[.int .i64 0, .int .i64 0] 50) = W0 := ⟨_, rfl⟩
  have hB0 : Below w.heap.size w W0 := by rw [← hW0]; exact ((Below.refl _ w).alloc (Nat.le_refl _) _).alloc (by simp) _
  have hS0 : W0.heap.size = w.heap.size + 2 := by rw [← hW0]; simp
  have a0 : W0.cell? ⟨w.heap.size, 0, none⟩ = some (.int .i64 W) := by rw [← hW0]; simp [go_sem]
  have a1 : W0.cell? ⟨w.heap.size, 1, none⟩ = some (.int .i64 H) := by rw [← hW0]; simp [go_sem]
  have a2 : W0.cell? ⟨w.heap.size, 2, none⟩ = some (.slice a n c) := by rw [← hW0]; simp [go_sem]
  have bP0 : W0.heap[w.heap.size + 1]? = some (.cells #[.int .i64 0, .int .i64 0] 50 (0, 0)) := by rw [← hW0]; exact blk_alloc_new1 _ _ _
  have HC := Lib.hid (hC W0 hB0)
  have HB0 := Lib.hid hB0
  have HBP := Lib.hid bP0
  clear hr0 hC hB0 bP0
  go_enter Tryz.func34, Tryz.ntmps34
  go_upto_region 1 with fail
  try rw [hW0]
  clear hW0
  go_wp2_with (first
    | ((go_at_call 41; refine HC.out.mono ?_; rintro e w1 ⟨rfl, hb1⟩
        have hs1 := hb1.size
        have bP := (hb1.block (w.heap.size + 1) (by omega)).trans HBP.out
        have q0 : w1.frozen? ⟨w.heap.size + 1, 0, none⟩ = false := by simp [World.frozen?, bP]
        have q1 : w1.frozen? ⟨w.heap.size + 1, 1, none⟩ = false := by simp [World.frozen?, bP]
        have p0 : w1.cell? ⟨w.heap.size + 1, 0, none⟩ = some (.int .i64 0) := by rw [cell_of_row w1 _ 0 _ _ (0, 0) bP]; rfl
        have p1 : w1.cell? ⟨w.heap.size + 1, 1, none⟩ = some (.int .i64 0) := by rw [cell_of_row w1 _ 1 _ _ (0, 0) bP]; rfl
        have HBPW := Lib.hid bP
        have HB1 := Lib.hid hb1
        clear bP hb1)))
  obtain ⟨WF, hWF⟩ : ∃ WF, ((w1.setCell ⟨w.heap.size + 1, 0, none⟩ (.int .i64 0)).setCell ⟨w.heap.size + 1, 1, none⟩ (.int .i64 0)) = WF := ⟨_, rfl⟩
  have rF : WF.heap[w.heap.size + 1]? = some (.cells #[.int .i64 0, .int .i64 0] 50 (0, 0)) := by rw [← hWF]; exact blk_set2 HBPW.out _ _
  have bF : Below w.heap.size w WF := by
    rw [← hWF]
    exact ((HB0.out.trans (HB1.out.mono (by omega))).setCell (p := ⟨w.heap.size + 1, 0, none⟩) (by show w.heap.size ≤ w.heap.size + 1; omega) _).setCell (p := ⟨w.heap.size + 1, 1, none⟩) (by show w.heap.size ≤ w.heap.size + 1; omega) _
  rw [hWF]
  exact bodyPost_ret (v := .tuple #[.float .f32 0, .agg #[.int .i64 0, .int .i64 0], .int .i64 r]) (results_tmp_row_tmp Tryz.results34 _ _ (w.heap.size + 1) 50 _ (0, 0) _ rfl rF Tryz.underlying50 rfl (by kernel_rfl)) rfl ⟨rfl, bF⟩
end Go.Proofs.YtlnhgplloaiiiaaGreatDoor
