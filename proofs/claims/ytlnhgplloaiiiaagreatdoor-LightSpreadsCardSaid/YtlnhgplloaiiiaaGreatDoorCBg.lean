/-
  Contracts of Peak, of the reference for a right map and of the program for every map.
-/
import Derived.Test.YtlnhgplloaiiiaaGreatDoorCBf
import Derived.Test.YtlnhgplloaiiiaaGreatDoorCZk
import Derived.Deep.AppendLies
import Derived.Deep.RegionHeldLaw
import Derived.Deep.RegionLaw
namespace Go.Proofs.YtlnhgplloaiiiaaGreatDoor
open Go.RowKit
set_option linter.unusedVariables false
set_option linter.unusedSimpArgs false

/-- The first index of the greatest integer among the first m. -/
def pkTo (ks : List Int) : Nat → Nat
  | 0 => 0
  | m + 1 => if ks[pkTo ks m]?.getD 0 < ks[m]?.getD 0 then m else pkTo ks m

theorem pkTo_lt (ks : List Int) : ∀ m, 1 ≤ m → pkTo ks m < m
  | 0, h => by omega
  | m + 1, _ => by
    unfold pkTo
    split
    · omega
    · rcases Nat.eq_zero_or_pos m with rfl | hm
      · simp [pkTo]
      · have := pkTo_lt ks m hm; omega

theorem peakTo_pk (W : Nat) (ks : List Int) (hW : 0 < W) : ∀ m, peakTo W ks (placesTo W m) = (pkTo ks m % W, pkTo ks m / W)
  | 0 => by simp [placesTo, peakTo, pkTo]
  | m + 1 => by
    have e : placesTo W (m + 1) = placesTo W m ++ [(m % W, m / W)] := by simp [placesTo, List.range_succ]
    have hi : ∀ j : Nat, j / W * W + j % W = j := fun j => by rw [Nat.mul_comm]; exact Nat.div_add_mod j W
    rw [e, peakTo_snoc, peakTo_pk W ks hW m]
    unfold peak1
    dsimp only
    rw [hi, hi, pkTo]
    split <;> rfl

theorem order_gt {x y : Nat} {k l : Int} (hx : Smp x k) (hy : Smp y l) : (Ieee.single.order x y == some .gt) = decide (l < k) := by
  rw [hx.order hy]
  by_cases h : l < k
  · rw [cmp_gt_of h, decide_eq_true h]; rfl
  · rw [decide_eq_false h]
    have : compare k l ≠ .gt := by
      show compareOfLessAndEq _ _ ≠ _
      unfold compareOfLessAndEq
      split
      · simp
      · split
        · simp
        · omega
    cases hc : compare k l <;> simp_all

theorem results_tmp_row {P : Program} {fn : Func} {s p : Tmp} {ty : TypeId} (h : fn.results = #[.tmp s, .cell p ty]) (tmps : Array Value) (w : World) (g : Nat) (t : TypeId) (cs : Array Value) (fr : Nat × Nat) (d : TypeDesc)
    (hp : tmps.getD p undef = .pointer (some ⟨g, 0, none⟩)) (hg : w.heap[g]? = some (.cells cs t fr))
    (hu : P.underlying ty = some d) (hd : (match d with | .struct _ | .array _ _ => true | _ => false) = true) (hi : (P.info? ty).map (·.size) = some cs.size) :
    (results fn tmps).run P w = .ok (.tuple #[tmps.getD s undef, .agg cs]) w := by
  have hp' : tmps[p]?.getD undef = .pointer (some ⟨g, 0, none⟩) := by simpa using hp
  simp [results, h, hp', asAddr, Sem.run_bind, Result.andThen, run_loadVar_row w g t ty cs fr d hg hu hd hi]

set_option maxRecDepth 100000 in
set_option maxHeartbeats 3200000 in
theorem refPeak_any (W H : Nat) (b o n c : Nat) (xs : List Nat) (ks : List Int) (w : World) (hw : RightMap w W H b o n xs ks) (hb : b < w.heap.size) :
    Calls Tryz.prog 38 #[.agg #[.int .i64 W, .int .i64 H, .slice (some ⟨b, o, none⟩) n c]] w fun e w' =>
      e = .returned (.tuple #[.float .f32 (xs[pkTo ks n]?.getD 0), .agg #[.int .i64 ((pkTo ks n % W : Nat) : Int), .int .i64 ((pkTo ks n / W : Nat) : Int)]]) ∧ Below w.heap.size w w' := by
  have hWd := hw.wid
  have hHt := hw.hei
  have hN : W * H = n := by have := hw.area; exact_mod_cast this
  have hn1 : 1 ≤ n := by rw [← hN]; exact Nat.mul_pos (by omega) (by omega)
  have hsm := hw.small
  have HW := Lib.hid hw
  clear hw hN
  obtain ⟨W0, hW0⟩ : ∃ W0, (w.alloc (.cells #[.int .i64 W, .int .i64 H, .slice (some ⟨b, o, none⟩) n c] 48)).alloc (.cells #[.int .i64 0, .int .i64 0] 50) = W0 := ⟨_, rfl⟩
  have hB0 : Below w.heap.size w W0 := by rw [← hW0]; exact ((Below.refl _ w).alloc (Nat.le_refl _) _).alloc (by simp) _
  have hS0 : W0.heap.size = w.heap.size + 2 := by rw [← hW0]; simp
  have bM0 : W0.heap[w.heap.size]? = some (.cells #[.int .i64 W, .int .i64 H, .slice (some ⟨b, o, none⟩) n c] 48 (0, 0)) := by rw [← hW0]; exact blk_alloc_other (blk_alloc_new _ _) _
  have bP0 : W0.heap[w.heap.size + 1]? = some (.cells #[.int .i64 0, .int .i64 0] 50 (0, 0)) := by rw [← hW0]; exact blk_alloc_new1 _ _ _
  have HB0 := Lib.hid hB0
  have HS0 := Lib.hid hS0
  have HBM := Lib.hid bM0
  have HBP := Lib.hid bP0
  clear hB0 hS0 bM0 bP0
  go_enter Tryz.func38, Tryz.ntmps38
  go_upto_region 3 with fail
  try rw [hW0]
  clear hW0
  go_loopw [4, 5] (fun av iv wr => ∃ k : Nat, 1 ≤ k ∧ k ≤ n ∧ iv = .int .i64 k ∧ av = .int .i64 (pkTo ks k) ∧ Below W0.heap.size W0 wr) (fun _ i _ => n - (intOf i).toNat)
  case atStart => exact ⟨1, Nat.le_refl _, hn1, rfl, by simp [pkTo], Below.refl _ _⟩
  case round =>
    obtain ⟨k, hk1, hk, rfl, rfl, hnx⟩ := hrel
    have hsz := hnx.size
    have hS0 := HS0.out
    have bM := (hnx.block w.heap.size (by omega)).trans HBM.out
    have bP := (hnx.block (w.heap.size + 1) (by omega)).trans HBP.out
    have c0 : wr.cell? ⟨w.heap.size, 0, none⟩ = some (.int .i64 W) := by rw [cell_of_row wr _ 0 _ _ (0, 0) bM]; rfl
    have c2 : wr.cell? ⟨w.heap.size, 2, none⟩ = some (.slice (some ⟨b, o, none⟩) n c) := by rw [cell_of_row wr _ 2 _ _ (0, 0) bM]; rfl
    have hpl := pkTo_lt ks k hk1
    obtain ⟨p, hp⟩ : ∃ p, pkTo ks k = p := ⟨_, rfl⟩
    rw [hp] at hpl ⊢
    have hcp : wr.cell? ⟨b, o + p, none⟩ = some (.float .f32 (xs[p]?.getD 0)) := (hnx.cell (p := ⟨b, o + p, none⟩) (by show b < _; omega)).trans ((HB0.out.cell (p := ⟨b, o + p, none⟩) hb).trans (HW.out.cells p (by omega)))
    have hp0 : (0 : Int) ≤ (p : Int) := by omega
    have hpn : (p : Int) < (n : Int) := by omega
    by_cases hlt : k < n
    · have hck : wr.cell? ⟨b, o + k, none⟩ = some (.float .f32 (xs[k]?.getD 0)) := (hnx.cell (p := ⟨b, o + k, none⟩) (by show b < _; omega)).trans ((HB0.out.cell (p := ⟨b, o + k, none⟩) hb).trans (HW.out.cells k hlt))
      have hgt := order_gt (HW.out.smps k hlt) (HW.out.smps p (by omega))
      have h4 : (k : Int) < (n : Int) := by omega
      have h5 : (0 : Int) ≤ (k : Int) := by omega
      have hnext : pkTo ks (k + 1) = if ks[p]?.getD 0 < ks[k]?.getD 0 then k else p := by rw [pkTo, hp]
      have HNX := Lib.hid hnext
      have HNW := Lib.hid hnx
      have HP := Lib.hid hp
      clear hnext hnx hp bM bP
      by_cases hg : ks[p]?.getD 0 < ks[k]?.getD 0
      · rw [decide_eq_true hg] at hgt
        have hgt' : (FloatKind.f32.format.order (xs[k]?.getD 0) (xs[p]?.getD 0) == some .gt) = true := hgt
        have HG := Lib.hid hg
        clear hg hgt
        go_wp2_with fail
        go_quiet (fail)
        go_wp2
        go_roundw
        case rel => exact ⟨k + 1, by omega, by omega, by go_num, by rw [HNX.out, if_pos HG.out], below_drewN HNW.out _⟩
        case measure => simp [intOf]; omega
      · rw [decide_eq_false hg] at hgt
        have hgt' : (FloatKind.f32.format.order (xs[k]?.getD 0) (xs[p]?.getD 0) == some .gt) = false := hgt
        have HG := Lib.hid hg
        clear hg hgt
        go_wp2_with fail
        go_quiet (fail)
        go_wp2
        go_roundw
        case rel => exact ⟨k + 1, by omega, by omega, by go_num, by rw [HNX.out, if_neg (by have := HG.out; omega)], below_drewN HNW.out _⟩
        case measure => simp [intOf]; omega
    · obtain rfl : k = n := by omega
      have hWn : ¬ (W = 0) := by omega
      have hWi : ¬ ((W : Int) = 0) := by omega
      have eR : (p : Int).tmod (W : Int) = ((p % W : Nat) : Int) := by rw [Int.tmod_eq_emod_of_nonneg (by omega)]; rfl
      have eQ : (p : Int).tdiv (W : Int) = ((p / W : Nat) : Int) := by rw [Int.tdiv_eq_ediv_of_nonneg (by omega)]; rfl
      have hq : p / W ≤ p := Nat.div_le_self _ _
      have hr : p % W ≤ p := Nat.mod_le _ _
      have HBPW := Lib.hid bP
      have HNW := Lib.hid hnx
      have HP := Lib.hid hp
      have p0 : wr.cell? ⟨w.heap.size + 1, 0, none⟩ = some (.int .i64 0) := by rw [cell_of_row wr _ 0 _ _ (0, 0) bP]; rfl
      have p1 : wr.cell? ⟨w.heap.size + 1, 1, none⟩ = some (.int .i64 0) := by rw [cell_of_row wr _ 1 _ _ (0, 0) bP]; rfl
      have q0 : wr.frozen? ⟨w.heap.size + 1, 0, none⟩ = false := by simp [World.frozen?, bP]
      have q1 : wr.frozen? ⟨w.heap.size + 1, 1, none⟩ = false := by simp [World.frozen?, bP]
      clear hnx hp bM bP
      obtain ⟨dq, hdq⟩ : ∃ dq, p / W = dq := ⟨_, rfl⟩
      obtain ⟨dr, hdr⟩ : ∃ dr, p % W = dr := ⟨_, rfl⟩
      rw [hdq] at eQ hq
      rw [hdr] at eR hr
      have wQ : IntKind.wrap .i64 (dq : Int) = (dq : Int) := IntWalk.i64_in _ (by omega)
      have wR : IntKind.wrap .i64 (dr : Int) = (dr : Int) := IntWalk.i64_in _ (by omega)
      have nb : ¬ (b = w.heap.size + 1) := by omega
      have nb' : ¬ (w.heap.size + 1 = b) := by omega
      have HDQ := Lib.hid hdq
      have HDR := Lib.hid hdr
      clear hdq hdr
      go_wp2_with fail
      go_region_held3 (fun w' => w'.cell? ⟨w.heap.size, 0, none⟩ = some (.int .i64 W) ∧ w'.cell? ⟨w.heap.size, 2, none⟩ = some (.slice (some ⟨b, o, none⟩) k c) ∧ w'.cell? ⟨b, o + p, none⟩ = some (.float .f32 (xs[p]?.getD 0)))
        (go_keep)
        (fail)
      all_goals
        go_wp2_with fail
        obtain ⟨WF, hWF⟩ : ∃ WF, ((wr.setCell ⟨w.heap.size + 1, 0, none⟩ (.int .i64 dr)).setCell ⟨w.heap.size + 1, 1, none⟩ (.int .i64 dq)).drew = WF := ⟨_, rfl⟩
        have rF : WF.heap[w.heap.size + 1]? = some (.cells #[.int .i64 dr, .int .i64 dq] 50 (0, 0)) := by rw [← hWF]; exact blk_set2 HBPW.out _ _
        have bF : Below w.heap.size w WF := by
          rw [← hWF]
          exact (((HB0.out.trans (HNW.out.mono (by omega))).setCell (p := ⟨w.heap.size + 1, 0, none⟩) (by show w.heap.size ≤ w.heap.size + 1; omega) _).setCell (p := ⟨w.heap.size + 1, 1, none⟩) (by show w.heap.size ≤ w.heap.size + 1; omega) _).drew
        rw [hWF]
        refine bodyPost_ret (v := .tuple #[.float .f32 (xs[p]?.getD 0), .agg #[.int .i64 dr, .int .i64 dq]]) (results_tmp_row Tryz.results38 _ _ (w.heap.size + 1) 50 _ (0, 0) _ rfl rF Tryz.underlying50 rfl (by kernel_rfl)) rfl ⟨?_, bF⟩
        rw [HP.out, HDR.out, HDQ.out]

set_option maxRecDepth 100000 in
set_option maxHeartbeats 3200000 in
theorem peak_bad (W H : Int) (a : Option Addr) (n c : Nat) (r : Int) (hr0 : r ≠ 0) (w : World)
    (hC : ∀ w1 : World, Below w.heap.size w w1 → Calls Tryz.prog 41 #[.agg #[.int .i64 W, .int .i64 H, .slice a n c]] w1 fun e w' => e = .returned (.int .i64 r) ∧ Below w1.heap.size w1 w') :
    Calls Tryz.prog 34 #[.agg #[.int .i64 W, .int .i64 H, .slice a n c]] w fun e w' =>
      e = .returned (.tuple #[.float .f32 0, .agg #[.int .i64 0, .int .i64 0], .int .i64 r]) ∧ Below w.heap.size w w' := by
  have e0 : (r != 0) = true := by simp [hr0]
  obtain ⟨W0, hW0⟩ : ∃ W0, (w.alloc (.cells #[.int .i64 W, .int .i64 H, .slice a n c] 54)).alloc (.cells #[.int .i64 0, .int .i64 0] 50) = W0 := ⟨_, rfl⟩
  have hB0 : Below w.heap.size w W0 := by rw [← hW0]; exact ((Below.refl _ w).alloc (Nat.le_refl _) _).alloc (by simp) _
  have hS0 : W0.heap.size = w.heap.size + 2 := by rw [← hW0]; simp
  have a0 : W0.cell? ⟨w.heap.size, 0, none⟩ = some (.int .i64 W) := by rw [← hW0]; simp [go_sem]
  have a1 : W0.cell? ⟨w.heap.size, 1, none⟩ = some (.int .i64 H) := by rw [← hW0]; simp [go_sem]
  have a2 : W0.cell? ⟨w.heap.size, 2, none⟩ = some (.slice a n c) := by rw [← hW0]; simp [go_sem]
  have bP0 : W0.heap[w.heap.size + 1]? = some (.cells #[.int .i64 0, .int .i64 0] 50 (0, 0)) := by rw [← hW0]; exact blk_alloc_new1 _ _ _
  have HC := Lib.hid (hC W0 hB0)
  have HB0 := Lib.hid hB0
  have HBP := Lib.hid bP0
  clear hr0 hC hB0 bP0
  go_enter Tryz.func34, Tryz.ntmps34
  go_upto_region 1 with fail
  try rw [hW0]
  clear hW0
  go_wp2_with (first
    | ((go_at_call 41; refine HC.out.mono ?_; rintro e w1 ⟨rfl, hb1⟩
        have hs1 := hb1.size
        have bP := (hb1.block (w.heap.size + 1) (by omega)).trans HBP.out
        have q0 : w1.frozen? ⟨w.heap.size + 1, 0, none⟩ = false := by simp [World.frozen?, bP]
        have q1 : w1.frozen? ⟨w.heap.size + 1, 1, none⟩ = false := by simp [World.frozen?, bP]
        have p0 : w1.cell? ⟨w.heap.size + 1, 0, none⟩ = some (.int .i64 0) := by rw [cell_of_row w1 _ 0 _ _ (0, 0) bP]; rfl
        have p1 : w1.cell? ⟨w.heap.size + 1, 1, none⟩ = some (.int .i64 0) := by rw [cell_of_row w1 _ 1 _ _ (0, 0) bP]; rfl
        have HBPW := Lib.hid bP
        have HB1 := Lib.hid hb1
        clear bP hb1)))
  obtain ⟨WF, hWF⟩ : ∃ WF, ((w1.setCell ⟨w.heap.size + 1, 0, none⟩ (.int .i64 0)).setCell ⟨w.heap.size + 1, 1, none⟩ (.int .i64 0)) = WF := ⟨_, rfl⟩
  have rF : WF.heap[w.heap.size + 1]? = some (.cells #[.int .i64 0, .int .i64 0] 50 (0, 0)) := by rw [← hWF]; exact blk_set2 HBPW.out _ _
  have bF : Below w.heap.size w WF := by
    rw [← hWF]
    exact ((HB0.out.trans (HB1.out.mono (by omega))).setCell (p := ⟨w.heap.size + 1, 0, none⟩) (by show w.heap.size ≤ w.heap.size + 1; omega) _).setCell (p := ⟨w.heap.size + 1, 1, none⟩) (by show w.heap.size ≤ w.heap.size + 1; omega) _
  rw [hWF]
  exact bodyPost_ret (v := .tuple #[.float .f32 0, .agg #[.int .i64 0, .int .i64 0], .int .i64 r]) (results_tmp_row_tmp Tryz.results34 _ _ (w.heap.size + 1) 50 _ (0, 0) _ rfl rF Tryz.underlying50 rfl (by kernel_rfl)) rfl ⟨rfl, bF⟩
end Go.Proofs.YtlnhgplloaiiiaaGreatDoor

/-
  What Flipped and Turned answer for a map with an error; two maps without anything are the same.
-/
namespace Go.Proofs.YtlnhgplloaiiiaaGreatDoor
open Go.RowKit
set_option linter.unusedVariables false
set_option linter.unusedSimpArgs false


set_option maxRecDepth 100000 in
set_option maxHeartbeats 3200000 in
theorem flipped_bad (W H : Int) (a : Option Addr) (n c : Nat) (r : Int) (hr0 : r ≠ 0) (w : World)
    (hC : ∀ w1 : World, Below w.heap.size w w1 → Calls Tryz.prog 41 #[.agg #[.int .i64 W, .int .i64 H, .slice a n c]] w1 fun e w' => e = .returned (.int .i64 r) ∧ Below w1.heap.size w1 w') :
    Calls Tryz.prog 50 #[.agg #[.int .i64 W, .int .i64 H, .slice a n c]] w fun e w' =>
      e = .returned (.tuple #[.agg #[.int .i64 0, .int .i64 0, .slice none 0 0], .int .i64 r]) ∧ Below w.heap.size w w' := by
  have e0 : (r != 0) = true := by simp [hr0]
  obtain ⟨W0, hW0⟩ : ∃ W0, (w.alloc (.cells #[.int .i64 W, .int .i64 H, .slice a n c] 54)).alloc (.cells #[.int .i64 0, .int .i64 0, .slice none 0 0] 54) = W0 := ⟨_, rfl⟩
  have hB0 : Below w.heap.size w W0 := by rw [← hW0]; exact ((Below.refl _ w).alloc (Nat.le_refl _) _).alloc (by simp) _
  have hS0 : W0.heap.size = w.heap.size + 2 := by rw [← hW0]; simp
  have a0 : W0.cell? ⟨w.heap.size, 0, none⟩ = some (.int .i64 W) := by rw [← hW0]; simp [go_sem]
  have a1 : W0.cell? ⟨w.heap.size, 1, none⟩ = some (.int .i64 H) := by rw [← hW0]; simp [go_sem]
  have a2 : W0.cell? ⟨w.heap.size, 2, none⟩ = some (.slice a n c) := by rw [← hW0]; simp [go_sem]
  have bP0 : W0.heap[w.heap.size + 1]? = some (.cells #[.int .i64 0, .int .i64 0, .slice none 0 0] 54 (0, 0)) := by rw [← hW0]; exact blk_alloc_new1 _ _ _
  have HC := Lib.hid (hC W0 hB0)
  have HB0 := Lib.hid hB0
  have HBP := Lib.hid bP0
  clear hr0 hC hB0 bP0
  go_enter Tryz.func50, Tryz.ntmps50
  go_upto_region 1 with fail
  try rw [hW0]
  clear hW0
  go_wp2_with (first
    | ((go_at_call 41; refine HC.out.mono ?_; rintro e w1 ⟨rfl, hb1⟩
        have hs1 := hb1.size
        have bP := (hb1.block (w.heap.size + 1) (by omega)).trans HBP.out
        have q0 : w1.frozen? ⟨w.heap.size + 1, 0, none⟩ = false := by simp [World.frozen?, bP]
        have q1 : w1.frozen? ⟨w.heap.size + 1, 1, none⟩ = false := by simp [World.frozen?, bP]
        have q2 : w1.frozen? ⟨w.heap.size + 1, 2, none⟩ = false := by simp [World.frozen?, bP]
        have p0 : w1.cell? ⟨w.heap.size + 1, 0, none⟩ = some (.int .i64 0) := by rw [cell_of_row w1 _ 0 _ _ (0, 0) bP]; rfl
        have p1 : w1.cell? ⟨w.heap.size + 1, 1, none⟩ = some (.int .i64 0) := by rw [cell_of_row w1 _ 1 _ _ (0, 0) bP]; rfl
        have p2 : w1.cell? ⟨w.heap.size + 1, 2, none⟩ = some (.slice none 0 0) := by rw [cell_of_row w1 _ 2 _ _ (0, 0) bP]; rfl
        have HBPW := Lib.hid bP
        have HB1 := Lib.hid hb1
        clear bP hb1)))
  obtain ⟨WF, hWF⟩ : ∃ WF, (((w1.setCell ⟨w.heap.size + 1, 0, none⟩ (.int .i64 0)).setCell ⟨w.heap.size + 1, 1, none⟩ (.int .i64 0)).setCell ⟨w.heap.size + 1, 2, none⟩ (.slice none 0 0)) = WF := ⟨_, rfl⟩
  have rF : WF.heap[w.heap.size + 1]? = some (.cells #[.int .i64 0, .int .i64 0, .slice none 0 0] 54 (0, 0)) := by rw [← hWF]; exact blk_set3 HBPW.out _ _ _
  have bF : Below w.heap.size w WF := by
    rw [← hWF]
    exact (((HB0.out.trans (HB1.out.mono (by omega))).setCell (p := ⟨w.heap.size + 1, 0, none⟩) (by show w.heap.size ≤ w.heap.size + 1; omega) _).setCell (p := ⟨w.heap.size + 1, 1, none⟩) (by show w.heap.size ≤ w.heap.size + 1; omega) _).setCell (p := ⟨w.heap.size + 1, 2, none⟩) (by show w.heap.size ≤ w.heap.size + 1; omega) _
  rw [hWF]
  exact bodyPost_ret (v := .tuple #[.agg #[.int .i64 0, .int .i64 0, .slice none 0 0], .int .i64 r]) (results_row_tmp Tryz.results50 _ _ (w.heap.size + 1) 54 _ (0, 0) _ rfl rF Tryz.underlying54 rfl (by kernel_rfl)) rfl ⟨rfl, bF⟩

set_option maxRecDepth 100000 in
set_option maxHeartbeats 3200000 in
theorem turned_bad (W H : Int) (a : Option Addr) (n c : Nat) (r : Int) (hr0 : r ≠ 0) (w : World)
    (hC : ∀ w1 : World, Below w.heap.size w w1 → Calls Tryz.prog 41 #[.agg #[.int .i64 W, .int .i64 H, .slice a n c]] w1 fun e w' => e = .returned (.int .i64 r) ∧ Below w1.heap.size w1 w') :
    Calls Tryz.prog 51 #[.agg #[.int .i64 W, .int .i64 H, .slice a n c]] w fun e w' =>
      e = .returned (.tuple #[.agg #[.int .i64 0, .int .i64 0, .slice none 0 0], .int .i64 r]) ∧ Below w.heap.size w w' := by
  have e0 : (r != 0) = true := by simp [hr0]
  obtain ⟨W0, hW0⟩ : ∃ W0, (w.alloc (.cells #[.int .i64 W, .int .i64 H, .slice a n c] 54)).alloc (.cells #[.int .i64 0, .int .i64 0, .slice none 0 0] 54) = W0 := ⟨_, rfl⟩
  have hB0 : Below w.heap.size w W0 := by rw [← hW0]; exact ((Below.refl _ w).alloc (Nat.le_refl _) _).alloc (by simp) _
  have hS0 : W0.heap.size = w.heap.size + 2 := by rw [← hW0]; simp
  have a0 : W0.cell? ⟨w.heap.size, 0, none⟩ = some (.int .i64 W) := by rw [← hW0]; simp [go_sem]
  have a1 : W0.cell? ⟨w.heap.size, 1, none⟩ = some (.int .i64 H) := by rw [← hW0]; simp [go_sem]
  have a2 : W0.cell? ⟨w.heap.size, 2, none⟩ = some (.slice a n c) := by rw [← hW0]; simp [go_sem]
  have bP0 : W0.heap[w.heap.size + 1]? = some (.cells #[.int .i64 0, .int .i64 0, .slice none 0 0] 54 (0, 0)) := by rw [← hW0]; exact blk_alloc_new1 _ _ _
  have HC := Lib.hid (hC W0 hB0)
  have HB0 := Lib.hid hB0
  have HBP := Lib.hid bP0
  clear hr0 hC hB0 bP0
  go_enter Tryz.func51, Tryz.ntmps51
  go_upto_region 1 with fail
  try rw [hW0]
  clear hW0
  go_wp2_with (first
    | ((go_at_call 41; refine HC.out.mono ?_; rintro e w1 ⟨rfl, hb1⟩
        have hs1 := hb1.size
        have bP := (hb1.block (w.heap.size + 1) (by omega)).trans HBP.out
        have q0 : w1.frozen? ⟨w.heap.size + 1, 0, none⟩ = false := by simp [World.frozen?, bP]
        have q1 : w1.frozen? ⟨w.heap.size + 1, 1, none⟩ = false := by simp [World.frozen?, bP]
        have q2 : w1.frozen? ⟨w.heap.size + 1, 2, none⟩ = false := by simp [World.frozen?, bP]
        have p0 : w1.cell? ⟨w.heap.size + 1, 0, none⟩ = some (.int .i64 0) := by rw [cell_of_row w1 _ 0 _ _ (0, 0) bP]; rfl
        have p1 : w1.cell? ⟨w.heap.size + 1, 1, none⟩ = some (.int .i64 0) := by rw [cell_of_row w1 _ 1 _ _ (0, 0) bP]; rfl
        have p2 : w1.cell? ⟨w.heap.size + 1, 2, none⟩ = some (.slice none 0 0) := by rw [cell_of_row w1 _ 2 _ _ (0, 0) bP]; rfl
        have HBPW := Lib.hid bP
        have HB1 := Lib.hid hb1
        clear bP hb1)))
  obtain ⟨WF, hWF⟩ : ∃ WF, (((w1.setCell ⟨w.heap.size + 1, 0, none⟩ (.int .i64 0)).setCell ⟨w.heap.size + 1, 1, none⟩ (.int .i64 0)).setCell ⟨w.heap.size + 1, 2, none⟩ (.slice none 0 0)) = WF := ⟨_, rfl⟩
  have rF : WF.heap[w.heap.size + 1]? = some (.cells #[.int .i64 0, .int .i64 0, .slice none 0 0] 54 (0, 0)) := by rw [← hWF]; exact blk_set3 HBPW.out _ _ _
  have bF : Below w.heap.size w WF := by
    rw [← hWF]
    exact (((HB0.out.trans (HB1.out.mono (by omega))).setCell (p := ⟨w.heap.size + 1, 0, none⟩) (by show w.heap.size ≤ w.heap.size + 1; omega) _).setCell (p := ⟨w.heap.size + 1, 1, none⟩) (by show w.heap.size ≤ w.heap.size + 1; omega) _).setCell (p := ⟨w.heap.size + 1, 2, none⟩) (by show w.heap.size ≤ w.heap.size + 1; omega) _
  rw [hWF]
  exact bodyPost_ret (v := .tuple #[.agg #[.int .i64 0, .int .i64 0, .slice none 0 0], .int .i64 r]) (results_row_tmp Tryz.results51 _ _ (w.heap.size + 1) 54 _ (0, 0) _ rfl rF Tryz.underlying54 rfl (by kernel_rfl)) rfl ⟨rfl, bF⟩
end Go.Proofs.YtlnhgplloaiiiaaGreatDoor

/-
  Contract of the reference's Made, the map with integers, where no integer is large.
-/
namespace Go.Proofs.YtlnhgplloaiiiaaGreatDoor
open Go.RowKit
set_option linter.unusedVariables false
set_option linter.unusedSimpArgs false

/-- A call of one function with one value, as one step of a region that draws. -/
theorem step_func {P : Program} {ops : Array Oper} {o : Oper} {a : Act} {w : World} {K : Act → World → Prop} {Q : Exit → Act → World → Prop} {E : Prop}
    (hg : o.guard = none) (f : FuncId) (x : Operand) (T : TypeId) (ho : o.op = Op.call { callee := Callee.value (.func f), args := #[x], argTypes := #[T] })
    (v r : Value) (hx : a.eval x = v) (hr : (callFunc f #[v]).run P w = .ok (.enter f #[v]) w) (h : Calls P f #[v] w fun e w' => e = .returned r ∧ w = w') (hK : K (a.put o.dst r) w) :
    if Region.wanted o (yielded ops a.tmps) = true then Oper.wp P o a w K Q else E := by
  have hw : Region.wanted o (yielded ops a.tmps) = true := by simp [Region.wanted, hg]
  rw [if_pos hw]
  unfold Oper.wp
  have hf : a.eval (.func f) = .func (.func f) #[] #[] := rfl
  simp [execOp, ho, resolve, invoke, hx, hf, hr, Deferred.ofValue, Result.andThen]
  refine h.mono ?_
  rintro e w' ⟨rfl, rfl⟩
  exact hK

theorem blk_last {w : World} {B : Nat} {T : TypeId} {x y z : Value} (h : w.heap[B]? = some (.cells #[x, y, z] T (0, 0))) (c : Value) : (w.setCell ⟨B, 2, none⟩ c).heap[B]? = some (.cells #[x, y, c] T (0, 0)) := by
  simp only [World.setCell, Array.getElem?_modify, if_true, h, Option.map_some]
  simp
theorem setCell_other {w : World} {B C i : Nat} {c : Value} (h : B ≠ C) : (w.setCell ⟨B, i, none⟩ c).heap[C]? = w.heap[C]? := by
  simp [World.setCell, Array.getElem?_modify, h]

theorem isLarge_no (k : Int) (hk : k.natAbs ≤ 16384) (w : World) :
    Calls Tryz.prog 142 #[.int .i64 k] w fun e w' => e = .returned (.bool false) ∧ w = w' := by
  have t1 : ¬ (16384 < k) := by omega
  have t2 : ¬ (k < -16384) := by omega
  clear hk
  go_enter Tryz.func142, Tryz.ntmps142
  go_wp2
  go_ret
  exact ⟨rfl, rfl⟩

set_option maxRecDepth 100000 in
set_option maxHeartbeats 6400000 in
theorem made_any (W H : Int) (a : Option Addr) (n c : Nat) (ls : List Int) (hl : ls.length = n) (hm : n ≤ 4096) (hs : ∀ j, j < n → (ls[j]?.getD 0).natAbs ≤ 16384) (w : World)
    (hc : ∀ j, j < n → ∃ b o, a = some ⟨b, o, none⟩ ∧ b < w.heap.size ∧ w.cell? ⟨b, o + j, none⟩ = some (.int .i64 (ls[j]?.getD 0))) :
    Calls Tryz.prog 122 #[.int .i64 W, .int .i64 H, .slice a n c] w fun e w' =>
      ∃ v, e = .returned (.tuple #[.agg #[.int .i64 W, .int .i64 H, v], .int .i64 0]) ∧ w'.ownsRow w.heap.size 23 1 v n (ls.map (fun k => Value.float .f32 (smpOf k))) ∧ Below w.heap.size w w' := by
  obtain ⟨i0, hi, hz0, hz1, hz2⟩ := info_parts Tryz.infoF32
  have HL := Lib.hid hl
  have HS := Lib.hid hs
  have HC := Lib.hid hc
  clear hl hs hc
  go_enter Tryz.func122, Tryz.ntmps122
  go_wp2
  obtain ⟨W0, hW0⟩ : ∃ W0, (w.alloc (.cells #[.int .i64 0, .int .i64 0, .slice none 0 0] 48)).alloc (.cells #[.int .i64 W, .int .i64 H, .slice none 0 0] 48) = W0 := ⟨_, rfl⟩
  have hB0 : Below w.heap.size w W0 := by rw [← hW0]; exact ((Below.refl _ w).alloc (Nat.le_refl _) _).alloc (by simp) _
  have hS0 : W0.heap.size = w.heap.size + 2 := by rw [← hW0]; simp
  have bR : W0.heap[w.heap.size]? = some (.cells #[.int .i64 0, .int .i64 0, .slice none 0 0] 48 (0, 0)) := by rw [← hW0]; exact blk_alloc_other (blk_alloc_new _ _) _
  have bM : W0.heap[w.heap.size + 1]? = some (.cells #[.int .i64 W, .int .i64 H, .slice none 0 0] 48 (0, 0)) := by rw [← hW0]; exact blk_alloc_new1 _ _ _
  rw [hW0]
  have HB0 := Lib.hid hB0
  have HBR := Lib.hid bR
  have HBM := Lib.hid bM
  clear hW0 hB0 bR bM
  go_loopw [9] (fun iv wr => ∃ (k : Nat) (v : Value), k ≤ n ∧ iv = .int .i64 k ∧ wr.heap[w.heap.size + 1]? = some (.cells #[.int .i64 W, .int .i64 H, v] 48 (0, 0)) ∧ wr.heap[w.heap.size]? = some (.cells #[.int .i64 0, .int .i64 0, .slice none 0 0] 48 (0, 0)) ∧
      wr.ownsRow (w.heap.size + 2) 23 1 v k ((ls.take k).map (fun k => Value.float .f32 (smpOf k))) ∧ Below w.heap.size w wr ∧ w.heap.size + 2 ≤ wr.heap.size) (fun i _ => n - (intOf i).toNat)
  case atStart => exact ⟨0, _, Nat.zero_le _, rfl, HBM.out, HBR.out, World.ownsRow_nil _ _ _ _, HB0.out, by omega⟩
  case round =>
    obtain ⟨k, v, hk, rfl, bM, bR, hown, hnx, hsz⟩ := hrel
    obtain ⟨av, cv, rfl⟩ := owns_slice hown
    by_cases hlt : k < n
    · obtain ⟨b, o, rfl, hb, hcell0⟩ := HC.out k hlt
      have hcell : wr.cell? ⟨b, o + k, none⟩ = some (.int .i64 (ls[k]?.getD 0)) := (hnx.cell (p := ⟨b, o + k, none⟩) hb).trans hcell0
      have KI := Lib.hid (isLarge_no _ (HS.out k hlt))
      have KS := Lib.hid (refSample_any (ls[k]?.getD 0) (Nat.lt_of_le_of_lt (HS.out k hlt) (by decide)))
      obtain ⟨lk, hlk⟩ : ∃ lk, ls[k]?.getD 0 = lk := ⟨_, rfl⟩
      have HLK := Lib.hid hlk
      rw [hlk] at hcell KI KS
      have c2 : wr.cell? ⟨w.heap.size + 1, 2, none⟩ = some (.slice av k cv) := by rw [cell_of_row wr _ 2 _ _ (0, 0) bM]; rfl
      have hne : ¬ (b = w.heap.size + 1) := by omega
      have hne' : ¬ (w.heap.size + 1 = b) := by omega
      have hy1 : ¬ (w.heap.size + 1 = wr.heap.size) := by omega
      have hy2 : ¬ (wr.heap.size = w.heap.size + 1) := by omega
      have hy3 : ¬ (b = wr.heap.size) := by omega
      have hy4 : ¬ (wr.heap.size = b) := by omega
      have ca1 : ∀ o, (wr.alloc o).cell? ⟨w.heap.size + 1, 2, none⟩ = some (.slice av k cv) := fun o => (((Below.refl _ wr).alloc (Nat.le_refl _) _).cell (p := ⟨w.heap.size + 1, 2, none⟩) (by show w.heap.size + 1 < _; omega)).trans c2
      have h4 : (k : Int) < (n : Int) := by omega
      have h5 : (0 : Int) ≤ (k : Int) := by omega
      have hvb : (Value.slice av k cv).ownBlock ≠ some (w.heap.size + 1) := fun e => by have := (hown.lt _ e).1; omega
      have hvb2 : (Value.slice av k cv).ownBlock ≠ some b := fun e => by have := (hown.lt _ e).1; omega
      have hvb3 : (Value.slice av k cv).ownBlock ≠ some w.heap.size := fun e => by have := (hown.lt _ e).1; omega
      have HBM' := Lib.hid bM
      have HBR' := Lib.hid bR
      clear hcell0 hlk HC bM bR
      go_upto_region 7 with (go_at_call 142; refine (KI.out _).mono ?_; rintro e w' ⟨rfl, rfl⟩)
      go_region_law
        (first
          | (refine step_func (by rfl) 39 (.tmp 30) 3 (by rfl) _ _ (by rfl) (by kernel_rfl) (KS.out _) ?_)
          | ((refine step_append_lies _ (by rfl) (.tmp 26) (.tmp 32) 46 (by rfl) (w.heap.size + 2) 23 i0 (.float .f32 0) 1 4 Tryz.underlying46 hi hz0 hz1 hz2 (by rfl) (by omega) (.slice av k cv) k _ (by rfl) (hown.alloc _) ⟨wr.heap.size, 0, none⟩ 1 1 [.float .f32 (smpOf lk)] (by rfl) (by rfl) (cell_one_new _ _ _) (by intro u hu; simp at hu; subst hu; rfl) (by omega) (by unfold maxLen; omega) (by omega) (by simp; omega) (wr.heap.size + 1) (by simp) ?_; intro g cap w1 hown1 hgrow hat hglt
              have bM1 : w1.heap[w.heap.size + 1]? = some (.cells #[.int .i64 W, .int .i64 H, .slice av k cv] 48 (0, 0)) := (hgrow.block (w.heap.size + 1) (by simp; omega) (Ne.symm hvb)).trans ((((Below.refl _ wr).alloc (Nat.le_refl _) _).block (w.heap.size + 1) (by omega)).trans HBM'.out)
              have bR1 : w1.heap[w.heap.size]? = some (.cells #[.int .i64 0, .int .i64 0, .slice none 0 0] 48 (0, 0)) := (hgrow.block w.heap.size (by simp; omega) (Ne.symm hvb3)).trans ((((Below.refl _ wr).alloc (Nat.le_refl _) _).block w.heap.size (by omega)).trans HBR'.out)
              have c2w : w1.cell? ⟨w.heap.size + 1, 2, none⟩ = some (.slice av k cv) := by rw [cell_of_row w1 _ 2 _ _ (0, 0) bM1]; rfl
              have q2w : w1.frozen? ⟨w.heap.size + 1, 2, none⟩ = false := frozen_of_row _ _ _ _ _ bM1
              have ckw : w1.cell? ⟨b, o + k, none⟩ = some (.int .i64 lk) := (World.cell?_of_block (hgrow.block b (by simp; omega) (Ne.symm hvb2))).trans ((((Below.refl _ wr).alloc (Nat.le_refl _) _).cell (p := ⟨b, o + k, none⟩) (by show b < _; omega)).trans hcell)
              have HM1 := Lib.hid bM1
              have HR1 := Lib.hid bR1
              have HG := Lib.hid hgrow
              have HO1 := Lib.hid hown1
              clear bM1 bR1)))
      all_goals
        go_wp2_with fail
        have hS1 : wr.heap.size + 1 ≤ w1.heap.size := by have := HG.out.size; simpa using this
        have hlw := hown.lt
        have e1 : (ls.take (k + 1)).map (fun k => Value.float .f32 (smpOf k)) = (ls.take k).map (fun k => Value.float .f32 (smpOf k)) ++ [.float .f32 (smpOf lk)] := by
          rw [take_map_succ (fun k => Value.float .f32 (smpOf k)) ls k (by have := HL.out; omega) 0, HLK.out]
        have fB : Below w.heap.size w w1 := (hnx.alloc (by omega) _).drew.grown HG.out (by simp; omega) (fun j hj => by have := (hlw j hj).1; omega)
        have HE1 := Lib.hid e1
        have HFB := Lib.hid fB
        have HS1 := Lib.hid hS1
        clear e1 fB hS1 hlw
        go_roundw
        case rel => exact ⟨k + 1, _, by omega, by go_num, blk_last HM1.out _, (setCell_other (by omega)).trans HR1.out, by rw [HE1.out]; exact ownsRow_setCell_below HO1.out (by dsimp only; omega) _, HFB.out.setCell (p := ⟨w.heap.size + 1, 2, none⟩) (by show w.heap.size ≤ w.heap.size + 1; omega) _, by have := HS1.out; simp; omega⟩
        case measure => simp [intOf]; omega
    · have c0 : wr.cell? ⟨w.heap.size + 1, 0, none⟩ = some (.int .i64 W) := by rw [cell_of_row wr _ 0 _ _ (0, 0) bM]; rfl
      have c1 : wr.cell? ⟨w.heap.size + 1, 1, none⟩ = some (.int .i64 H) := by rw [cell_of_row wr _ 1 _ _ (0, 0) bM]; rfl
      have c2 : wr.cell? ⟨w.heap.size + 1, 2, none⟩ = some (.slice av k cv) := by rw [cell_of_row wr _ 2 _ _ (0, 0) bM]; rfl
      have r0 : wr.cell? ⟨w.heap.size, 0, none⟩ = some (.int .i64 0) := by rw [cell_of_row wr _ 0 _ _ (0, 0) bR]; rfl
      have r1 : wr.cell? ⟨w.heap.size, 1, none⟩ = some (.int .i64 0) := by rw [cell_of_row wr _ 1 _ _ (0, 0) bR]; rfl
      have r2 : wr.cell? ⟨w.heap.size, 2, none⟩ = some (.slice none 0 0) := by rw [cell_of_row wr _ 2 _ _ (0, 0) bR]; rfl
      have q0 : wr.frozen? ⟨w.heap.size, 0, none⟩ = false := frozen_of_row _ _ _ _ _ bR
      have q1 : wr.frozen? ⟨w.heap.size, 1, none⟩ = false := frozen_of_row _ _ _ _ _ bR
      have q2 : wr.frozen? ⟨w.heap.size, 2, none⟩ = false := frozen_of_row _ _ _ _ _ bR
      have HBR' := Lib.hid bR
      clear bM bR
      go_wp2
      obtain rfl : k = n := by omega
      obtain ⟨WF, hWF⟩ : ∃ WF, (((wr.setCell ⟨w.heap.size, 0, none⟩ (.int .i64 W)).setCell ⟨w.heap.size, 1, none⟩ (.int .i64 H)).setCell ⟨w.heap.size, 2, none⟩ (.slice av k cv)) = WF := ⟨_, rfl⟩
      have rF : WF.heap[w.heap.size]? = some (.cells #[.int .i64 W, .int .i64 H, .slice av k cv] 48 (0, 0)) := by rw [← hWF]; exact blk_set3 HBR'.out _ _ _
      have bF : Below w.heap.size w WF := by
        rw [← hWF]
        exact ((hnx.setCell (p := ⟨w.heap.size, 0, none⟩) (Nat.le_refl _) _).setCell (p := ⟨w.heap.size, 1, none⟩) (Nat.le_refl _) _).setCell (p := ⟨w.heap.size, 2, none⟩) (Nat.le_refl _) _
      have oF : WF.ownsRow w.heap.size 23 1 (.slice av k cv) k (ls.map (fun k => Value.float .f32 (smpOf k))) := by
        rw [← hWF]
        rw [List.take_of_length_le (by have := HL.out; omega)] at hown
        exact owns_base (ownsRow_setCell_below (ownsRow_setCell_below (ownsRow_setCell_below hown (by dsimp only; omega) _) (by dsimp only; omega) _) (by dsimp only; omega) _) (by omega)
      rw [hWF]
      exact bodyPost_ret (v := .tuple #[.agg #[.int .i64 W, .int .i64 H, .slice av k cv], .int .i64 0]) (results_row_tmp Tryz.results122 _ _ w.heap.size 48 _ (0, 0) _ rfl rF Tryz.underlying48 rfl (by kernel_rfl)) rfl ⟨_, rfl, oF, bF⟩
end Go.Proofs.YtlnhgplloaiiiaaGreatDoor
