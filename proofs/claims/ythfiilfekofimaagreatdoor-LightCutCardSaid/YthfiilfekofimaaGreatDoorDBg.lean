/-
  Contracts of Peak, of the reference for a right map and of the program for every map.
-/
import Derived.Test.YthfiilfekofimaaGreatDoorDBf
import Derived.Test.YthfiilfekofimaaGreatDoorDZk
import Derived.Test.YthfiilfekofimaaGreatDoorDMb
import Derived.Test.YthfiilfekofimaaGreatDoorDZh
namespace Go.Proofs.YthfiilfekofimaaGreatDoor
open Go.RowKit
set_option linter.unusedVariables false
set_option linter.unusedSimpArgs false

/-- The first index of the greatest integer among the first m. -/
def pkTo (ks : List Int) : Nat → Nat
  | 0 => 0
  | m + 1 => if ks[pkTo ks m]?.getD 0 < ks[m]?.getD 0 then m else pkTo ks m

theorem pkTo_lt (ks : List Int) : ∀ m, 1 ≤ m → pkTo ks m < m
  | 0, h => by omega
  | m + 1, _ => by
    unfold pkTo
    split
    · omega
    · rcases Nat.eq_zero_or_pos m with rfl | hm
      · simp [pkTo]
      · have := pkTo_lt ks m hm; omega

theorem peakTo_pk (W : Nat) (ks : List Int) (hW : 0 < W) : ∀ m, peakTo W ks (placesTo W m) = (pkTo ks m % W, pkTo ks m / W)
  | 0 => by simp [placesTo, peakTo, pkTo]
  | m + 1 => by
    have e : placesTo W (m + 1) = placesTo W m ++ [(m % W, m / W)] := by simp [placesTo, List.range_succ]
    have hi : ∀ j : Nat, j / W * W + j % W = j := fun j => by rw [Nat.mul_comm]; exact Nat.div_add_mod j W
    rw [e, peakTo_snoc, peakTo_pk W ks hW m]
    unfold peak1
    dsimp only
    rw [hi, hi, pkTo]
    split <;> rfl

theorem order_gt {x y : Nat} {k l : Int} (hx : Smp x k) (hy : Smp y l) : (Ieee.single.order x y == some .gt) = decide (l < k) := by
  rw [hx.order hy]
  by_cases h : l < k
  · rw [cmp_gt_of h, decide_eq_true h]; rfl
  · rw [decide_eq_false h]
    have : compare k l ≠ .gt := by
      show compareOfLessAndEq _ _ ≠ _
      unfold compareOfLessAndEq
      split
      · simp
      · split
        · simp
        · omega
    cases hc : compare k l <;> simp_all

theorem results_tmp_row {P : Program} {fn : Func} {s p : Tmp} {ty : TypeId} (h : fn.results = #[.tmp s, .cell p ty]) (tmps : Array Value) (w : World) (g : Nat) (t : TypeId) (cs : Array Value) (fr : Nat × Nat) (d : TypeDesc)
    (hp : tmps.getD p undef = .pointer (some ⟨g, 0, none⟩)) (hg : w.heap[g]? = some (.cells cs t fr))
    (hu : P.underlying ty = some d) (hd : (match d with | .struct _ | .array _ _ => true | _ => false) = true) (hi : (P.info? ty).map (·.size) = some cs.size) :
    (results fn tmps).run P w = .ok (.tuple #[tmps.getD s undef, .agg cs]) w := by
  have hp' : tmps[p]?.getD undef = .pointer (some ⟨g, 0, none⟩) := by simpa using hp
  simp [results, h, hp', asAddr, Sem.run_bind, Result.andThen, run_loadVar_row w g t ty cs fr d hg hu hd hi]

set_option maxRecDepth 100000 in
set_option maxHeartbeats 3200000 in
theorem peak_bad (W H : Int) (a : Option Addr) (n c : Nat) (r : Int) (hr0 : r ≠ 0) (w : World)
    (hC : ∀ w1 : World, Below w.heap.size w w1 → Calls Tryz.prog 67 #[.agg #[.int .i64 W, .int .i64 H, .slice a n c]] w1 fun e w' => e = .returned (.int .i64 r) ∧ Below w1.heap.size w1 w') :
    Calls Tryz.prog 29 #[.agg #[.int .i64 W, .int .i64 H, .slice a n c]] w fun e w' =>
      e = .returned (.tuple #[.float .f32 0, .agg #[.int .i64 0, .int .i64 0], .int .i64 r]) ∧ Below w.heap.size w w' := by
  have e0 : (r != 0) = true := by simp [hr0]
  obtain ⟨W0, hW0⟩ : ∃ W0, (w.alloc (.cells #[.int .i64 W, .int .i64 H, .slice a n c] 45)).alloc (.cells #[.int .i64 0, .int .i64 0] 67) = W0 := ⟨_, rfl⟩
  have hB0 : Below w.heap.size w W0 := by rw [← hW0]; exact ((Below.refl _ w).alloc (Nat.le_refl _) _).alloc (by simp) _
  have hS0 : W0.heap.size = w.heap.size + 2 := by rw [← hW0]; simp
  have a0 : W0.cell? ⟨w.heap.size, 0, none⟩ = some (.int .i64 W) := by rw [← hW0]; simp [go_sem]
  have a1 : W0.cell? ⟨w.heap.size, 1, none⟩ = some (.int .i64 H) := by rw [← hW0]; simp [go_sem]
  have a2 : W0.cell? ⟨w.heap.size, 2, none⟩ = some (.slice a n c) := by rw [← hW0]; simp [go_sem]
  have bP0 : W0.heap[w.heap.size + 1]? = some (.cells #[.int .i64 0, .int .i64 0] 67 (0, 0)) := by rw [← hW0]; exact blk_alloc_new1 _ _ _
  have HC := Lib.hid (hC W0 hB0)
  have HB0 := Lib.hid hB0
  have HBP := Lib.hid bP0
  clear hr0 hC hB0 bP0
  go_enter Tryz.func29, Tryz.ntmps29
  go_upto_region 1 with fail
  try rw [hW0]
  clear hW0
  go_wp2_with (first
    | ((go_at_call 67; refine HC.out.mono ?_; rintro e w1 ⟨rfl, hb1⟩
        have hs1 := hb1.size
        have bP := (hb1.block (w.heap.size + 1) (by omega)).trans HBP.out
        have q0 : w1.frozen? ⟨w.heap.size + 1, 0, none⟩ = false := by simp [World.frozen?, bP]
        have q1 : w1.frozen? ⟨w.heap.size + 1, 1, none⟩ = false := by simp [World.frozen?, bP]
        have p0 : w1.cell? ⟨w.heap.size + 1, 0, none⟩ = some (.int .i64 0) := by rw [cell_of_row w1 _ 0 _ _ (0, 0) bP]; rfl
        have p1 : w1.cell? ⟨w.heap.size + 1, 1, none⟩ = some (.int .i64 0) := by rw [cell_of_row w1 _ 1 _ _ (0, 0) bP]; rfl
        have HBPW := Lib.hid bP
        have HB1 := Lib.hid hb1
        clear bP hb1)))
  obtain ⟨WF, hWF⟩ : ∃ WF, ((w1.setCell ⟨w.heap.size + 1, 0, none⟩ (.int .i64 0)).setCell ⟨w.heap.size + 1, 1, none⟩ (.int .i64 0)) = WF := ⟨_, rfl⟩
  have rF : WF.heap[w.heap.size + 1]? = some (.cells #[.int .i64 0, .int .i64 0] 67 (0, 0)) := by rw [← hWF]; exact blk_set2 HBPW.out _ _
  have bF : Below w.heap.size w WF := by
    rw [← hWF]
    exact ((HB0.out.trans (HB1.out.mono (by omega))).setCell (p := ⟨w.heap.size + 1, 0, none⟩) (by show w.heap.size ≤ w.heap.size + 1; omega) _).setCell (p := ⟨w.heap.size + 1, 1, none⟩) (by show w.heap.size ≤ w.heap.size + 1; omega) _
  rw [hWF]
  exact bodyPost_ret (v := .tuple #[.float .f32 0, .agg #[.int .i64 0, .int .i64 0], .int .i64 r]) (results_tmp_row_tmp Tryz.results29 _ _ (w.heap.size + 1) 67 _ (0, 0) _ rfl rF Tryz.underlying67 rfl (by kernel_rfl)) rfl ⟨rfl, bF⟩
end Go.Proofs.YthfiilfekofimaaGreatDoor

/-
  Plain mathematics of LightCut: parts, what is covered, what is placed; their sums and peaks.
-/
namespace Go.Proofs.YthfiilfekofimaaGreatDoor
open Go.RowKit
set_option linter.unusedVariables false

/-! ### A window of a grid -/
theorem sumTo_window (n a d : Nat) (h : a + d ≤ n) (f : Nat → Int) : sumTo n (fun i => if a ≤ i ∧ i < a + d then f i else 0) = sumTo d (fun i => f (a + i)) := by
  obtain ⟨r, rfl⟩ : ∃ r, n = a + (d + r) := ⟨n - a - d, by omega⟩
  rw [sumTo_split, sumTo_split]
  have e1 : sumTo a (fun i => if a ≤ i ∧ i < a + d then f i else 0) = 0 := by
    refine (sumTo_congr fun i hi => ?_).trans (sumTo_zero a)
    rw [if_neg (by omega)]
  have e2 : sumTo r (fun i => if a ≤ a + (d + i) ∧ a + (d + i) < a + d then f (a + (d + i)) else 0) = 0 := by
    refine (sumTo_congr fun i hi => ?_).trans (sumTo_zero r)
    rw [if_neg (by omega)]
  have e3 : sumTo d (fun i => if a ≤ a + i ∧ a + i < a + d then f (a + i) else 0) = sumTo d (fun i => f (a + i)) :=
    sumTo_congr fun i hi => if_pos (by omega)
  rw [e1, e2, e3]; omega
theorem sum2_window (W H a d b e : Nat) (h : a + d ≤ W) (h' : b + e ≤ H) (f : Nat → Nat → Int) :
    sum2 W H (fun x y => if (a ≤ x ∧ x < a + d) ∧ (b ≤ y ∧ y < b + e) then f x y else 0) = sum2 d e (fun x y => f (a + x) (b + y)) := by
  unfold sum2
  have k : ∀ y, y < H → sumTo W (fun x => if (a ≤ x ∧ x < a + d) ∧ (b ≤ y ∧ y < b + e) then f x y else 0) = if b ≤ y ∧ y < b + e then sumTo d (fun x => f (a + x) y) else 0 := fun y hy => by
    by_cases hb : b ≤ y ∧ y < b + e
    · rw [if_pos hb, ← sumTo_window W a d h (fun x => f x y)]
      exact sumTo_congr fun i hi => by simp only [hb, and_true, and_self]
    · rw [if_neg hb]
      refine (sumTo_congr fun i hi => ?_).trans (sumTo_zero W)
      rw [if_neg fun hh => hb hh.2]
  rw [sumTo_congr k, sumTo_window H b e h']

/-! ### Parts, what is covered, what is placed -/
/-- The integers of a part. -/
def pieceK (W C0 DW R0 DH : Nat) (L : List Int) : List Int := (List.range (DW * DH)).map (fun j => L[(R0 + j / DW) * W + (C0 + j % DW)]?.getD 0)
theorem pieceK_len (W C0 DW R0 DH : Nat) (L : List Int) : (pieceK W C0 DW R0 DH L).length = DW * DH := by simp [pieceK]
theorem pieceK_get {W C0 DW R0 DH : Nat} {L : List Int} {j : Nat} (hj : j < DW * DH) : (pieceK W C0 DW R0 DH L)[j]?.getD 0 = L[(R0 + j / DW) * W + (C0 + j % DW)]?.getD 0 := by
  unfold pieceK; rw [List.getElem?_map, List.getElem?_range hj]; rfl
theorem pieceK_at {W C0 DW R0 DH : Nat} (L : List Int) {x y : Nat} (hx : x < DW) (hy : y < DH) : (pieceK W C0 DW R0 DH L)[y * DW + x]?.getD 0 = L[(R0 + y) * W + (C0 + x)]?.getD 0 := by
  rw [pieceK_get (by rw [Nat.mul_comm DW]; exact place_in hx hy), div_of hx, mod_of hx]
/-- What is covered: the columns before C0, and of those before C1 the rows before R. -/
def covered (C0 C1 R x y : Nat) : Prop := x < C0 ∨ (x < C1 ∧ y < R)
instance (C0 C1 R x y : Nat) : Decidable (covered C0 C1 R x y) := by unfold covered; infer_instance
/-- The integers of a map where it is covered, and 0 elsewhere. -/
def covK (W n C0 C1 R : Nat) (L : List Int) : List Int := (List.range n).map (fun j => if covered C0 C1 R (j % W) (j / W) then L[j]?.getD 0 else 0)
theorem covK_len (W n C0 C1 R : Nat) (L : List Int) : (covK W n C0 C1 R L).length = n := by simp [covK]
theorem covK_get {W n C0 C1 R : Nat} {L : List Int} {j : Nat} (hj : j < n) : (covK W n C0 C1 R L)[j]?.getD 0 = if covered C0 C1 R (j % W) (j / W) then L[j]?.getD 0 else 0 := by
  unfold covK; rw [List.getElem?_map, List.getElem?_range hj]; rfl
theorem covK_none (W n C1 : Nat) (L : List Int) : covK W n 0 C1 0 L = List.replicate n 0 := by
  refine List.ext_getElem (by simp [covK]) fun i h1 h2 => ?_
  simp [covK, covered]
theorem covK_next (W H n C0 C1 : Nat) (hn : H * W = n) (h : C0 ≤ C1) (L : List Int) : covK W n C0 C1 H L = covK W n C1 W 0 L := by
  unfold covK
  refine List.map_congr_left fun j hj => ?_
  have hj' := List.mem_range.1 hj
  have hW : 0 < W := by
    rcases Nat.eq_zero_or_pos W with h0 | h0
    · rw [h0, Nat.mul_zero] at hn; omega
    · exact h0
  have hy : j / W < H := (Nat.div_lt_iff_lt_mul hW).2 (by omega)
  have e : covered C0 C1 H (j % W) (j / W) ↔ covered C1 W 0 (j % W) (j / W) := by
    unfold covered
    generalize j % W = x at *
    generalize j / W = y at *
    omega
  simp only [e]
theorem covK_c1 (W n C0 C1 C2 : Nat) (L : List Int) : covK W n C0 C1 0 L = covK W n C0 C2 0 L := by
  unfold covK
  refine List.map_congr_left fun j hj => ?_
  have e : covered C0 C1 0 (j % W) (j / W) ↔ covered C0 C2 0 (j % W) (j / W) := by
    unfold covered
    generalize j % W = x
    generalize j / W = y
    omega
  simp only [e]
theorem covK_all (W H n C1 R : Nat) (hn : H * W = n) (L : List Int) (hl : L.length = n) : covK W n W C1 R L = L := by
  refine List.ext_getElem (by rw [covK_len, hl]) fun i h1 h2 => ?_
  have hW : 0 < W := by
    rcases Nat.eq_zero_or_pos W with h0 | h0
    · rw [h0, Nat.mul_zero] at hn; omega
    · exact h0
  have e : covered W C1 R (i % W) (i / W) := .inl (Nat.mod_lt _ hW)
  simp [covK, e, h2]
theorem covK_small {W n C0 C1 R : Nat} {L : List Int} {M : Nat} (h : ∀ j, j < n → (L[j]?.getD 0).natAbs ≤ M) {j : Nat} (hj : j < n) : ((covK W n C0 C1 R L)[j]?.getD 0).natAbs ≤ M := by
  rw [covK_get hj]
  split
  · exact h j hj
  · simp
/-- The part that is placed, added to what was covered, is what is covered then. -/
theorem placed_part {W H C0 DW R0 DH : Nat} (hC : C0 + DW ≤ W) (hR : R0 + DH ≤ H) (L : List Int) {j : Nat} (hj : j < H * W) :
    placedK DW DH C0 R0 (pieceK W C0 DW R0 DH L) (j % W, j / W) = if C0 ≤ j % W ∧ j % W < C0 + DW ∧ R0 ≤ j / W ∧ j / W < R0 + DH then L[j]?.getD 0 else 0 := by
  unfold placedK
  show (if C0 ≤ j % W ∧ j % W < C0 + DW ∧ R0 ≤ j / W ∧ j / W < R0 + DH then (pieceK W C0 DW R0 DH L)[(j / W - R0) * DW + (j % W - C0)]?.getD 0 else 0) = _
  by_cases h : C0 ≤ j % W ∧ j % W < C0 + DW ∧ R0 ≤ j / W ∧ j / W < R0 + DH
  · rw [if_pos h, if_pos h, pieceK_at L (by omega) (by omega)]
    have e1 : R0 + (j / W - R0) = j / W := by omega
    have e2 : C0 + (j % W - C0) = j % W := by omega
    rw [e1, e2, Nat.mul_comm (j / W) W, Nat.div_add_mod]
  · rw [if_neg h, if_neg h]
theorem cov_add {W H n C0 DW R0 DH : Nat} (hn : H * W = n) (hC : C0 + DW ≤ W) (hR : R0 + DH ≤ H) (L : List Int) {j : Nat} (hj : j < n) :
    (covK W n C0 (C0 + DW) R0 L)[j]?.getD 0 + placedK DW DH C0 R0 (pieceK W C0 DW R0 DH L) (j % W, j / W) = (covK W n C0 (C0 + DW) (R0 + DH) L)[j]?.getD 0 := by
  rw [placed_part hC hR L (by omega), covK_get hj, covK_get hj]
  generalize L[j]?.getD 0 = v
  generalize j % W = x
  generalize j / W = y
  by_cases h1 : covered C0 (C0 + DW) R0 x y
  · have h2 : covered C0 (C0 + DW) (R0 + DH) x y := by unfold covered at h1 ⊢; omega
    have h3 : ¬ (C0 ≤ x ∧ x < C0 + DW ∧ R0 ≤ y ∧ y < R0 + DH) := by unfold covered at h1; omega
    rw [if_pos h1, if_neg h3, if_pos h2]; omega
  · by_cases h2 : C0 ≤ x ∧ x < C0 + DW ∧ R0 ≤ y ∧ y < R0 + DH
    · have h3 : covered C0 (C0 + DW) (R0 + DH) x y := by unfold covered at h1 ⊢; omega
      rw [if_neg h1, if_pos h2, if_pos h3]; omega
    · have h3 : ¬ covered C0 (C0 + DW) (R0 + DH) x y := by unfold covered at h1 ⊢; omega
      rw [if_neg h1, if_neg h2, if_neg h3]; omega
/-- The light of what is covered grows by that of the part. -/
theorem cov_sum {W H n C0 DW R0 DH : Nat} (hn : H * W = n) (hC : C0 + DW ≤ W) (hR : R0 + DH ≤ H) (L : List Int) :
    (covK W n C0 (C0 + DW) R0 L).sum + (pieceK W C0 DW R0 DH L).sum = (covK W n C0 (C0 + DW) (R0 + DH) L).sum := by
  have e0 : ∀ R, (covK W n C0 (C0 + DW) R L).sum = sum2 W H (fun x y => if covered C0 (C0 + DW) R x y then cellK W L x y else 0) := fun R => by
    rw [sum_cells W H _ (by rw [covK_len]; exact hn.symm)]
    refine sum2_congr fun x y hx hy => ?_
    show (covK W n C0 (C0 + DW) R L)[y * W + x]?.getD 0 = _
    rw [covK_get (by rw [← hn]; exact place_in hx hy), mod_of hx, div_of hx]
    rfl
  have e1 : (pieceK W C0 DW R0 DH L).sum = sum2 W H (fun x y => if (C0 ≤ x ∧ x < C0 + DW) ∧ (R0 ≤ y ∧ y < R0 + DH) then cellK W L x y else 0) := by
    rw [sum2_window W H C0 DW R0 DH hC hR, sum_cells DW DH _ (by rw [pieceK_len, Nat.mul_comm])]
    exact sum2_congr fun x y hx hy => pieceK_at L hx hy
  rw [e0, e0, e1, ← sum2_add]
  refine sum2_congr fun x y hx hy => ?_
  generalize cellK W L x y = v
  by_cases h1 : covered C0 (C0 + DW) R0 x y
  · have h2 : covered C0 (C0 + DW) (R0 + DH) x y := by unfold covered at h1 ⊢; omega
    have h3 : ¬ ((C0 ≤ x ∧ x < C0 + DW) ∧ (R0 ≤ y ∧ y < R0 + DH)) := by unfold covered at h1; omega
    rw [if_pos h1, if_neg h3, if_pos h2]; omega
  · by_cases h2 : (C0 ≤ x ∧ x < C0 + DW) ∧ (R0 ≤ y ∧ y < R0 + DH)
    · have h3 : covered C0 (C0 + DW) (R0 + DH) x y := by unfold covered at h1 ⊢; omega
      rw [if_neg h1, if_pos h2, if_pos h3]; omega
    · have h3 : ¬ covered C0 (C0 + DW) (R0 + DH) x y := by unfold covered at h1 ⊢; omega
      rw [if_neg h1, if_neg h2, if_neg h3]; omega

/-! ### Peaks -/
theorem pkTo_max (ks : List Int) : ∀ m j, j < m → ks[j]?.getD 0 ≤ ks[pkTo ks m]?.getD 0
  | 0, j, h => by omega
  | m + 1, j, h => by
    unfold pkTo
    by_cases hj : j = m
    · subst hj; split <;> omega
    · have := pkTo_max ks m j (by omega)
      split <;> omega
/-- The greatest integer of what is covered, or the least one that there is. -/
def PeakOf (W H C0 C1 R : Nat) (L : List Int) (k : Int) : Prop :=
  (∀ x y, x < W → y < H → covered C0 C1 R x y → cellK W L x y ≤ k) ∧ (k = -16384 ∨ ∃ x y, x < W ∧ y < H ∧ covered C0 C1 R x y ∧ cellK W L x y = k)
theorem PeakOf.none (W H C1 : Nat) (L : List Int) : PeakOf W H 0 C1 0 L (-16384) :=
  ⟨fun x y _ _ h => by unfold covered at h; omega, .inl rfl⟩
theorem PeakOf.next {W H C0 C1 : Nat} {L : List Int} {k : Int} (h : PeakOf W H C0 C1 H L k) (hc : C0 ≤ C1) (C2 : Nat) : PeakOf W H C1 C2 0 L k := by
  refine ⟨fun x y hx hy hh => h.1 x y hx hy (by unfold covered at hh ⊢; omega), ?_⟩
  rcases h.2 with h2 | ⟨x, y, hx, hy, hh, e⟩
  · exact .inl h2
  · exact .inr ⟨x, y, hx, hy, by unfold covered at hh ⊢; omega, e⟩
theorem PeakOf.part {W H C0 DW R0 DH : Nat} {L : List Int} {k : Int} (h : PeakOf W H C0 (C0 + DW) R0 L k) (hC : 1 ≤ DW ∧ C0 + DW ≤ W) (hR : 1 ≤ DH ∧ R0 + DH ≤ H) :
    PeakOf W H C0 (C0 + DW) (R0 + DH) L (max k ((pieceK W C0 DW R0 DH L)[pkTo (pieceK W C0 DW R0 DH L) (DW * DH)]?.getD 0)) := by
  have hm : 1 ≤ DW * DH := Nat.mul_pos (by omega) (by omega)
  have hlt := pkTo_lt (pieceK W C0 DW R0 DH L) (DW * DH) hm
  constructor
  · intro x y hx hy hc
    by_cases h1 : covered C0 (C0 + DW) R0 x y
    · exact Int.le_trans (h.1 x y hx hy h1) (Int.le_max_left _ _)
    · have hw : C0 ≤ x ∧ x < C0 + DW ∧ R0 ≤ y ∧ y < R0 + DH := by unfold covered at hc h1; omega
      refine Int.le_trans ?_ (Int.le_max_right _ _)
      have e := pkTo_max (pieceK W C0 DW R0 DH L) (DW * DH) ((y - R0) * DW + (x - C0)) (by rw [Nat.mul_comm DW]; exact place_in (by omega) (by omega))
      rw [pieceK_at L (by omega) (by omega)] at e
      have e1 : R0 + (y - R0) = y := by omega
      have e2 : C0 + (x - C0) = x := by omega
      rw [e1, e2] at e
      exact e
  · rcases Int.le_total k ((pieceK W C0 DW R0 DH L)[pkTo (pieceK W C0 DW R0 DH L) (DW * DH)]?.getD 0) with hk | hk
    · rw [Int.max_eq_right hk]
      refine .inr ⟨C0 + pkTo (pieceK W C0 DW R0 DH L) (DW * DH) % DW, R0 + pkTo (pieceK W C0 DW R0 DH L) (DW * DH) / DW, ?_, ?_, ?_, ?_⟩
      · have := Nat.mod_lt (pkTo (pieceK W C0 DW R0 DH L) (DW * DH)) (show DW > 0 by omega); omega
      · have : pkTo (pieceK W C0 DW R0 DH L) (DW * DH) / DW < DH := (Nat.div_lt_iff_lt_mul (by omega)).2 (by rw [Nat.mul_comm DH DW]; exact hlt)
        omega
      · have := Nat.mod_lt (pkTo (pieceK W C0 DW R0 DH L) (DW * DH)) (show DW > 0 by omega)
        have : pkTo (pieceK W C0 DW R0 DH L) (DW * DH) / DW < DH := (Nat.div_lt_iff_lt_mul (by omega)).2 (by rw [Nat.mul_comm DH DW]; exact hlt)
        unfold covered; omega
      · rw [pieceK_get hlt]; rfl
    · rw [Int.max_eq_left hk]
      rcases h.2 with h2 | ⟨x, y, hx, hy, hh, e⟩
      · exact .inl h2
      · exact .inr ⟨x, y, hx, hy, by unfold covered at hh ⊢; omega, e⟩
theorem PeakOf.all {W H n C1 R : Nat} {L : List Int} {k : Int} (h : PeakOf W H W C1 R L k) (hn : H * W = n) (hn1 : 1 ≤ n) (hs : ∀ j, j < n → (L[j]?.getD 0).natAbs ≤ 16384) : k = L[pkTo L n]?.getD 0 := by
  have hlt := pkTo_lt L n hn1
  have hW : 0 < W := by
    rcases Nat.eq_zero_or_pos W with h0 | h0
    · rw [h0, Nat.mul_zero] at hn; omega
    · exact h0
  have hb := hs _ hlt
  have e : pkTo L n / W * W + pkTo L n % W = pkTo L n := by rw [Nat.mul_comm]; exact Nat.div_add_mod _ _
  have h1 := h.1 (pkTo L n % W) (pkTo L n / W) (Nat.mod_lt _ hW) ((Nat.div_lt_iff_lt_mul hW).2 (by omega)) (.inl (Nat.mod_lt _ hW))
  unfold cellK at h1
  rw [e] at h1
  rcases h.2 with h2 | ⟨x, y, hx, hy, hh, e2⟩
  · omega
  · have := pkTo_max L n (y * W + x) (by rw [← hn]; exact place_in hx hy)
    unfold cellK at e2
    omega
end Go.Proofs.YthfiilfekofimaaGreatDoor
