/-
  Plain mathematics of spreading: what each cell has behind all rounds; sums over a grid.
-/
import Derived.Test.YtfdkmmllemkogaaGreatDoorOXi
import Derived.Test.YtfdkmmllemkogaaGreatDoorOBd
import Derived.Test.YtfdkmmllemkogaaGreatDoorOZa
import Derived.Test.YtfdkmmllemkogaaGreatDoorOWv
import Derived.BigQuiet
import Derived.Test.YtfdkmmllemkogaaGreatDoorOZk
import Derived.Test.YtfdkmmllemkogaaGreatDoorOZh
import Derived.Test.YtfdkmmllemkogaaGreatDoorOZd
import Derived.Test.YtfdkmmllemkogaaGreatDoorOXk
import Derived.Deep.DrawnRows
import Derived.Deep.AppendLies
import Derived.Deep.RegionHeldLaw
import Derived.Deep.RegionLaw
namespace Go.Proofs.YtfdkmmllemkogaaGreatDoor
open Go.RowKit
set_option linter.unusedVariables false

/-! ### Sums -/
def sumTo : Nat → (Nat → Int) → Int
  | 0, _ => 0
  | n + 1, f => sumTo n f + f n
theorem sumTo_congr {n : Nat} {f g : Nat → Int} (h : ∀ i, i < n → f i = g i) : sumTo n f = sumTo n g := by
  induction n with
  | zero => rfl
  | succ n ih => simp only [sumTo]; rw [ih fun i hi => h i (by omega), h n (by omega)]
theorem sumTo_add (n : Nat) (f g : Nat → Int) : sumTo n (fun i => f i + g i) = sumTo n f + sumTo n g := by
  induction n with
  | zero => rfl
  | succ n ih => simp only [sumTo]; rw [ih]; omega
theorem sumTo_zero (n : Nat) : sumTo n (fun _ => 0) = 0 := by
  induction n with
  | zero => rfl
  | succ n ih => simp only [sumTo]; rw [ih]; rfl
theorem sumTo_split (n m : Nat) (f : Nat → Int) : sumTo (n + m) f = sumTo n f + sumTo m (fun i => f (n + i)) := by
  induction m with
  | zero => simp [sumTo]
  | succ m ih => rw [← Nat.add_assoc]; simp only [sumTo]; rw [ih]; omega
theorem sumTo_grid (H W : Nat) (f : Nat → Int) : sumTo (H * W) f = sumTo H (fun y => sumTo W (fun x => f (y * W + x))) := by
  induction H with
  | zero => simp [sumTo]
  | succ H ih => rw [Nat.succ_mul, sumTo_split, ih]; simp only [sumTo]
theorem sum_range (n : Nat) (f : Nat → Int) : ((List.range n).map f).sum = sumTo n f := by
  induction n with
  | zero => rfl
  | succ n ih => rw [List.range_succ, List.map_append, List.sum_append, ih]; simp [sumTo]
theorem sum_get (ks : List Int) : ks.sum = sumTo ks.length (fun j => ks[j]?.getD 0) := by
  have h : (List.range ks.length).map (fun j => ks[j]?.getD 0) = ks := by
    refine List.ext_getElem (by simp) fun i h1 h2 => ?_
    simp [h2]
  rw [← sum_range, h]

end Go.Proofs.YtfdkmmllemkogaaGreatDoor

/-
  Plain mathematics of spreading: the cell of each place behind all rounds, in closed form.
-/

namespace Go.Proofs.YtfdkmmllemkogaaGreatDoor
open Go.RowKit
set_option linter.unusedVariables false

theorem place_in {W H x y : Nat} (hx : x < W) (hy : y < H) : y * W + x < H * W := by
  have h5 : (y + 1) * W ≤ H * W := Nat.mul_le_mul_right W (by omega)
  rw [Nat.succ_mul] at h5
  omega
/-- The cell of a place. -/
def cellK (W : Nat) (ks : List Int) (x y : Nat) : Int := ks[y * W + x]?.getD 0
end Go.Proofs.YtfdkmmllemkogaaGreatDoor

/-
  Plain mathematics of maps: spreading in closed form; flips, turns and spreading commute, and keep sums.
-/

namespace Go.Proofs.YtfdkmmllemkogaaGreatDoor
open Go.RowKit
set_option linter.unusedVariables false

def sum2 (W H : Nat) (f : Nat → Nat → Int) : Int := sumTo H (fun y => sumTo W (fun x => f x y))
theorem sum2_congr {W H : Nat} {f g : Nat → Nat → Int} (h : ∀ x y, x < W → y < H → f x y = g x y) : sum2 W H f = sum2 W H g :=
  sumTo_congr fun y hy => sumTo_congr fun x hx => h x y hx hy
theorem sum2_add (W H : Nat) (f g : Nat → Nat → Int) : sum2 W H (fun x y => f x y + g x y) = sum2 W H f + sum2 W H g := by
  unfold sum2
  rw [← sumTo_add]
  exact sumTo_congr fun y _ => sumTo_add W _ _
theorem mod_of {W x y : Nat} (hx : x < W) : (y * W + x) % W = x := by rw [Nat.mul_comm, Nat.mul_add_mod]; exact Nat.mod_eq_of_lt hx
theorem div_of {W x y : Nat} (hx : x < W) : (y * W + x) / W = y := by rw [Nat.mul_comm, Nat.mul_add_div (by omega), Nat.div_eq_of_lt hx]; rfl

theorem sum_cells (W H : Nat) (ks : List Int) (hk : ks.length = H * W) : ks.sum = sum2 W H (cellK W ks) := by
  rw [sum_get, hk, sumTo_grid]; rfl
end Go.Proofs.YtfdkmmllemkogaaGreatDoor

/-
  Contracts of At and Total for every map: the error of the map, or of the place, or the sample and the light.
-/

namespace Go.Proofs.YtfdkmmllemkogaaGreatDoor
open Go.RowKit
open Ieee (Format single)
set_option linter.unusedVariables false
set_option linter.unusedSimpArgs false

/-- The integer of a sample's word. -/
def kOf (x : Nat) : Int :=
  match single.read x with
  | .number s m e => sgn s (m * 2 ^ (e - single.leastPlace).toNat / 2 ^ 145)
  | _ => 0

theorem smp_kOf {x : Nat} (h : smpErr x = 0) : Smp x (kOf x) ∧ (kOf x).natAbs ≤ 16384 := by
  rcases smp_class x with ⟨a, b, hd⟩ | ⟨s, hd⟩ | ⟨s, v, hn, _⟩
  · rw [smpErr_nan hd] at h; cases h
  · rw [smpErr_inf hd] at h; cases h
  · rw [smpErr_num hn] at h
    split at h
    · rename_i hh
      obtain ⟨h1, h2⟩ := hh
      have e : v = v / 2 ^ 145 * 2 ^ 145 := by
        have := Nat.div_add_mod v (2 ^ 145)
        rw [h2, Nat.add_zero, Nat.mul_comm] at this; exact this.symm
      have hq : v / 2 ^ 145 ≤ 16384 := by
        have := Nat.div_le_div_right (c := 2 ^ 145) h1
        have e2 : 1024 * 2 ^ 149 = 16384 * 2 ^ 145 := by decide +kernel
        rwa [e2, Nat.mul_div_cancel _ (Nat.two_pow_pos _)] at this
      have hk : kOf x = sgn s (v / 2 ^ 145) := by
        obtain ⟨m, i, k1, _, _, k4⟩ := hn
        unfold kOf
        rw [k1]
        dsimp only
        rw [k4]
      rw [hk]
      generalize v / 2 ^ 145 = p at e hq
      have hpa : (sgn s p).natAbs = p := by unfold sgn; cases s <;> simp
      refine ⟨⟨s, ?_, ?_, ?_⟩, by rw [hpa]; exact hq⟩
      · rw [hpa, ← e]; exact hn
      · intro hs; unfold sgn at hs; cases s
        · simp only [Bool.false_eq_true, if_false] at hs; omega
        · rfl
      · intro hs; unfold sgn at hs; cases s
        · rfl
        · simp only [if_true] at hs; omega
    · cases h

theorem mapErr_smps {W H : Int} {n : Nat} {xs : List Nat} (hx : xs.length = n) (h : mapErr W H n xs = 0) : ∀ j, j < n → smpErr (xs[j]?.getD 0) = 0 := by
  intro j hj
  unfold mapErr at h
  split at h
  · split at h
    · refine firstNZ_all h _ (List.mem_map.2 ⟨xs[j]?.getD 0, ?_, rfl⟩)
      rw [List.getElem?_eq_getElem (by omega)]
      exact List.getElem_mem _
    · cases h
  · rename_i h0; exact absurd h h0

theorem AnyMap.rightK {w : World} {W H : Int} {a : Option Addr} {n c : Nat} {xs : List Nat} (h : AnyMap w a n c xs) (h0 : mapErr W H n xs = 0) :
    ∃ b o, a = some ⟨b, o, none⟩ ∧ b < w.heap.size ∧ RightMap w W H b o n xs (xs.map kOf) := by
  obtain ⟨b, o, ks, ha, hb, hr⟩ := h.right h0
  have hk : ∀ j, j < n → (xs.map kOf)[j]?.getD 0 = kOf (xs[j]?.getD 0) := fun j hj => by
    have := hr.len
    rw [List.getElem?_map, List.getElem?_eq_getElem (by omega)]; rfl
  have hs := mapErr_smps h.len h0
  exact ⟨b, o, ha, hb, ⟨⟨hr.len, by rw [List.length_map]; exact hr.len, hr.small, hr.cells, hr.words, fun j hj => by rw [hk j hj]; exact (smp_kOf (hs j hj)).1, fun j hj => by rw [hk j hj]; exact (smp_kOf (hs j hj)).2⟩, hr.wid, hr.hei, hr.area⟩⟩

theorem refCheckMap_map (W H : Int) (a : Option Addr) (n c : Nat) (xs : List Nat) (w : World) (h : AnyMap w a n c xs) :
    Calls Tryz.prog 41 #[.agg #[.int .i64 W, .int .i64 H, .slice a n c]] w fun e w' => e = .returned (.int .i64 (mapErr W H n xs)) ∧ Below w.heap.size w w' :=
  refCheckMap_all W H a n c xs h.len w h.cells

/-! ### At -/

def inPlace (W H X Y : Int) : Prop := 0 ≤ X ∧ X < W ∧ 0 ≤ Y ∧ Y < H
instance (W H X Y : Int) : Decidable (inPlace W H X Y) := by unfold inPlace; infer_instance
end Go.Proofs.YtfdkmmllemkogaaGreatDoor

/-
  Contracts of Peak, of the reference for a right map and of the program for every map.
-/
namespace Go.Proofs.YtfdkmmllemkogaaGreatDoor
open Go.RowKit
set_option linter.unusedVariables false
set_option linter.unusedSimpArgs false

/-- The first index of the greatest integer among the first m. -/
def pkTo (ks : List Int) : Nat → Nat
  | 0 => 0
  | m + 1 => if ks[pkTo ks m]?.getD 0 < ks[m]?.getD 0 then m else pkTo ks m

theorem pkTo_lt (ks : List Int) : ∀ m, 1 ≤ m → pkTo ks m < m
  | 0, h => by omega
  | m + 1, _ => by
    unfold pkTo
    split
    · omega
    · rcases Nat.eq_zero_or_pos m with rfl | hm
      · simp [pkTo]
      · have := pkTo_lt ks m hm; omega

theorem peakTo_pk (W : Nat) (ks : List Int) (hW : 0 < W) : ∀ m, peakTo W ks (placesTo W m) = (pkTo ks m % W, pkTo ks m / W)
  | 0 => by simp [placesTo, peakTo, pkTo]
  | m + 1 => by
    have e : placesTo W (m + 1) = placesTo W m ++ [(m % W, m / W)] := by simp [placesTo, List.range_succ]
    have hi : ∀ j : Nat, j / W * W + j % W = j := fun j => by rw [Nat.mul_comm]; exact Nat.div_add_mod j W
    rw [e, peakTo_snoc, peakTo_pk W ks hW m]
    unfold peak1
    dsimp only
    rw [hi, hi, pkTo]
    split <;> rfl

theorem order_gt {x y : Nat} {k l : Int} (hx : Smp x k) (hy : Smp y l) : (Ieee.single.order x y == some .gt) = decide (l < k) := by
  rw [hx.order hy]
  by_cases h : l < k
  · rw [cmp_gt_of h, decide_eq_true h]; rfl
  · rw [decide_eq_false h]
    have : compare k l ≠ .gt := by
      show compareOfLessAndEq _ _ ≠ _
      unfold compareOfLessAndEq
      split
      · simp
      · split
        · simp
        · omega
    cases hc : compare k l <;> simp_all

end Go.Proofs.YtfdkmmllemkogaaGreatDoor

/-
  Plain mathematics of LightCut: parts, what is covered, what is placed; their sums and peaks.
-/

namespace Go.Proofs.YtfdkmmllemkogaaGreatDoor
open Go.RowKit
set_option linter.unusedVariables false

/-! ### A window of a grid -/
theorem sumTo_window (n a d : Nat) (h : a + d ≤ n) (f : Nat → Int) : sumTo n (fun i => if a ≤ i ∧ i < a + d then f i else 0) = sumTo d (fun i => f (a + i)) := by
  obtain ⟨r, rfl⟩ : ∃ r, n = a + (d + r) := ⟨n - a - d, by omega⟩
  rw [sumTo_split, sumTo_split]
  have e1 : sumTo a (fun i => if a ≤ i ∧ i < a + d then f i else 0) = 0 := by
    refine (sumTo_congr fun i hi => ?_).trans (sumTo_zero a)
    rw [if_neg (by omega)]
  have e2 : sumTo r (fun i => if a ≤ a + (d + i) ∧ a + (d + i) < a + d then f (a + (d + i)) else 0) = 0 := by
    refine (sumTo_congr fun i hi => ?_).trans (sumTo_zero r)
    rw [if_neg (by omega)]
  have e3 : sumTo d (fun i => if a ≤ a + i ∧ a + i < a + d then f (a + i) else 0) = sumTo d (fun i => f (a + i)) :=
    sumTo_congr fun i hi => if_pos (by omega)
  rw [e1, e2, e3]; omega
theorem sum2_window (W H a d b e : Nat) (h : a + d ≤ W) (h' : b + e ≤ H) (f : Nat → Nat → Int) :
    sum2 W H (fun x y => if (a ≤ x ∧ x < a + d) ∧ (b ≤ y ∧ y < b + e) then f x y else 0) = sum2 d e (fun x y => f (a + x) (b + y)) := by
  unfold sum2
  have k : ∀ y, y < H → sumTo W (fun x => if (a ≤ x ∧ x < a + d) ∧ (b ≤ y ∧ y < b + e) then f x y else 0) = if b ≤ y ∧ y < b + e then sumTo d (fun x => f (a + x) y) else 0 := fun y hy => by
    by_cases hb : b ≤ y ∧ y < b + e
    · rw [if_pos hb, ← sumTo_window W a d h (fun x => f x y)]
      exact sumTo_congr fun i hi => by simp only [hb, and_true, and_self]
    · rw [if_neg hb]
      refine (sumTo_congr fun i hi => ?_).trans (sumTo_zero W)
      rw [if_neg fun hh => hb hh.2]
  rw [sumTo_congr k, sumTo_window H b e h']

/-! ### Parts, what is covered, what is placed -/
/-- The integers of a part. -/
def pieceK (W C0 DW R0 DH : Nat) (L : List Int) : List Int := (List.range (DW * DH)).map (fun j => L[(R0 + j / DW) * W + (C0 + j % DW)]?.getD 0)
theorem pieceK_len (W C0 DW R0 DH : Nat) (L : List Int) : (pieceK W C0 DW R0 DH L).length = DW * DH := by simp [pieceK]
theorem pieceK_get {W C0 DW R0 DH : Nat} {L : List Int} {j : Nat} (hj : j < DW * DH) : (pieceK W C0 DW R0 DH L)[j]?.getD 0 = L[(R0 + j / DW) * W + (C0 + j % DW)]?.getD 0 := by
  unfold pieceK; rw [List.getElem?_map, List.getElem?_range hj]; rfl
theorem pieceK_at {W C0 DW R0 DH : Nat} (L : List Int) {x y : Nat} (hx : x < DW) (hy : y < DH) : (pieceK W C0 DW R0 DH L)[y * DW + x]?.getD 0 = L[(R0 + y) * W + (C0 + x)]?.getD 0 := by
  rw [pieceK_get (by rw [Nat.mul_comm DW]; exact place_in hx hy), div_of hx, mod_of hx]
/-- What is covered: the columns before C0, and of those before C1 the rows before R. -/
def covered (C0 C1 R x y : Nat) : Prop := x < C0 ∨ (x < C1 ∧ y < R)
instance (C0 C1 R x y : Nat) : Decidable (covered C0 C1 R x y) := by unfold covered; infer_instance
/-- The integers of a map where it is covered, and 0 elsewhere. -/
def covK (W n C0 C1 R : Nat) (L : List Int) : List Int := (List.range n).map (fun j => if covered C0 C1 R (j % W) (j / W) then L[j]?.getD 0 else 0)
theorem covK_len (W n C0 C1 R : Nat) (L : List Int) : (covK W n C0 C1 R L).length = n := by simp [covK]
theorem covK_get {W n C0 C1 R : Nat} {L : List Int} {j : Nat} (hj : j < n) : (covK W n C0 C1 R L)[j]?.getD 0 = if covered C0 C1 R (j % W) (j / W) then L[j]?.getD 0 else 0 := by
  unfold covK; rw [List.getElem?_map, List.getElem?_range hj]; rfl
theorem covK_none (W n C1 : Nat) (L : List Int) : covK W n 0 C1 0 L = List.replicate n 0 := by
  refine List.ext_getElem (by simp [covK]) fun i h1 h2 => ?_
  simp [covK, covered]
theorem covK_next (W H n C0 C1 : Nat) (hn : H * W = n) (h : C0 ≤ C1) (L : List Int) : covK W n C0 C1 H L = covK W n C1 W 0 L := by
  unfold covK
  refine List.map_congr_left fun j hj => ?_
  have hj' := List.mem_range.1 hj
  have hW : 0 < W := by
    rcases Nat.eq_zero_or_pos W with h0 | h0
    · rw [h0, Nat.mul_zero] at hn; omega
    · exact h0
  have hy : j / W < H := (Nat.div_lt_iff_lt_mul hW).2 (by omega)
  have e : covered C0 C1 H (j % W) (j / W) ↔ covered C1 W 0 (j % W) (j / W) := by
    unfold covered
    generalize j % W = x at *
    generalize j / W = y at *
    omega
  simp only [e]
theorem covK_c1 (W n C0 C1 C2 : Nat) (L : List Int) : covK W n C0 C1 0 L = covK W n C0 C2 0 L := by
  unfold covK
  refine List.map_congr_left fun j hj => ?_
  have e : covered C0 C1 0 (j % W) (j / W) ↔ covered C0 C2 0 (j % W) (j / W) := by
    unfold covered
    generalize j % W = x
    generalize j / W = y
    omega
  simp only [e]
theorem covK_all (W H n C1 R : Nat) (hn : H * W = n) (L : List Int) (hl : L.length = n) : covK W n W C1 R L = L := by
  refine List.ext_getElem (by rw [covK_len, hl]) fun i h1 h2 => ?_
  have hW : 0 < W := by
    rcases Nat.eq_zero_or_pos W with h0 | h0
    · rw [h0, Nat.mul_zero] at hn; omega
    · exact h0
  have e : covered W C1 R (i % W) (i / W) := .inl (Nat.mod_lt _ hW)
  simp [covK, e, h2]
theorem covK_small {W n C0 C1 R : Nat} {L : List Int} {M : Nat} (h : ∀ j, j < n → (L[j]?.getD 0).natAbs ≤ M) {j : Nat} (hj : j < n) : ((covK W n C0 C1 R L)[j]?.getD 0).natAbs ≤ M := by
  rw [covK_get hj]
  split
  · exact h j hj
  · simp
/-- The part that is placed, added to what was covered, is what is covered then. -/
theorem placed_part {W H C0 DW R0 DH : Nat} (hC : C0 + DW ≤ W) (hR : R0 + DH ≤ H) (L : List Int) {j : Nat} (hj : j < H * W) :
    placedK DW DH C0 R0 (pieceK W C0 DW R0 DH L) (j % W, j / W) = if C0 ≤ j % W ∧ j % W < C0 + DW ∧ R0 ≤ j / W ∧ j / W < R0 + DH then L[j]?.getD 0 else 0 := by
  unfold placedK
  show (if C0 ≤ j % W ∧ j % W < C0 + DW ∧ R0 ≤ j / W ∧ j / W < R0 + DH then (pieceK W C0 DW R0 DH L)[(j / W - R0) * DW + (j % W - C0)]?.getD 0 else 0) = _
  by_cases h : C0 ≤ j % W ∧ j % W < C0 + DW ∧ R0 ≤ j / W ∧ j / W < R0 + DH
  · rw [if_pos h, if_pos h, pieceK_at L (by omega) (by omega)]
    have e1 : R0 + (j / W - R0) = j / W := by omega
    have e2 : C0 + (j % W - C0) = j % W := by omega
    rw [e1, e2, Nat.mul_comm (j / W) W, Nat.div_add_mod]
  · rw [if_neg h, if_neg h]
theorem cov_add {W H n C0 DW R0 DH : Nat} (hn : H * W = n) (hC : C0 + DW ≤ W) (hR : R0 + DH ≤ H) (L : List Int) {j : Nat} (hj : j < n) :
    (covK W n C0 (C0 + DW) R0 L)[j]?.getD 0 + placedK DW DH C0 R0 (pieceK W C0 DW R0 DH L) (j % W, j / W) = (covK W n C0 (C0 + DW) (R0 + DH) L)[j]?.getD 0 := by
  rw [placed_part hC hR L (by omega), covK_get hj, covK_get hj]
  generalize L[j]?.getD 0 = v
  generalize j % W = x
  generalize j / W = y
  by_cases h1 : covered C0 (C0 + DW) R0 x y
  · have h2 : covered C0 (C0 + DW) (R0 + DH) x y := by unfold covered at h1 ⊢; omega
    have h3 : ¬ (C0 ≤ x ∧ x < C0 + DW ∧ R0 ≤ y ∧ y < R0 + DH) := by unfold covered at h1; omega
    rw [if_pos h1, if_neg h3, if_pos h2]; omega
  · by_cases h2 : C0 ≤ x ∧ x < C0 + DW ∧ R0 ≤ y ∧ y < R0 + DH
    · have h3 : covered C0 (C0 + DW) (R0 + DH) x y := by unfold covered at h1 ⊢; omega
      rw [if_neg h1, if_pos h2, if_pos h3]; omega
    · have h3 : ¬ covered C0 (C0 + DW) (R0 + DH) x y := by unfold covered at h1 ⊢; omega
      rw [if_neg h1, if_neg h2, if_neg h3]; omega
/-- The light of what is covered grows by that of the part. -/
theorem cov_sum {W H n C0 DW R0 DH : Nat} (hn : H * W = n) (hC : C0 + DW ≤ W) (hR : R0 + DH ≤ H) (L : List Int) :
    (covK W n C0 (C0 + DW) R0 L).sum + (pieceK W C0 DW R0 DH L).sum = (covK W n C0 (C0 + DW) (R0 + DH) L).sum := by
  have e0 : ∀ R, (covK W n C0 (C0 + DW) R L).sum = sum2 W H (fun x y => if covered C0 (C0 + DW) R x y then cellK W L x y else 0) := fun R => by
    rw [sum_cells W H _ (by rw [covK_len]; exact hn.symm)]
    refine sum2_congr fun x y hx hy => ?_
    show (covK W n C0 (C0 + DW) R L)[y * W + x]?.getD 0 = _
    rw [covK_get (by rw [← hn]; exact place_in hx hy), mod_of hx, div_of hx]
    rfl
  have e1 : (pieceK W C0 DW R0 DH L).sum = sum2 W H (fun x y => if (C0 ≤ x ∧ x < C0 + DW) ∧ (R0 ≤ y ∧ y < R0 + DH) then cellK W L x y else 0) := by
    rw [sum2_window W H C0 DW R0 DH hC hR, sum_cells DW DH _ (by rw [pieceK_len, Nat.mul_comm])]
    exact sum2_congr fun x y hx hy => pieceK_at L hx hy
  rw [e0, e0, e1, ← sum2_add]
  refine sum2_congr fun x y hx hy => ?_
  generalize cellK W L x y = v
  by_cases h1 : covered C0 (C0 + DW) R0 x y
  · have h2 : covered C0 (C0 + DW) (R0 + DH) x y := by unfold covered at h1 ⊢; omega
    have h3 : ¬ ((C0 ≤ x ∧ x < C0 + DW) ∧ (R0 ≤ y ∧ y < R0 + DH)) := by unfold covered at h1; omega
    rw [if_pos h1, if_neg h3, if_pos h2]; omega
  · by_cases h2 : (C0 ≤ x ∧ x < C0 + DW) ∧ (R0 ≤ y ∧ y < R0 + DH)
    · have h3 : covered C0 (C0 + DW) (R0 + DH) x y := by unfold covered at h1 ⊢; omega
      rw [if_neg h1, if_pos h2, if_pos h3]; omega
    · have h3 : ¬ covered C0 (C0 + DW) (R0 + DH) x y := by unfold covered at h1 ⊢; omega
      rw [if_neg h1, if_neg h2, if_neg h3]; omega

/-! ### Peaks -/
theorem pkTo_max (ks : List Int) : ∀ m j, j < m → ks[j]?.getD 0 ≤ ks[pkTo ks m]?.getD 0
  | 0, j, h => by omega
  | m + 1, j, h => by
    unfold pkTo
    by_cases hj : j = m
    · subst hj; split <;> omega
    · have := pkTo_max ks m j (by omega)
      split <;> omega
/-- The greatest integer of what is covered, or the least one that there is. -/
def PeakOf (W H C0 C1 R : Nat) (L : List Int) (k : Int) : Prop :=
  (∀ x y, x < W → y < H → covered C0 C1 R x y → cellK W L x y ≤ k) ∧ (k = -16384 ∨ ∃ x y, x < W ∧ y < H ∧ covered C0 C1 R x y ∧ cellK W L x y = k)
theorem PeakOf.none (W H C1 : Nat) (L : List Int) : PeakOf W H 0 C1 0 L (-16384) :=
  ⟨fun x y _ _ h => by unfold covered at h; omega, .inl rfl⟩
theorem PeakOf.next {W H C0 C1 : Nat} {L : List Int} {k : Int} (h : PeakOf W H C0 C1 H L k) (hc : C0 ≤ C1) (C2 : Nat) : PeakOf W H C1 C2 0 L k := by
  refine ⟨fun x y hx hy hh => h.1 x y hx hy (by unfold covered at hh ⊢; omega), ?_⟩
  rcases h.2 with h2 | ⟨x, y, hx, hy, hh, e⟩
  · exact .inl h2
  · exact .inr ⟨x, y, hx, hy, by unfold covered at hh ⊢; omega, e⟩
theorem PeakOf.part {W H C0 DW R0 DH : Nat} {L : List Int} {k : Int} (h : PeakOf W H C0 (C0 + DW) R0 L k) (hC : 1 ≤ DW ∧ C0 + DW ≤ W) (hR : 1 ≤ DH ∧ R0 + DH ≤ H) :
    PeakOf W H C0 (C0 + DW) (R0 + DH) L (max k ((pieceK W C0 DW R0 DH L)[pkTo (pieceK W C0 DW R0 DH L) (DW * DH)]?.getD 0)) := by
  have hm : 1 ≤ DW * DH := Nat.mul_pos (by omega) (by omega)
  have hlt := pkTo_lt (pieceK W C0 DW R0 DH L) (DW * DH) hm
  constructor
  · intro x y hx hy hc
    by_cases h1 : covered C0 (C0 + DW) R0 x y
    · exact Int.le_trans (h.1 x y hx hy h1) (Int.le_max_left _ _)
    · have hw : C0 ≤ x ∧ x < C0 + DW ∧ R0 ≤ y ∧ y < R0 + DH := by unfold covered at hc h1; omega
      refine Int.le_trans ?_ (Int.le_max_right _ _)
      have e := pkTo_max (pieceK W C0 DW R0 DH L) (DW * DH) ((y - R0) * DW + (x - C0)) (by rw [Nat.mul_comm DW]; exact place_in (by omega) (by omega))
      rw [pieceK_at L (by omega) (by omega)] at e
      have e1 : R0 + (y - R0) = y := by omega
      have e2 : C0 + (x - C0) = x := by omega
      rw [e1, e2] at e
      exact e
  · rcases Int.le_total k ((pieceK W C0 DW R0 DH L)[pkTo (pieceK W C0 DW R0 DH L) (DW * DH)]?.getD 0) with hk | hk
    · rw [Int.max_eq_right hk]
      refine .inr ⟨C0 + pkTo (pieceK W C0 DW R0 DH L) (DW * DH) % DW, R0 + pkTo (pieceK W C0 DW R0 DH L) (DW * DH) / DW, ?_, ?_, ?_, ?_⟩
      · have := Nat.mod_lt (pkTo (pieceK W C0 DW R0 DH L) (DW * DH)) (show DW > 0 by omega); omega
      · have : pkTo (pieceK W C0 DW R0 DH L) (DW * DH) / DW < DH := (Nat.div_lt_iff_lt_mul (by omega)).2 (by rw [Nat.mul_comm DH DW]; exact hlt)
        omega
      · have := Nat.mod_lt (pkTo (pieceK W C0 DW R0 DH L) (DW * DH)) (show DW > 0 by omega)
        have : pkTo (pieceK W C0 DW R0 DH L) (DW * DH) / DW < DH := (Nat.div_lt_iff_lt_mul (by omega)).2 (by rw [Nat.mul_comm DH DW]; exact hlt)
        unfold covered; omega
      · rw [pieceK_get hlt]; rfl
    · rw [Int.max_eq_left hk]
      rcases h.2 with h2 | ⟨x, y, hx, hy, hh, e⟩
      · exact .inl h2
      · exact .inr ⟨x, y, hx, hy, by unfold covered at hh ⊢; omega, e⟩
theorem PeakOf.all {W H n C1 R : Nat} {L : List Int} {k : Int} (h : PeakOf W H W C1 R L k) (hn : H * W = n) (hn1 : 1 ≤ n) (hs : ∀ j, j < n → (L[j]?.getD 0).natAbs ≤ 16384) : k = L[pkTo L n]?.getD 0 := by
  have hlt := pkTo_lt L n hn1
  have hW : 0 < W := by
    rcases Nat.eq_zero_or_pos W with h0 | h0
    · rw [h0, Nat.mul_zero] at hn; omega
    · exact h0
  have hb := hs _ hlt
  have e : pkTo L n / W * W + pkTo L n % W = pkTo L n := by rw [Nat.mul_comm]; exact Nat.div_add_mod _ _
  have h1 := h.1 (pkTo L n % W) (pkTo L n / W) (Nat.mod_lt _ hW) ((Nat.div_lt_iff_lt_mul hW).2 (by omega)) (.inl (Nat.mod_lt _ hW))
  unfold cellK at h1
  rw [e] at h1
  rcases h.2 with h2 | ⟨x, y, hx, hy, hh, e2⟩
  · omega
  · have := pkTo_max L n (y * W + x) (by rw [← hn]; exact place_in hx hy)
    unfold cellK at e2
    omega
end Go.Proofs.YtfdkmmllemkogaaGreatDoor

/-
  Right maps in memory, by their integers; what own, Total, Spread, Flipped, Turned, CheckMap and SameMap make of them.
-/

namespace Go.Proofs.YtfdkmmllemkogaaGreatDoor
open Go.RowKit
set_option linter.unusedVariables false
set_option linter.unusedSimpArgs false

/-- A right map with these integers lies there. -/
def RM (w : World) (W H n : Nat) (L : List Int) (b o : Nat) : Prop := b < w.heap.size ∧ ∃ xs, RightMap w W H b o n xs L
theorem RM.kept {w w' : World} {W H n b o : Nat} {L : List Int} (h : RM w W H n L b o) (hb : Below w.heap.size w w') : RM w' W H n L b o := by
  obtain ⟨h1, xs, h2⟩ := h
  exact ⟨Nat.lt_of_lt_of_le h1 hb.size, xs, h2.below hb h1⟩
theorem RM.any {w : World} {W H n b o : Nat} {L : List Int} (h : RM w W H n L b o) (c : Nat) : ∃ xs, AnyMap w (some ⟨b, o, none⟩) n c xs ∧ RightMap w W H b o n xs L := by
  obtain ⟨h1, xs, h2⟩ := h
  exact ⟨xs, ⟨h2.len, h2.words, .inr ⟨_, rfl⟩, fun j hj => ⟨b, o, rfl, h1, h2.cells⟩⟩, h2⟩
theorem RM.len {w : World} {W H n b o : Nat} {L : List Int} (h : RM w W H n L b o) : L.length = n := by obtain ⟨_, xs, h2⟩ := h; exact h2.lenk
theorem RM.area {w : World} {W H n b o : Nat} {L : List Int} (h : RM w W H n L b o) : H * W = n := by
  obtain ⟨_, xs, h2⟩ := h
  have := h2.area
  rw [Nat.mul_comm]; exact_mod_cast this
theorem RM.of_cells {w : World} {W H n g : Nat} {L : List Int} (hl : L.length = n) (hn : n ≤ 4096) (hs : ∀ j, j < n → (L[j]?.getD 0).natAbs ≤ 16384) (hW : 1 ≤ W ∧ W ≤ 64) (hH : 1 ≤ H ∧ H ≤ 64) (hA : H * W = n)
    (hg : g < w.heap.size) (hc : ∀ j, j < n → w.cell? ⟨g, j, none⟩ = some (.float .f32 (smpOf (L[j]?.getD 0)))) : RM w W H n L g 0 := by
  have e : ∀ j, j < n → (L.map smpOf)[j]?.getD 0 = smpOf (L[j]?.getD 0) := fun j hj => by rw [List.getElem?_map, List.getElem?_eq_getElem (by omega)]; rfl
  refine ⟨hg, L.map smpOf, ⟨⟨by rw [List.length_map]; exact hl, hl, hn, fun j hj => ?_, fun j hj => ?_, fun j hj => ?_, hs⟩, by omega, by omega, ?_⟩⟩
  · rw [Nat.zero_add, e j hj]; exact hc j hj
  · rw [e j hj]; exact smpOf_word _ (Nat.lt_of_le_of_lt (hs j hj) (by decide))
  · rw [e j hj]; exact smpOf_smp _ (Nat.lt_of_le_of_lt (hs j hj) (by decide))
  · rw [← hA]; push_cast; rw [Int.mul_comm]

theorem rm_own {w : World} {W H n b o : Nat} {L : List Int} (h : RM w W H n L b o) (c : Nat) :
    Calls Tryz.prog 38 #[.agg #[.int .i64 W, .int .i64 H, .slice (some ⟨b, o, none⟩) n c]] w fun e w' =>
      ∃ g c', e = .returned (.agg #[.int .i64 W, .int .i64 H, .slice (some ⟨g, 0, none⟩) n c']) ∧ RM w' W H n L g 0 ∧ Below w.heap.size w w' := by
  obtain ⟨xs, hM, hR⟩ := h.any c
  have hn := hR.small
  refine (lawOwn_all W H _ n c xs (by omega) hM).mono ?_
  rintro e w' ⟨g, c', he, _, hg, hc, hb, _⟩
  exact ⟨g, c', he, ⟨hg, xs, ⟨⟨hR.len, hR.lenk, hR.small, fun j hj => by rw [Nat.zero_add]; exact hc j hj, hR.words, hR.smps, hR.sizes⟩, hR.wid, hR.hei, hR.area⟩⟩, hb⟩
theorem rm_total {w : World} {W H n b o : Nat} {L : List Int} (h : RM w W H n L b o) (c : Nat) :
    Calls Tryz.prog 39 #[.agg #[.int .i64 W, .int .i64 H, .slice (some ⟨b, o, none⟩) n c]] w fun e w' => e = .returned (.tuple #[.int .i64 L.sum, .int .i64 0]) ∧ Below w.heap.size w w' := by
  obtain ⟨h1, xs, h2⟩ := h
  exact total_any W H b o n c xs L w h2 h1
theorem rm_check {w : World} {W H n b o : Nat} {L : List Int} (h : RM w W H n L b o) (c : Nat) :
    Calls Tryz.prog 41 #[.agg #[.int .i64 W, .int .i64 H, .slice (some ⟨b, o, none⟩) n c]] w fun e w' => e = .returned (.int .i64 0) ∧ Below w.heap.size w w' := by
  obtain ⟨xs, hM, hR⟩ := h.any c
  have e : mapErr W H n xs = 0 := by
    unfold mapErr
    have h1 := hR.wid
    have h2 := hR.hei
    rw [rangeErr_in h1.1 h1.2, rangeErr_in h2.1 h2.2, if_pos (by simp [firstNZ]), if_pos hR.area]
    refine firstNZ_zeros fun x hx => ?_
    obtain ⟨y, hy, rfl⟩ := List.mem_map.1 hx
    obtain ⟨j, hj, rfl⟩ := List.mem_iff_getElem.1 hy
    have hjn : j < n := by have := hR.len; omega
    have hs := hR.smps j hjn
    have hz := hR.sizes j hjn
    rw [List.getElem?_eq_getElem hj] at hs
    obtain ⟨s, g1, _, _⟩ := hs
    refine smpErr_ok g1 ?_ (Nat.mul_mod_left _ _)
    refine Nat.le_trans (Nat.mul_le_mul_right _ hz) ?_
    decide +kernel
  have k := refCheckMap_map W H (some ⟨b, o, none⟩) n c xs w hM
  rw [e] at k
  exact k
theorem rm_same {w : World} {W H n b o b' o' : Nat} {L : List Int} (h : RM w W H n L b o) (h' : RM w W H n L b' o') (c c' : Nat) :
    Calls Tryz.prog 98 #[.agg #[.int .i64 W, .int .i64 H, .slice (some ⟨b, o, none⟩) n c], .agg #[.int .i64 W, .int .i64 H, .slice (some ⟨b', o', none⟩) n c']] w fun e w' => e = .returned (.bool true) ∧ Below w.heap.size w w' := by
  obtain ⟨h1, xs, h2⟩ := h
  obtain ⟨g1, ys, g2⟩ := h'
  exact sameMap_any W H b o c b' o' c' n xs ys L h2.small h1 g1 h2.cells g2.cells h2.smps g2.smps

/-- A call that returns a right map. -/
def GivesMap (f : FuncId) (args : Array Value) (w : World) (W H n : Nat) (L : List Int) : Prop :=
  Calls Tryz.prog f args w fun e w' => ∃ g, e = .returned (.tuple #[.agg #[.int .i64 W, .int .i64 H, .slice (some ⟨g, 0, none⟩) n n], .int .i64 0]) ∧ RM w' W H n L g 0 ∧ Below w.heap.size w w'

/-- What a right map's own words say of its integers. -/
theorem rm_of_any {w : World} {W H : Int} {a : Option Addr} {n c : Nat} {xs : List Nat} (h : AnyMap w a n c xs) (h0 : mapErr W H n xs = 0) :
    ∃ (Wn Hn b o : Nat), W = Wn ∧ H = Hn ∧ a = some ⟨b, o, none⟩ ∧ RM w Wn Hn n (xs.map kOf) b o := by
  obtain ⟨b, o, ha, hb, hR⟩ := h.rightK h0
  obtain ⟨Wn, rfl⟩ := Int.eq_ofNat_of_zero_le (show 0 ≤ W by have := hR.wid; omega)
  obtain ⟨Hn, rfl⟩ := Int.eq_ofNat_of_zero_le (show 0 ≤ H by have := hR.hei; omega)
  exact ⟨Wn, Hn, b, o, rfl, rfl, ha, hb, xs, hR⟩
end Go.Proofs.YtfdkmmllemkogaaGreatDoor

/-
  Right maps in memory: their sides, sizes, and the check of the program.
-/

namespace Go.Proofs.YtfdkmmllemkogaaGreatDoor
open Go.RowKit
set_option linter.unusedVariables false
set_option linter.unusedSimpArgs false

theorem RM.sizes {w : World} {W H n b o : Nat} {L : List Int} (h : RM w W H n L b o) : ∀ j, j < n → (L[j]?.getD 0).natAbs ≤ 16384 := by obtain ⟨_, xs, h2⟩ := h; exact h2.sizes
theorem RM.wid {w : World} {W H n b o : Nat} {L : List Int} (h : RM w W H n L b o) : 1 ≤ W ∧ W ≤ 64 := by
  obtain ⟨_, xs, h2⟩ := h
  have := h2.wid
  omega
theorem RM.hei {w : World} {W H n b o : Nat} {L : List Int} (h : RM w W H n L b o) : 1 ≤ H ∧ H ≤ 64 := by
  obtain ⟨_, xs, h2⟩ := h
  have := h2.hei
  omega
theorem RM.small {w : World} {W H n b o : Nat} {L : List Int} (h : RM w W H n L b o) : n ≤ 4096 := by obtain ⟨_, xs, h2⟩ := h; exact h2.small
theorem rm_lightCheck {w : World} {W H n b o : Nat} {L : List Int} (h : RM w W H n L b o) (c : Nat) :
    Calls Tryz.prog 47 #[.agg #[.int .i64 W, .int .i64 H, .slice (some ⟨b, o, none⟩) n c]] w fun e w' => e = .returned (.int .i64 0) ∧ Below w.heap.size w w' := by
  obtain ⟨h1, xs, h2⟩ := h
  exact checkMap_any W H b o n c xs L w h2 h1
end Go.Proofs.YtfdkmmllemkogaaGreatDoor

/-
  The orders in which Added may make its two grids: what stands behind each.
-/

namespace Go.Proofs.YtfdkmmllemkogaaGreatDoor
open Go.RowKit
set_option linter.unusedVariables false
set_option linter.unusedSimpArgs false

set_option maxHeartbeats 1600000 in
theorem made_00_7 {w W0 W1 wA wB : World} {W H : Nat} {n ga gb : Nat} {ks js : List Int} (hb2 : Below (w.heap.size + 3) W0 W1) (HS3 : w.heap.size + 3 ≤ W0.heap.size)
    (hba : Below W1.drew.heap.size W1.drew wA) (hga : W1.drew.heap.size ≤ ga) (hra : RowAt wA ga n ks) (hbb : Below wA.heap.size wA wB) (hgb : wA.heap.size ≤ gb) (hrb : RowAt wB gb n js) (hb3 : Below (w.heap.size + 3) W0 wB) :
    GridsMade w W0 W H n ks js (.pointer (some ⟨wB.heap.size, 0, none⟩)) (.pointer (some ⟨wB.heap.size + 1, 0, none⟩)) ((wB.alloc (.cells #[.int .i64 W, .int .i64 H, .slice (some ⟨ga, 0, none⟩) n n] 188)).alloc (.cells #[.int .i64 W, .int .i64 H, .slice (some ⟨gb, 0, none⟩) n n] 188)) := by
  have s1 := hb2.size
  have s2 := hba.size
  have s3 := hbb.size
  have l1 := hra.lt
  have l2 := hrb.lt
  simp only [World.size_drew, World.size_alloc] at s2 s3 hga hgb
  have hrB : RowAt wB ga n ks := RowAt.below hra hbb (by first | omega | (simp only [World.size_alloc]; omega))
  refine ⟨_, _, ga, gb, rfl, rfl, GridAt.of_blk (T := 188) ?_, GridAt.of_blk (T := 188) ?_, ?_, ?_, lt_of_blk (o := .cells #[.int .i64 W, .int .i64 H, .slice (some ⟨ga, 0, none⟩) n n] 188 (0, 0)) ?_, lt_of_blk (o := .cells #[.int .i64 W, .int .i64 H, .slice (some ⟨gb, 0, none⟩) n n] 188 (0, 0)) ?_, ?_⟩
  · (repeat (first | (with_reducible exact blk_alloc_new _ _) | (with_reducible exact blk_alloc_new1 _ _ _) | ((with_reducible refine blk_alloc_at _ _ ?_); (simp only [World.size_setCell, World.size_drew, World.size_alloc]; done)) | (with_reducible refine blk_set3 (x := .int .i64 0) (y := .int .i64 0) (z := .slice none 0 0) ?_ _ _ _) | ((with_reducible refine blk_set_other ?_ ?h _); (case h => (dsimp only; omega))) | (with_reducible refine blk_alloc_other ?_ _) | (with_reducible refine blk_drew ?_) | ((with_reducible refine (hbb.block _ ?h).trans ?_); (case h => (first | omega | (simp only [World.size_drew, World.size_alloc]; omega)))) | ((with_reducible refine (hba.block _ ?h).trans ?_); (case h => (first | omega | (simp only [World.size_drew, World.size_alloc]; omega))))))
  · (repeat (first | (with_reducible exact blk_alloc_new _ _) | (with_reducible exact blk_alloc_new1 _ _ _) | ((with_reducible refine blk_alloc_at _ _ ?_); (simp only [World.size_setCell, World.size_drew, World.size_alloc]; done)) | (with_reducible refine blk_set3 (x := .int .i64 0) (y := .int .i64 0) (z := .slice none 0 0) ?_ _ _ _) | ((with_reducible refine blk_set_other ?_ ?h _); (case h => (dsimp only; omega))) | (with_reducible refine blk_alloc_other ?_ _) | (with_reducible refine blk_drew ?_) | ((with_reducible refine (hbb.block _ ?h).trans ?_); (case h => (first | omega | (simp only [World.size_drew, World.size_alloc]; omega)))) | ((with_reducible refine (hba.block _ ?h).trans ?_); (case h => (first | omega | (simp only [World.size_drew, World.size_alloc]; omega))))))
  · (repeat (first | (with_reducible exact hrB) | (with_reducible refine RowAt.set ?_ (by dsimp only; omega) _) | (with_reducible refine RowAt.alloc ?_ _)))
  · (repeat (first | (with_reducible exact hrb) | (with_reducible refine RowAt.set ?_ (by dsimp only; omega) _) | (with_reducible refine RowAt.alloc ?_ _)))
  · (repeat (first | (with_reducible exact blk_alloc_new _ _) | (with_reducible exact blk_alloc_new1 _ _ _) | ((with_reducible refine blk_alloc_at _ _ ?_); (simp only [World.size_setCell, World.size_drew, World.size_alloc]; done)) | (with_reducible refine blk_set3 (x := .int .i64 0) (y := .int .i64 0) (z := .slice none 0 0) ?_ _ _ _) | ((with_reducible refine blk_set_other ?_ ?h _); (case h => (dsimp only; omega))) | (with_reducible refine blk_alloc_other ?_ _) | (with_reducible refine blk_drew ?_) | ((with_reducible refine (hbb.block _ ?h).trans ?_); (case h => (first | omega | (simp only [World.size_drew, World.size_alloc]; omega)))) | ((with_reducible refine (hba.block _ ?h).trans ?_); (case h => (first | omega | (simp only [World.size_drew, World.size_alloc]; omega))))))
  · (repeat (first | (with_reducible exact blk_alloc_new _ _) | (with_reducible exact blk_alloc_new1 _ _ _) | ((with_reducible refine blk_alloc_at _ _ ?_); (simp only [World.size_setCell, World.size_drew, World.size_alloc]; done)) | (with_reducible refine blk_set3 (x := .int .i64 0) (y := .int .i64 0) (z := .slice none 0 0) ?_ _ _ _) | ((with_reducible refine blk_set_other ?_ ?h _); (case h => (dsimp only; omega))) | (with_reducible refine blk_alloc_other ?_ _) | (with_reducible refine blk_drew ?_) | ((with_reducible refine (hbb.block _ ?h).trans ?_); (case h => (first | omega | (simp only [World.size_drew, World.size_alloc]; omega)))) | ((with_reducible refine (hba.block _ ?h).trans ?_); (case h => (first | omega | (simp only [World.size_drew, World.size_alloc]; omega))))))
  · (repeat (first | (with_reducible exact hb3) | (with_reducible refine below_alloc ?_ HS3 _) | (with_reducible refine Below.drew ?_) | (with_reducible refine Below.setCell ?_ (by dsimp only; omega) _)))

set_option maxHeartbeats 1600000 in
theorem made_00_8 {w W0 W1 wA wB : World} {W H : Nat} {n ga gb : Nat} {ks js : List Int} (hb2 : Below (w.heap.size + 3) W0 W1) (HS3 : w.heap.size + 3 ≤ W0.heap.size)
    (hba : Below W1.drew.heap.size W1.drew wA) (hga : W1.drew.heap.size ≤ ga) (hra : RowAt wA ga n ks) (hbb : Below wA.heap.size wA wB) (hgb : wA.heap.size ≤ gb) (hrb : RowAt wB gb n js) (hb3 : Below (w.heap.size + 3) W0 wB) :
    GridsMade w W0 W H n ks js (.pointer (some ⟨wB.heap.size + 1, 0, none⟩)) (.pointer (some ⟨wB.heap.size, 0, none⟩)) ((wB.alloc (.cells #[.int .i64 W, .int .i64 H, .slice (some ⟨gb, 0, none⟩) n n] 188)).alloc (.cells #[.int .i64 W, .int .i64 H, .slice (some ⟨ga, 0, none⟩) n n] 188)) := by
  have s1 := hb2.size
  have s2 := hba.size
  have s3 := hbb.size
  have l1 := hra.lt
  have l2 := hrb.lt
  simp only [World.size_drew, World.size_alloc] at s2 s3 hga hgb
  have hrB : RowAt wB ga n ks := RowAt.below hra hbb (by first | omega | (simp only [World.size_alloc]; omega))
  refine ⟨_, _, ga, gb, rfl, rfl, GridAt.of_blk (T := 188) ?_, GridAt.of_blk (T := 188) ?_, ?_, ?_, lt_of_blk (o := .cells #[.int .i64 W, .int .i64 H, .slice (some ⟨ga, 0, none⟩) n n] 188 (0, 0)) ?_, lt_of_blk (o := .cells #[.int .i64 W, .int .i64 H, .slice (some ⟨gb, 0, none⟩) n n] 188 (0, 0)) ?_, ?_⟩
  · (repeat (first | (with_reducible exact blk_alloc_new _ _) | (with_reducible exact blk_alloc_new1 _ _ _) | ((with_reducible refine blk_alloc_at _ _ ?_); (simp only [World.size_setCell, World.size_drew, World.size_alloc]; done)) | (with_reducible refine blk_set3 (x := .int .i64 0) (y := .int .i64 0) (z := .slice none 0 0) ?_ _ _ _) | ((with_reducible refine blk_set_other ?_ ?h _); (case h => (dsimp only; omega))) | (with_reducible refine blk_alloc_other ?_ _) | (with_reducible refine blk_drew ?_) | ((with_reducible refine (hbb.block _ ?h).trans ?_); (case h => (first | omega | (simp only [World.size_drew, World.size_alloc]; omega)))) | ((with_reducible refine (hba.block _ ?h).trans ?_); (case h => (first | omega | (simp only [World.size_drew, World.size_alloc]; omega))))))
  · (repeat (first | (with_reducible exact blk_alloc_new _ _) | (with_reducible exact blk_alloc_new1 _ _ _) | ((with_reducible refine blk_alloc_at _ _ ?_); (simp only [World.size_setCell, World.size_drew, World.size_alloc]; done)) | (with_reducible refine blk_set3 (x := .int .i64 0) (y := .int .i64 0) (z := .slice none 0 0) ?_ _ _ _) | ((with_reducible refine blk_set_other ?_ ?h _); (case h => (dsimp only; omega))) | (with_reducible refine blk_alloc_other ?_ _) | (with_reducible refine blk_drew ?_) | ((with_reducible refine (hbb.block _ ?h).trans ?_); (case h => (first | omega | (simp only [World.size_drew, World.size_alloc]; omega)))) | ((with_reducible refine (hba.block _ ?h).trans ?_); (case h => (first | omega | (simp only [World.size_drew, World.size_alloc]; omega))))))
  · (repeat (first | (with_reducible exact hrB) | (with_reducible refine RowAt.set ?_ (by dsimp only; omega) _) | (with_reducible refine RowAt.alloc ?_ _)))
  · (repeat (first | (with_reducible exact hrb) | (with_reducible refine RowAt.set ?_ (by dsimp only; omega) _) | (with_reducible refine RowAt.alloc ?_ _)))
  · (repeat (first | (with_reducible exact blk_alloc_new _ _) | (with_reducible exact blk_alloc_new1 _ _ _) | ((with_reducible refine blk_alloc_at _ _ ?_); (simp only [World.size_setCell, World.size_drew, World.size_alloc]; done)) | (with_reducible refine blk_set3 (x := .int .i64 0) (y := .int .i64 0) (z := .slice none 0 0) ?_ _ _ _) | ((with_reducible refine blk_set_other ?_ ?h _); (case h => (dsimp only; omega))) | (with_reducible refine blk_alloc_other ?_ _) | (with_reducible refine blk_drew ?_) | ((with_reducible refine (hbb.block _ ?h).trans ?_); (case h => (first | omega | (simp only [World.size_drew, World.size_alloc]; omega)))) | ((with_reducible refine (hba.block _ ?h).trans ?_); (case h => (first | omega | (simp only [World.size_drew, World.size_alloc]; omega))))))
  · (repeat (first | (with_reducible exact blk_alloc_new _ _) | (with_reducible exact blk_alloc_new1 _ _ _) | ((with_reducible refine blk_alloc_at _ _ ?_); (simp only [World.size_setCell, World.size_drew, World.size_alloc]; done)) | (with_reducible refine blk_set3 (x := .int .i64 0) (y := .int .i64 0) (z := .slice none 0 0) ?_ _ _ _) | ((with_reducible refine blk_set_other ?_ ?h _); (case h => (dsimp only; omega))) | (with_reducible refine blk_alloc_other ?_ _) | (with_reducible refine blk_drew ?_) | ((with_reducible refine (hbb.block _ ?h).trans ?_); (case h => (first | omega | (simp only [World.size_drew, World.size_alloc]; omega)))) | ((with_reducible refine (hba.block _ ?h).trans ?_); (case h => (first | omega | (simp only [World.size_drew, World.size_alloc]; omega))))))
  · (repeat (first | (with_reducible exact hb3) | (with_reducible refine below_alloc ?_ HS3 _) | (with_reducible refine Below.drew ?_) | (with_reducible refine Below.setCell ?_ (by dsimp only; omega) _)))

set_option maxHeartbeats 1600000 in
theorem made_01_7 {w W0 W1 wA wB : World} {W H : Nat} {n ga gb : Nat} {ks js : List Int} (hb2 : Below (w.heap.size + 3) W0 W1) (HS3 : w.heap.size + 3 ≤ W0.heap.size)
    (hba : Below W1.drew.heap.size W1.drew wA) (hga : W1.drew.heap.size ≤ ga) (hra : RowAt wA ga n ks) (hbb : Below (wA.alloc (.cells #[.int .i64 0, .int .i64 0, .slice none 0 0] 188)).heap.size (wA.alloc (.cells #[.int .i64 0, .int .i64 0, .slice none 0 0] 188)) wB) (hgb : (wA.alloc (.cells #[.int .i64 0, .int .i64 0, .slice none 0 0] 188)).heap.size ≤ gb) (hrb : RowAt wB gb n js) (hb3 : Below (w.heap.size + 3) W0 wB) :
    GridsMade w W0 W H n ks js (.pointer (some ⟨wA.heap.size, 0, none⟩)) (.pointer (some ⟨wB.heap.size, 0, none⟩)) ((((wB.setCell ⟨wA.heap.size, 0, none⟩ (.int .i64 W)).setCell ⟨wA.heap.size, 1, none⟩ (.int .i64 H)).setCell ⟨wA.heap.size, 2, none⟩ (.slice (some ⟨ga, 0, none⟩) n n)).alloc (.cells #[.int .i64 W, .int .i64 H, .slice (some ⟨gb, 0, none⟩) n n] 188)) := by
  have s1 := hb2.size
  have s2 := hba.size
  have s3 := hbb.size
  have l1 := hra.lt
  have l2 := hrb.lt
  simp only [World.size_drew, World.size_alloc] at s2 s3 hga hgb
  have hrB : RowAt wB ga n ks := RowAt.below (RowAt.alloc hra _) hbb (by first | omega | (simp only [World.size_alloc]; omega))
  refine ⟨_, _, ga, gb, rfl, rfl, GridAt.of_blk (T := 188) ?_, GridAt.of_blk (T := 188) ?_, ?_, ?_, lt_of_blk (o := .cells #[.int .i64 W, .int .i64 H, .slice (some ⟨ga, 0, none⟩) n n] 188 (0, 0)) ?_, lt_of_blk (o := .cells #[.int .i64 W, .int .i64 H, .slice (some ⟨gb, 0, none⟩) n n] 188 (0, 0)) ?_, ?_⟩
  · (repeat (first | (with_reducible exact blk_alloc_new _ _) | (with_reducible exact blk_alloc_new1 _ _ _) | ((with_reducible refine blk_alloc_at _ _ ?_); (simp only [World.size_setCell, World.size_drew, World.size_alloc]; done)) | (with_reducible refine blk_set3 (x := .int .i64 0) (y := .int .i64 0) (z := .slice none 0 0) ?_ _ _ _) | ((with_reducible refine blk_set_other ?_ ?h _); (case h => (dsimp only; omega))) | (with_reducible refine blk_alloc_other ?_ _) | (with_reducible refine blk_drew ?_) | ((with_reducible refine (hbb.block _ ?h).trans ?_); (case h => (first | omega | (simp only [World.size_drew, World.size_alloc]; omega)))) | ((with_reducible refine (hba.block _ ?h).trans ?_); (case h => (first | omega | (simp only [World.size_drew, World.size_alloc]; omega))))))
  · (repeat (first | (with_reducible exact blk_alloc_new _ _) | (with_reducible exact blk_alloc_new1 _ _ _) | ((with_reducible refine blk_alloc_at _ _ ?_); (simp only [World.size_setCell, World.size_drew, World.size_alloc]; done)) | (with_reducible refine blk_set3 (x := .int .i64 0) (y := .int .i64 0) (z := .slice none 0 0) ?_ _ _ _) | ((with_reducible refine blk_set_other ?_ ?h _); (case h => (dsimp only; omega))) | (with_reducible refine blk_alloc_other ?_ _) | (with_reducible refine blk_drew ?_) | ((with_reducible refine (hbb.block _ ?h).trans ?_); (case h => (first | omega | (simp only [World.size_drew, World.size_alloc]; omega)))) | ((with_reducible refine (hba.block _ ?h).trans ?_); (case h => (first | omega | (simp only [World.size_drew, World.size_alloc]; omega))))))
  · (repeat (first | (with_reducible exact hrB) | (with_reducible refine RowAt.set ?_ (by dsimp only; omega) _) | (with_reducible refine RowAt.alloc ?_ _)))
  · (repeat (first | (with_reducible exact hrb) | (with_reducible refine RowAt.set ?_ (by dsimp only; omega) _) | (with_reducible refine RowAt.alloc ?_ _)))
  · (repeat (first | (with_reducible exact blk_alloc_new _ _) | (with_reducible exact blk_alloc_new1 _ _ _) | ((with_reducible refine blk_alloc_at _ _ ?_); (simp only [World.size_setCell, World.size_drew, World.size_alloc]; done)) | (with_reducible refine blk_set3 (x := .int .i64 0) (y := .int .i64 0) (z := .slice none 0 0) ?_ _ _ _) | ((with_reducible refine blk_set_other ?_ ?h _); (case h => (dsimp only; omega))) | (with_reducible refine blk_alloc_other ?_ _) | (with_reducible refine blk_drew ?_) | ((with_reducible refine (hbb.block _ ?h).trans ?_); (case h => (first | omega | (simp only [World.size_drew, World.size_alloc]; omega)))) | ((with_reducible refine (hba.block _ ?h).trans ?_); (case h => (first | omega | (simp only [World.size_drew, World.size_alloc]; omega))))))
  · (repeat (first | (with_reducible exact blk_alloc_new _ _) | (with_reducible exact blk_alloc_new1 _ _ _) | ((with_reducible refine blk_alloc_at _ _ ?_); (simp only [World.size_setCell, World.size_drew, World.size_alloc]; done)) | (with_reducible refine blk_set3 (x := .int .i64 0) (y := .int .i64 0) (z := .slice none 0 0) ?_ _ _ _) | ((with_reducible refine blk_set_other ?_ ?h _); (case h => (dsimp only; omega))) | (with_reducible refine blk_alloc_other ?_ _) | (with_reducible refine blk_drew ?_) | ((with_reducible refine (hbb.block _ ?h).trans ?_); (case h => (first | omega | (simp only [World.size_drew, World.size_alloc]; omega)))) | ((with_reducible refine (hba.block _ ?h).trans ?_); (case h => (first | omega | (simp only [World.size_drew, World.size_alloc]; omega))))))
  · (repeat (first | (with_reducible exact hb3) | (with_reducible refine below_alloc ?_ HS3 _) | (with_reducible refine Below.drew ?_) | (with_reducible refine Below.setCell ?_ (by dsimp only; omega) _)))

set_option maxHeartbeats 1600000 in
theorem made_01_8 {w W0 W1 wA wB : World} {W H : Nat} {n ga gb : Nat} {ks js : List Int} (hb2 : Below (w.heap.size + 3) W0 W1) (HS3 : w.heap.size + 3 ≤ W0.heap.size)
    (hba : Below W1.drew.heap.size W1.drew wA) (hga : W1.drew.heap.size ≤ ga) (hra : RowAt wA ga n ks) (hbb : Below (wA.alloc (.cells #[.int .i64 0, .int .i64 0, .slice none 0 0] 188)).heap.size (wA.alloc (.cells #[.int .i64 0, .int .i64 0, .slice none 0 0] 188)) wB) (hgb : (wA.alloc (.cells #[.int .i64 0, .int .i64 0, .slice none 0 0] 188)).heap.size ≤ gb) (hrb : RowAt wB gb n js) (hb3 : Below (w.heap.size + 3) W0 wB) :
    GridsMade w W0 W H n ks js (.pointer (some ⟨wB.heap.size, 0, none⟩)) (.pointer (some ⟨wA.heap.size, 0, none⟩)) ((((wB.setCell ⟨wA.heap.size, 0, none⟩ (.int .i64 W)).setCell ⟨wA.heap.size, 1, none⟩ (.int .i64 H)).setCell ⟨wA.heap.size, 2, none⟩ (.slice (some ⟨gb, 0, none⟩) n n)).alloc (.cells #[.int .i64 W, .int .i64 H, .slice (some ⟨ga, 0, none⟩) n n] 188)) := by
  have s1 := hb2.size
  have s2 := hba.size
  have s3 := hbb.size
  have l1 := hra.lt
  have l2 := hrb.lt
  simp only [World.size_drew, World.size_alloc] at s2 s3 hga hgb
  have hrB : RowAt wB ga n ks := RowAt.below (RowAt.alloc hra _) hbb (by first | omega | (simp only [World.size_alloc]; omega))
  refine ⟨_, _, ga, gb, rfl, rfl, GridAt.of_blk (T := 188) ?_, GridAt.of_blk (T := 188) ?_, ?_, ?_, lt_of_blk (o := .cells #[.int .i64 W, .int .i64 H, .slice (some ⟨ga, 0, none⟩) n n] 188 (0, 0)) ?_, lt_of_blk (o := .cells #[.int .i64 W, .int .i64 H, .slice (some ⟨gb, 0, none⟩) n n] 188 (0, 0)) ?_, ?_⟩
  · (repeat (first | (with_reducible exact blk_alloc_new _ _) | (with_reducible exact blk_alloc_new1 _ _ _) | ((with_reducible refine blk_alloc_at _ _ ?_); (simp only [World.size_setCell, World.size_drew, World.size_alloc]; done)) | (with_reducible refine blk_set3 (x := .int .i64 0) (y := .int .i64 0) (z := .slice none 0 0) ?_ _ _ _) | ((with_reducible refine blk_set_other ?_ ?h _); (case h => (dsimp only; omega))) | (with_reducible refine blk_alloc_other ?_ _) | (with_reducible refine blk_drew ?_) | ((with_reducible refine (hbb.block _ ?h).trans ?_); (case h => (first | omega | (simp only [World.size_drew, World.size_alloc]; omega)))) | ((with_reducible refine (hba.block _ ?h).trans ?_); (case h => (first | omega | (simp only [World.size_drew, World.size_alloc]; omega))))))
  · (repeat (first | (with_reducible exact blk_alloc_new _ _) | (with_reducible exact blk_alloc_new1 _ _ _) | ((with_reducible refine blk_alloc_at _ _ ?_); (simp only [World.size_setCell, World.size_drew, World.size_alloc]; done)) | (with_reducible refine blk_set3 (x := .int .i64 0) (y := .int .i64 0) (z := .slice none 0 0) ?_ _ _ _) | ((with_reducible refine blk_set_other ?_ ?h _); (case h => (dsimp only; omega))) | (with_reducible refine blk_alloc_other ?_ _) | (with_reducible refine blk_drew ?_) | ((with_reducible refine (hbb.block _ ?h).trans ?_); (case h => (first | omega | (simp only [World.size_drew, World.size_alloc]; omega)))) | ((with_reducible refine (hba.block _ ?h).trans ?_); (case h => (first | omega | (simp only [World.size_drew, World.size_alloc]; omega))))))
  · (repeat (first | (with_reducible exact hrB) | (with_reducible refine RowAt.set ?_ (by dsimp only; omega) _) | (with_reducible refine RowAt.alloc ?_ _)))
  · (repeat (first | (with_reducible exact hrb) | (with_reducible refine RowAt.set ?_ (by dsimp only; omega) _) | (with_reducible refine RowAt.alloc ?_ _)))
  · (repeat (first | (with_reducible exact blk_alloc_new _ _) | (with_reducible exact blk_alloc_new1 _ _ _) | ((with_reducible refine blk_alloc_at _ _ ?_); (simp only [World.size_setCell, World.size_drew, World.size_alloc]; done)) | (with_reducible refine blk_set3 (x := .int .i64 0) (y := .int .i64 0) (z := .slice none 0 0) ?_ _ _ _) | ((with_reducible refine blk_set_other ?_ ?h _); (case h => (dsimp only; omega))) | (with_reducible refine blk_alloc_other ?_ _) | (with_reducible refine blk_drew ?_) | ((with_reducible refine (hbb.block _ ?h).trans ?_); (case h => (first | omega | (simp only [World.size_drew, World.size_alloc]; omega)))) | ((with_reducible refine (hba.block _ ?h).trans ?_); (case h => (first | omega | (simp only [World.size_drew, World.size_alloc]; omega))))))
  · (repeat (first | (with_reducible exact blk_alloc_new _ _) | (with_reducible exact blk_alloc_new1 _ _ _) | ((with_reducible refine blk_alloc_at _ _ ?_); (simp only [World.size_setCell, World.size_drew, World.size_alloc]; done)) | (with_reducible refine blk_set3 (x := .int .i64 0) (y := .int .i64 0) (z := .slice none 0 0) ?_ _ _ _) | ((with_reducible refine blk_set_other ?_ ?h _); (case h => (dsimp only; omega))) | (with_reducible refine blk_alloc_other ?_ _) | (with_reducible refine blk_drew ?_) | ((with_reducible refine (hbb.block _ ?h).trans ?_); (case h => (first | omega | (simp only [World.size_drew, World.size_alloc]; omega)))) | ((with_reducible refine (hba.block _ ?h).trans ?_); (case h => (first | omega | (simp only [World.size_drew, World.size_alloc]; omega))))))
  · (repeat (first | (with_reducible exact hb3) | (with_reducible refine below_alloc ?_ HS3 _) | (with_reducible refine Below.drew ?_) | (with_reducible refine Below.setCell ?_ (by dsimp only; omega) _)))

set_option maxHeartbeats 1600000 in
theorem made_02_7 {w W0 W1 wA wB : World} {W H : Nat} {n ga gb : Nat} {ks js : List Int} (hb2 : Below (w.heap.size + 3) W0 W1) (HS3 : w.heap.size + 3 ≤ W0.heap.size)
    (hba : Below W1.drew.heap.size W1.drew wA) (hga : W1.drew.heap.size ≤ ga) (hra : RowAt wA ga n ks) (hbb : Below ((wA.alloc (.cells #[.int .i64 0, .int .i64 0, .slice none 0 0] 188)).alloc (.cells #[.int .i64 0, .int .i64 0, .slice none 0 0] 188)).heap.size ((wA.alloc (.cells #[.int .i64 0, .int .i64 0, .slice none 0 0] 188)).alloc (.cells #[.int .i64 0, .int .i64 0, .slice none 0 0] 188)) wB) (hgb : ((wA.alloc (.cells #[.int .i64 0, .int .i64 0, .slice none 0 0] 188)).alloc (.cells #[.int .i64 0, .int .i64 0, .slice none 0 0] 188)).heap.size ≤ gb) (hrb : RowAt wB gb n js) (hb3 : Below (w.heap.size + 3) W0 wB) :
    GridsMade w W0 W H n ks js (.pointer (some ⟨wA.heap.size, 0, none⟩)) (.pointer (some ⟨wA.heap.size + 1, 0, none⟩)) ((((((wB.setCell ⟨wA.heap.size, 0, none⟩ (.int .i64 W)).setCell ⟨wA.heap.size, 1, none⟩ (.int .i64 H)).setCell ⟨wA.heap.size, 2, none⟩ (.slice (some ⟨ga, 0, none⟩) n n)).setCell ⟨wA.heap.size + 1, 0, none⟩ (.int .i64 W)).setCell ⟨wA.heap.size + 1, 1, none⟩ (.int .i64 H)).setCell ⟨wA.heap.size + 1, 2, none⟩ (.slice (some ⟨gb, 0, none⟩) n n)) := by
  have s1 := hb2.size
  have s2 := hba.size
  have s3 := hbb.size
  have l1 := hra.lt
  have l2 := hrb.lt
  simp only [World.size_drew, World.size_alloc] at s2 s3 hga hgb
  have hrB : RowAt wB ga n ks := RowAt.below (RowAt.alloc (RowAt.alloc hra _) _) hbb (by first | omega | (simp only [World.size_alloc]; omega))
  refine ⟨_, _, ga, gb, rfl, rfl, GridAt.of_blk (T := 188) ?_, GridAt.of_blk (T := 188) ?_, ?_, ?_, lt_of_blk (o := .cells #[.int .i64 W, .int .i64 H, .slice (some ⟨ga, 0, none⟩) n n] 188 (0, 0)) ?_, lt_of_blk (o := .cells #[.int .i64 W, .int .i64 H, .slice (some ⟨gb, 0, none⟩) n n] 188 (0, 0)) ?_, ?_⟩
  · (repeat (first | (with_reducible exact blk_alloc_new _ _) | (with_reducible exact blk_alloc_new1 _ _ _) | ((with_reducible refine blk_alloc_at _ _ ?_); (simp only [World.size_setCell, World.size_drew, World.size_alloc]; done)) | (with_reducible refine blk_set3 (x := .int .i64 0) (y := .int .i64 0) (z := .slice none 0 0) ?_ _ _ _) | ((with_reducible refine blk_set_other ?_ ?h _); (case h => (dsimp only; omega))) | (with_reducible refine blk_alloc_other ?_ _) | (with_reducible refine blk_drew ?_) | ((with_reducible refine (hbb.block _ ?h).trans ?_); (case h => (first | omega | (simp only [World.size_drew, World.size_alloc]; omega)))) | ((with_reducible refine (hba.block _ ?h).trans ?_); (case h => (first | omega | (simp only [World.size_drew, World.size_alloc]; omega))))))
  · (repeat (first | (with_reducible exact blk_alloc_new _ _) | (with_reducible exact blk_alloc_new1 _ _ _) | ((with_reducible refine blk_alloc_at _ _ ?_); (simp only [World.size_setCell, World.size_drew, World.size_alloc]; done)) | (with_reducible refine blk_set3 (x := .int .i64 0) (y := .int .i64 0) (z := .slice none 0 0) ?_ _ _ _) | ((with_reducible refine blk_set_other ?_ ?h _); (case h => (dsimp only; omega))) | (with_reducible refine blk_alloc_other ?_ _) | (with_reducible refine blk_drew ?_) | ((with_reducible refine (hbb.block _ ?h).trans ?_); (case h => (first | omega | (simp only [World.size_drew, World.size_alloc]; omega)))) | ((with_reducible refine (hba.block _ ?h).trans ?_); (case h => (first | omega | (simp only [World.size_drew, World.size_alloc]; omega))))))
  · (repeat (first | (with_reducible exact hrB) | (with_reducible refine RowAt.set ?_ (by dsimp only; omega) _) | (with_reducible refine RowAt.alloc ?_ _)))
  · (repeat (first | (with_reducible exact hrb) | (with_reducible refine RowAt.set ?_ (by dsimp only; omega) _) | (with_reducible refine RowAt.alloc ?_ _)))
  · (repeat (first | (with_reducible exact blk_alloc_new _ _) | (with_reducible exact blk_alloc_new1 _ _ _) | ((with_reducible refine blk_alloc_at _ _ ?_); (simp only [World.size_setCell, World.size_drew, World.size_alloc]; done)) | (with_reducible refine blk_set3 (x := .int .i64 0) (y := .int .i64 0) (z := .slice none 0 0) ?_ _ _ _) | ((with_reducible refine blk_set_other ?_ ?h _); (case h => (dsimp only; omega))) | (with_reducible refine blk_alloc_other ?_ _) | (with_reducible refine blk_drew ?_) | ((with_reducible refine (hbb.block _ ?h).trans ?_); (case h => (first | omega | (simp only [World.size_drew, World.size_alloc]; omega)))) | ((with_reducible refine (hba.block _ ?h).trans ?_); (case h => (first | omega | (simp only [World.size_drew, World.size_alloc]; omega))))))
  · (repeat (first | (with_reducible exact blk_alloc_new _ _) | (with_reducible exact blk_alloc_new1 _ _ _) | ((with_reducible refine blk_alloc_at _ _ ?_); (simp only [World.size_setCell, World.size_drew, World.size_alloc]; done)) | (with_reducible refine blk_set3 (x := .int .i64 0) (y := .int .i64 0) (z := .slice none 0 0) ?_ _ _ _) | ((with_reducible refine blk_set_other ?_ ?h _); (case h => (dsimp only; omega))) | (with_reducible refine blk_alloc_other ?_ _) | (with_reducible refine blk_drew ?_) | ((with_reducible refine (hbb.block _ ?h).trans ?_); (case h => (first | omega | (simp only [World.size_drew, World.size_alloc]; omega)))) | ((with_reducible refine (hba.block _ ?h).trans ?_); (case h => (first | omega | (simp only [World.size_drew, World.size_alloc]; omega))))))
  · (repeat (first | (with_reducible exact hb3) | (with_reducible refine below_alloc ?_ HS3 _) | (with_reducible refine Below.drew ?_) | (with_reducible refine Below.setCell ?_ (by dsimp only; omega) _)))

set_option maxHeartbeats 1600000 in
theorem made_02_8 {w W0 W1 wA wB : World} {W H : Nat} {n ga gb : Nat} {ks js : List Int} (hb2 : Below (w.heap.size + 3) W0 W1) (HS3 : w.heap.size + 3 ≤ W0.heap.size)
    (hba : Below W1.drew.heap.size W1.drew wA) (hga : W1.drew.heap.size ≤ ga) (hra : RowAt wA ga n ks) (hbb : Below ((wA.alloc (.cells #[.int .i64 0, .int .i64 0, .slice none 0 0] 188)).alloc (.cells #[.int .i64 0, .int .i64 0, .slice none 0 0] 188)).heap.size ((wA.alloc (.cells #[.int .i64 0, .int .i64 0, .slice none 0 0] 188)).alloc (.cells #[.int .i64 0, .int .i64 0, .slice none 0 0] 188)) wB) (hgb : ((wA.alloc (.cells #[.int .i64 0, .int .i64 0, .slice none 0 0] 188)).alloc (.cells #[.int .i64 0, .int .i64 0, .slice none 0 0] 188)).heap.size ≤ gb) (hrb : RowAt wB gb n js) (hb3 : Below (w.heap.size + 3) W0 wB) :
    GridsMade w W0 W H n ks js (.pointer (some ⟨wA.heap.size + 1, 0, none⟩)) (.pointer (some ⟨wA.heap.size, 0, none⟩)) ((((((wB.setCell ⟨wA.heap.size + 1, 0, none⟩ (.int .i64 W)).setCell ⟨wA.heap.size + 1, 1, none⟩ (.int .i64 H)).setCell ⟨wA.heap.size + 1, 2, none⟩ (.slice (some ⟨ga, 0, none⟩) n n)).setCell ⟨wA.heap.size, 0, none⟩ (.int .i64 W)).setCell ⟨wA.heap.size, 1, none⟩ (.int .i64 H)).setCell ⟨wA.heap.size, 2, none⟩ (.slice (some ⟨gb, 0, none⟩) n n)) := by
  have s1 := hb2.size
  have s2 := hba.size
  have s3 := hbb.size
  have l1 := hra.lt
  have l2 := hrb.lt
  simp only [World.size_drew, World.size_alloc] at s2 s3 hga hgb
  have hrB : RowAt wB ga n ks := RowAt.below (RowAt.alloc (RowAt.alloc hra _) _) hbb (by first | omega | (simp only [World.size_alloc]; omega))
  refine ⟨_, _, ga, gb, rfl, rfl, GridAt.of_blk (T := 188) ?_, GridAt.of_blk (T := 188) ?_, ?_, ?_, lt_of_blk (o := .cells #[.int .i64 W, .int .i64 H, .slice (some ⟨ga, 0, none⟩) n n] 188 (0, 0)) ?_, lt_of_blk (o := .cells #[.int .i64 W, .int .i64 H, .slice (some ⟨gb, 0, none⟩) n n] 188 (0, 0)) ?_, ?_⟩
  · (repeat (first | (with_reducible exact blk_alloc_new _ _) | (with_reducible exact blk_alloc_new1 _ _ _) | ((with_reducible refine blk_alloc_at _ _ ?_); (simp only [World.size_setCell, World.size_drew, World.size_alloc]; done)) | (with_reducible refine blk_set3 (x := .int .i64 0) (y := .int .i64 0) (z := .slice none 0 0) ?_ _ _ _) | ((with_reducible refine blk_set_other ?_ ?h _); (case h => (dsimp only; omega))) | (with_reducible refine blk_alloc_other ?_ _) | (with_reducible refine blk_drew ?_) | ((with_reducible refine (hbb.block _ ?h).trans ?_); (case h => (first | omega | (simp only [World.size_drew, World.size_alloc]; omega)))) | ((with_reducible refine (hba.block _ ?h).trans ?_); (case h => (first | omega | (simp only [World.size_drew, World.size_alloc]; omega))))))
  · (repeat (first | (with_reducible exact blk_alloc_new _ _) | (with_reducible exact blk_alloc_new1 _ _ _) | ((with_reducible refine blk_alloc_at _ _ ?_); (simp only [World.size_setCell, World.size_drew, World.size_alloc]; done)) | (with_reducible refine blk_set3 (x := .int .i64 0) (y := .int .i64 0) (z := .slice none 0 0) ?_ _ _ _) | ((with_reducible refine blk_set_other ?_ ?h _); (case h => (dsimp only; omega))) | (with_reducible refine blk_alloc_other ?_ _) | (with_reducible refine blk_drew ?_) | ((with_reducible refine (hbb.block _ ?h).trans ?_); (case h => (first | omega | (simp only [World.size_drew, World.size_alloc]; omega)))) | ((with_reducible refine (hba.block _ ?h).trans ?_); (case h => (first | omega | (simp only [World.size_drew, World.size_alloc]; omega))))))
  · (repeat (first | (with_reducible exact hrB) | (with_reducible refine RowAt.set ?_ (by dsimp only; omega) _) | (with_reducible refine RowAt.alloc ?_ _)))
  · (repeat (first | (with_reducible exact hrb) | (with_reducible refine RowAt.set ?_ (by dsimp only; omega) _) | (with_reducible refine RowAt.alloc ?_ _)))
  · (repeat (first | (with_reducible exact blk_alloc_new _ _) | (with_reducible exact blk_alloc_new1 _ _ _) | ((with_reducible refine blk_alloc_at _ _ ?_); (simp only [World.size_setCell, World.size_drew, World.size_alloc]; done)) | (with_reducible refine blk_set3 (x := .int .i64 0) (y := .int .i64 0) (z := .slice none 0 0) ?_ _ _ _) | ((with_reducible refine blk_set_other ?_ ?h _); (case h => (dsimp only; omega))) | (with_reducible refine blk_alloc_other ?_ _) | (with_reducible refine blk_drew ?_) | ((with_reducible refine (hbb.block _ ?h).trans ?_); (case h => (first | omega | (simp only [World.size_drew, World.size_alloc]; omega)))) | ((with_reducible refine (hba.block _ ?h).trans ?_); (case h => (first | omega | (simp only [World.size_drew, World.size_alloc]; omega))))))
  · (repeat (first | (with_reducible exact blk_alloc_new _ _) | (with_reducible exact blk_alloc_new1 _ _ _) | ((with_reducible refine blk_alloc_at _ _ ?_); (simp only [World.size_setCell, World.size_drew, World.size_alloc]; done)) | (with_reducible refine blk_set3 (x := .int .i64 0) (y := .int .i64 0) (z := .slice none 0 0) ?_ _ _ _) | ((with_reducible refine blk_set_other ?_ ?h _); (case h => (dsimp only; omega))) | (with_reducible refine blk_alloc_other ?_ _) | (with_reducible refine blk_drew ?_) | ((with_reducible refine (hbb.block _ ?h).trans ?_); (case h => (first | omega | (simp only [World.size_drew, World.size_alloc]; omega)))) | ((with_reducible refine (hba.block _ ?h).trans ?_); (case h => (first | omega | (simp only [World.size_drew, World.size_alloc]; omega))))))
  · (repeat (first | (with_reducible exact hb3) | (with_reducible refine below_alloc ?_ HS3 _) | (with_reducible refine Below.drew ?_) | (with_reducible refine Below.setCell ?_ (by dsimp only; omega) _)))

set_option maxHeartbeats 1600000 in
theorem made_10_7 {w W0 W1 wA wB : World} {W H : Nat} {n ga gb : Nat} {ks js : List Int} (hb2 : Below (w.heap.size + 3) W0 W1) (HS3 : w.heap.size + 3 ≤ W0.heap.size)
    (hba : Below (W1.alloc (.cells #[.int .i64 0, .int .i64 0, .slice none 0 0] 188)).drew.heap.size (W1.alloc (.cells #[.int .i64 0, .int .i64 0, .slice none 0 0] 188)).drew wA) (hga : (W1.alloc (.cells #[.int .i64 0, .int .i64 0, .slice none 0 0] 188)).drew.heap.size ≤ ga) (hra : RowAt wA ga n ks) (hbb : Below wA.heap.size wA wB) (hgb : wA.heap.size ≤ gb) (hrb : RowAt wB gb n js) (hb3 : Below (w.heap.size + 3) W0 wB) :
    GridsMade w W0 W H n ks js (.pointer (some ⟨W1.heap.size, 0, none⟩)) (.pointer (some ⟨wB.heap.size, 0, none⟩)) ((((wB.setCell ⟨W1.heap.size, 0, none⟩ (.int .i64 W)).setCell ⟨W1.heap.size, 1, none⟩ (.int .i64 H)).setCell ⟨W1.heap.size, 2, none⟩ (.slice (some ⟨ga, 0, none⟩) n n)).alloc (.cells #[.int .i64 W, .int .i64 H, .slice (some ⟨gb, 0, none⟩) n n] 188)) := by
  have s1 := hb2.size
  have s2 := hba.size
  have s3 := hbb.size
  have l1 := hra.lt
  have l2 := hrb.lt
  simp only [World.size_drew, World.size_alloc] at s2 s3 hga hgb
  have hrB : RowAt wB ga n ks := RowAt.below hra hbb (by first | omega | (simp only [World.size_alloc]; omega))
  refine ⟨_, _, ga, gb, rfl, rfl, GridAt.of_blk (T := 188) ?_, GridAt.of_blk (T := 188) ?_, ?_, ?_, lt_of_blk (o := .cells #[.int .i64 W, .int .i64 H, .slice (some ⟨ga, 0, none⟩) n n] 188 (0, 0)) ?_, lt_of_blk (o := .cells #[.int .i64 W, .int .i64 H, .slice (some ⟨gb, 0, none⟩) n n] 188 (0, 0)) ?_, ?_⟩
  · (repeat (first | (with_reducible exact blk_alloc_new _ _) | (with_reducible exact blk_alloc_new1 _ _ _) | ((with_reducible refine blk_alloc_at _ _ ?_); (simp only [World.size_setCell, World.size_drew, World.size_alloc]; done)) | (with_reducible refine blk_set3 (x := .int .i64 0) (y := .int .i64 0) (z := .slice none 0 0) ?_ _ _ _) | ((with_reducible refine blk_set_other ?_ ?h _); (case h => (dsimp only; omega))) | (with_reducible refine blk_alloc_other ?_ _) | (with_reducible refine blk_drew ?_) | ((with_reducible refine (hbb.block _ ?h).trans ?_); (case h => (first | omega | (simp only [World.size_drew, World.size_alloc]; omega)))) | ((with_reducible refine (hba.block _ ?h).trans ?_); (case h => (first | omega | (simp only [World.size_drew, World.size_alloc]; omega))))))
  · (repeat (first | (with_reducible exact blk_alloc_new _ _) | (with_reducible exact blk_alloc_new1 _ _ _) | ((with_reducible refine blk_alloc_at _ _ ?_); (simp only [World.size_setCell, World.size_drew, World.size_alloc]; done)) | (with_reducible refine blk_set3 (x := .int .i64 0) (y := .int .i64 0) (z := .slice none 0 0) ?_ _ _ _) | ((with_reducible refine blk_set_other ?_ ?h _); (case h => (dsimp only; omega))) | (with_reducible refine blk_alloc_other ?_ _) | (with_reducible refine blk_drew ?_) | ((with_reducible refine (hbb.block _ ?h).trans ?_); (case h => (first | omega | (simp only [World.size_drew, World.size_alloc]; omega)))) | ((with_reducible refine (hba.block _ ?h).trans ?_); (case h => (first | omega | (simp only [World.size_drew, World.size_alloc]; omega))))))
  · (repeat (first | (with_reducible exact hrB) | (with_reducible refine RowAt.set ?_ (by dsimp only; omega) _) | (with_reducible refine RowAt.alloc ?_ _)))
  · (repeat (first | (with_reducible exact hrb) | (with_reducible refine RowAt.set ?_ (by dsimp only; omega) _) | (with_reducible refine RowAt.alloc ?_ _)))
  · (repeat (first | (with_reducible exact blk_alloc_new _ _) | (with_reducible exact blk_alloc_new1 _ _ _) | ((with_reducible refine blk_alloc_at _ _ ?_); (simp only [World.size_setCell, World.size_drew, World.size_alloc]; done)) | (with_reducible refine blk_set3 (x := .int .i64 0) (y := .int .i64 0) (z := .slice none 0 0) ?_ _ _ _) | ((with_reducible refine blk_set_other ?_ ?h _); (case h => (dsimp only; omega))) | (with_reducible refine blk_alloc_other ?_ _) | (with_reducible refine blk_drew ?_) | ((with_reducible refine (hbb.block _ ?h).trans ?_); (case h => (first | omega | (simp only [World.size_drew, World.size_alloc]; omega)))) | ((with_reducible refine (hba.block _ ?h).trans ?_); (case h => (first | omega | (simp only [World.size_drew, World.size_alloc]; omega))))))
  · (repeat (first | (with_reducible exact blk_alloc_new _ _) | (with_reducible exact blk_alloc_new1 _ _ _) | ((with_reducible refine blk_alloc_at _ _ ?_); (simp only [World.size_setCell, World.size_drew, World.size_alloc]; done)) | (with_reducible refine blk_set3 (x := .int .i64 0) (y := .int .i64 0) (z := .slice none 0 0) ?_ _ _ _) | ((with_reducible refine blk_set_other ?_ ?h _); (case h => (dsimp only; omega))) | (with_reducible refine blk_alloc_other ?_ _) | (with_reducible refine blk_drew ?_) | ((with_reducible refine (hbb.block _ ?h).trans ?_); (case h => (first | omega | (simp only [World.size_drew, World.size_alloc]; omega)))) | ((with_reducible refine (hba.block _ ?h).trans ?_); (case h => (first | omega | (simp only [World.size_drew, World.size_alloc]; omega))))))
  · (repeat (first | (with_reducible exact hb3) | (with_reducible refine below_alloc ?_ HS3 _) | (with_reducible refine Below.drew ?_) | (with_reducible refine Below.setCell ?_ (by dsimp only; omega) _)))

set_option maxHeartbeats 1600000 in
theorem made_10_8 {w W0 W1 wA wB : World} {W H : Nat} {n ga gb : Nat} {ks js : List Int} (hb2 : Below (w.heap.size + 3) W0 W1) (HS3 : w.heap.size + 3 ≤ W0.heap.size)
    (hba : Below (W1.alloc (.cells #[.int .i64 0, .int .i64 0, .slice none 0 0] 188)).drew.heap.size (W1.alloc (.cells #[.int .i64 0, .int .i64 0, .slice none 0 0] 188)).drew wA) (hga : (W1.alloc (.cells #[.int .i64 0, .int .i64 0, .slice none 0 0] 188)).drew.heap.size ≤ ga) (hra : RowAt wA ga n ks) (hbb : Below wA.heap.size wA wB) (hgb : wA.heap.size ≤ gb) (hrb : RowAt wB gb n js) (hb3 : Below (w.heap.size + 3) W0 wB) :
    GridsMade w W0 W H n ks js (.pointer (some ⟨wB.heap.size, 0, none⟩)) (.pointer (some ⟨W1.heap.size, 0, none⟩)) ((((wB.setCell ⟨W1.heap.size, 0, none⟩ (.int .i64 W)).setCell ⟨W1.heap.size, 1, none⟩ (.int .i64 H)).setCell ⟨W1.heap.size, 2, none⟩ (.slice (some ⟨gb, 0, none⟩) n n)).alloc (.cells #[.int .i64 W, .int .i64 H, .slice (some ⟨ga, 0, none⟩) n n] 188)) := by
  have s1 := hb2.size
  have s2 := hba.size
  have s3 := hbb.size
  have l1 := hra.lt
  have l2 := hrb.lt
  simp only [World.size_drew, World.size_alloc] at s2 s3 hga hgb
  have hrB : RowAt wB ga n ks := RowAt.below hra hbb (by first | omega | (simp only [World.size_alloc]; omega))
  refine ⟨_, _, ga, gb, rfl, rfl, GridAt.of_blk (T := 188) ?_, GridAt.of_blk (T := 188) ?_, ?_, ?_, lt_of_blk (o := .cells #[.int .i64 W, .int .i64 H, .slice (some ⟨ga, 0, none⟩) n n] 188 (0, 0)) ?_, lt_of_blk (o := .cells #[.int .i64 W, .int .i64 H, .slice (some ⟨gb, 0, none⟩) n n] 188 (0, 0)) ?_, ?_⟩
  · (repeat (first | (with_reducible exact blk_alloc_new _ _) | (with_reducible exact blk_alloc_new1 _ _ _) | ((with_reducible refine blk_alloc_at _ _ ?_); (simp only [World.size_setCell, World.size_drew, World.size_alloc]; done)) | (with_reducible refine blk_set3 (x := .int .i64 0) (y := .int .i64 0) (z := .slice none 0 0) ?_ _ _ _) | ((with_reducible refine blk_set_other ?_ ?h _); (case h => (dsimp only; omega))) | (with_reducible refine blk_alloc_other ?_ _) | (with_reducible refine blk_drew ?_) | ((with_reducible refine (hbb.block _ ?h).trans ?_); (case h => (first | omega | (simp only [World.size_drew, World.size_alloc]; omega)))) | ((with_reducible refine (hba.block _ ?h).trans ?_); (case h => (first | omega | (simp only [World.size_drew, World.size_alloc]; omega))))))
  · (repeat (first | (with_reducible exact blk_alloc_new _ _) | (with_reducible exact blk_alloc_new1 _ _ _) | ((with_reducible refine blk_alloc_at _ _ ?_); (simp only [World.size_setCell, World.size_drew, World.size_alloc]; done)) | (with_reducible refine blk_set3 (x := .int .i64 0) (y := .int .i64 0) (z := .slice none 0 0) ?_ _ _ _) | ((with_reducible refine blk_set_other ?_ ?h _); (case h => (dsimp only; omega))) | (with_reducible refine blk_alloc_other ?_ _) | (with_reducible refine blk_drew ?_) | ((with_reducible refine (hbb.block _ ?h).trans ?_); (case h => (first | omega | (simp only [World.size_drew, World.size_alloc]; omega)))) | ((with_reducible refine (hba.block _ ?h).trans ?_); (case h => (first | omega | (simp only [World.size_drew, World.size_alloc]; omega))))))
  · (repeat (first | (with_reducible exact hrB) | (with_reducible refine RowAt.set ?_ (by dsimp only; omega) _) | (with_reducible refine RowAt.alloc ?_ _)))
  · (repeat (first | (with_reducible exact hrb) | (with_reducible refine RowAt.set ?_ (by dsimp only; omega) _) | (with_reducible refine RowAt.alloc ?_ _)))
  · (repeat (first | (with_reducible exact blk_alloc_new _ _) | (with_reducible exact blk_alloc_new1 _ _ _) | ((with_reducible refine blk_alloc_at _ _ ?_); (simp only [World.size_setCell, World.size_drew, World.size_alloc]; done)) | (with_reducible refine blk_set3 (x := .int .i64 0) (y := .int .i64 0) (z := .slice none 0 0) ?_ _ _ _) | ((with_reducible refine blk_set_other ?_ ?h _); (case h => (dsimp only; omega))) | (with_reducible refine blk_alloc_other ?_ _) | (with_reducible refine blk_drew ?_) | ((with_reducible refine (hbb.block _ ?h).trans ?_); (case h => (first | omega | (simp only [World.size_drew, World.size_alloc]; omega)))) | ((with_reducible refine (hba.block _ ?h).trans ?_); (case h => (first | omega | (simp only [World.size_drew, World.size_alloc]; omega))))))
  · (repeat (first | (with_reducible exact blk_alloc_new _ _) | (with_reducible exact blk_alloc_new1 _ _ _) | ((with_reducible refine blk_alloc_at _ _ ?_); (simp only [World.size_setCell, World.size_drew, World.size_alloc]; done)) | (with_reducible refine blk_set3 (x := .int .i64 0) (y := .int .i64 0) (z := .slice none 0 0) ?_ _ _ _) | ((with_reducible refine blk_set_other ?_ ?h _); (case h => (dsimp only; omega))) | (with_reducible refine blk_alloc_other ?_ _) | (with_reducible refine blk_drew ?_) | ((with_reducible refine (hbb.block _ ?h).trans ?_); (case h => (first | omega | (simp only [World.size_drew, World.size_alloc]; omega)))) | ((with_reducible refine (hba.block _ ?h).trans ?_); (case h => (first | omega | (simp only [World.size_drew, World.size_alloc]; omega))))))
  · (repeat (first | (with_reducible exact hb3) | (with_reducible refine below_alloc ?_ HS3 _) | (with_reducible refine Below.drew ?_) | (with_reducible refine Below.setCell ?_ (by dsimp only; omega) _)))

set_option maxHeartbeats 1600000 in
theorem made_11_7 {w W0 W1 wA wB : World} {W H : Nat} {n ga gb : Nat} {ks js : List Int} (hb2 : Below (w.heap.size + 3) W0 W1) (HS3 : w.heap.size + 3 ≤ W0.heap.size)
    (hba : Below (W1.alloc (.cells #[.int .i64 0, .int .i64 0, .slice none 0 0] 188)).drew.heap.size (W1.alloc (.cells #[.int .i64 0, .int .i64 0, .slice none 0 0] 188)).drew wA) (hga : (W1.alloc (.cells #[.int .i64 0, .int .i64 0, .slice none 0 0] 188)).drew.heap.size ≤ ga) (hra : RowAt wA ga n ks) (hbb : Below (wA.alloc (.cells #[.int .i64 0, .int .i64 0, .slice none 0 0] 188)).heap.size (wA.alloc (.cells #[.int .i64 0, .int .i64 0, .slice none 0 0] 188)) wB) (hgb : (wA.alloc (.cells #[.int .i64 0, .int .i64 0, .slice none 0 0] 188)).heap.size ≤ gb) (hrb : RowAt wB gb n js) (hb3 : Below (w.heap.size + 3) W0 wB) :
    GridsMade w W0 W H n ks js (.pointer (some ⟨W1.heap.size, 0, none⟩)) (.pointer (some ⟨wA.heap.size, 0, none⟩)) ((((((wB.setCell ⟨W1.heap.size, 0, none⟩ (.int .i64 W)).setCell ⟨W1.heap.size, 1, none⟩ (.int .i64 H)).setCell ⟨W1.heap.size, 2, none⟩ (.slice (some ⟨ga, 0, none⟩) n n)).setCell ⟨wA.heap.size, 0, none⟩ (.int .i64 W)).setCell ⟨wA.heap.size, 1, none⟩ (.int .i64 H)).setCell ⟨wA.heap.size, 2, none⟩ (.slice (some ⟨gb, 0, none⟩) n n)) := by
  have s1 := hb2.size
  have s2 := hba.size
  have s3 := hbb.size
  have l1 := hra.lt
  have l2 := hrb.lt
  simp only [World.size_drew, World.size_alloc] at s2 s3 hga hgb
  have hrB : RowAt wB ga n ks := RowAt.below (RowAt.alloc hra _) hbb (by first | omega | (simp only [World.size_alloc]; omega))
  refine ⟨_, _, ga, gb, rfl, rfl, GridAt.of_blk (T := 188) ?_, GridAt.of_blk (T := 188) ?_, ?_, ?_, lt_of_blk (o := .cells #[.int .i64 W, .int .i64 H, .slice (some ⟨ga, 0, none⟩) n n] 188 (0, 0)) ?_, lt_of_blk (o := .cells #[.int .i64 W, .int .i64 H, .slice (some ⟨gb, 0, none⟩) n n] 188 (0, 0)) ?_, ?_⟩
  · (repeat (first | (with_reducible exact blk_alloc_new _ _) | (with_reducible exact blk_alloc_new1 _ _ _) | ((with_reducible refine blk_alloc_at _ _ ?_); (simp only [World.size_setCell, World.size_drew, World.size_alloc]; done)) | (with_reducible refine blk_set3 (x := .int .i64 0) (y := .int .i64 0) (z := .slice none 0 0) ?_ _ _ _) | ((with_reducible refine blk_set_other ?_ ?h _); (case h => (dsimp only; omega))) | (with_reducible refine blk_alloc_other ?_ _) | (with_reducible refine blk_drew ?_) | ((with_reducible refine (hbb.block _ ?h).trans ?_); (case h => (first | omega | (simp only [World.size_drew, World.size_alloc]; omega)))) | ((with_reducible refine (hba.block _ ?h).trans ?_); (case h => (first | omega | (simp only [World.size_drew, World.size_alloc]; omega))))))
  · (repeat (first | (with_reducible exact blk_alloc_new _ _) | (with_reducible exact blk_alloc_new1 _ _ _) | ((with_reducible refine blk_alloc_at _ _ ?_); (simp only [World.size_setCell, World.size_drew, World.size_alloc]; done)) | (with_reducible refine blk_set3 (x := .int .i64 0) (y := .int .i64 0) (z := .slice none 0 0) ?_ _ _ _) | ((with_reducible refine blk_set_other ?_ ?h _); (case h => (dsimp only; omega))) | (with_reducible refine blk_alloc_other ?_ _) | (with_reducible refine blk_drew ?_) | ((with_reducible refine (hbb.block _ ?h).trans ?_); (case h => (first | omega | (simp only [World.size_drew, World.size_alloc]; omega)))) | ((with_reducible refine (hba.block _ ?h).trans ?_); (case h => (first | omega | (simp only [World.size_drew, World.size_alloc]; omega))))))
  · (repeat (first | (with_reducible exact hrB) | (with_reducible refine RowAt.set ?_ (by dsimp only; omega) _) | (with_reducible refine RowAt.alloc ?_ _)))
  · (repeat (first | (with_reducible exact hrb) | (with_reducible refine RowAt.set ?_ (by dsimp only; omega) _) | (with_reducible refine RowAt.alloc ?_ _)))
  · (repeat (first | (with_reducible exact blk_alloc_new _ _) | (with_reducible exact blk_alloc_new1 _ _ _) | ((with_reducible refine blk_alloc_at _ _ ?_); (simp only [World.size_setCell, World.size_drew, World.size_alloc]; done)) | (with_reducible refine blk_set3 (x := .int .i64 0) (y := .int .i64 0) (z := .slice none 0 0) ?_ _ _ _) | ((with_reducible refine blk_set_other ?_ ?h _); (case h => (dsimp only; omega))) | (with_reducible refine blk_alloc_other ?_ _) | (with_reducible refine blk_drew ?_) | ((with_reducible refine (hbb.block _ ?h).trans ?_); (case h => (first | omega | (simp only [World.size_drew, World.size_alloc]; omega)))) | ((with_reducible refine (hba.block _ ?h).trans ?_); (case h => (first | omega | (simp only [World.size_drew, World.size_alloc]; omega))))))
  · (repeat (first | (with_reducible exact blk_alloc_new _ _) | (with_reducible exact blk_alloc_new1 _ _ _) | ((with_reducible refine blk_alloc_at _ _ ?_); (simp only [World.size_setCell, World.size_drew, World.size_alloc]; done)) | (with_reducible refine blk_set3 (x := .int .i64 0) (y := .int .i64 0) (z := .slice none 0 0) ?_ _ _ _) | ((with_reducible refine blk_set_other ?_ ?h _); (case h => (dsimp only; omega))) | (with_reducible refine blk_alloc_other ?_ _) | (with_reducible refine blk_drew ?_) | ((with_reducible refine (hbb.block _ ?h).trans ?_); (case h => (first | omega | (simp only [World.size_drew, World.size_alloc]; omega)))) | ((with_reducible refine (hba.block _ ?h).trans ?_); (case h => (first | omega | (simp only [World.size_drew, World.size_alloc]; omega))))))
  · (repeat (first | (with_reducible exact hb3) | (with_reducible refine below_alloc ?_ HS3 _) | (with_reducible refine Below.drew ?_) | (with_reducible refine Below.setCell ?_ (by dsimp only; omega) _)))

set_option maxHeartbeats 1600000 in
theorem made_11_8 {w W0 W1 wA wB : World} {W H : Nat} {n ga gb : Nat} {ks js : List Int} (hb2 : Below (w.heap.size + 3) W0 W1) (HS3 : w.heap.size + 3 ≤ W0.heap.size)
    (hba : Below (W1.alloc (.cells #[.int .i64 0, .int .i64 0, .slice none 0 0] 188)).drew.heap.size (W1.alloc (.cells #[.int .i64 0, .int .i64 0, .slice none 0 0] 188)).drew wA) (hga : (W1.alloc (.cells #[.int .i64 0, .int .i64 0, .slice none 0 0] 188)).drew.heap.size ≤ ga) (hra : RowAt wA ga n ks) (hbb : Below (wA.alloc (.cells #[.int .i64 0, .int .i64 0, .slice none 0 0] 188)).heap.size (wA.alloc (.cells #[.int .i64 0, .int .i64 0, .slice none 0 0] 188)) wB) (hgb : (wA.alloc (.cells #[.int .i64 0, .int .i64 0, .slice none 0 0] 188)).heap.size ≤ gb) (hrb : RowAt wB gb n js) (hb3 : Below (w.heap.size + 3) W0 wB) :
    GridsMade w W0 W H n ks js (.pointer (some ⟨wA.heap.size, 0, none⟩)) (.pointer (some ⟨W1.heap.size, 0, none⟩)) ((((((wB.setCell ⟨wA.heap.size, 0, none⟩ (.int .i64 W)).setCell ⟨wA.heap.size, 1, none⟩ (.int .i64 H)).setCell ⟨wA.heap.size, 2, none⟩ (.slice (some ⟨ga, 0, none⟩) n n)).setCell ⟨W1.heap.size, 0, none⟩ (.int .i64 W)).setCell ⟨W1.heap.size, 1, none⟩ (.int .i64 H)).setCell ⟨W1.heap.size, 2, none⟩ (.slice (some ⟨gb, 0, none⟩) n n)) := by
  have s1 := hb2.size
  have s2 := hba.size
  have s3 := hbb.size
  have l1 := hra.lt
  have l2 := hrb.lt
  simp only [World.size_drew, World.size_alloc] at s2 s3 hga hgb
  have hrB : RowAt wB ga n ks := RowAt.below (RowAt.alloc hra _) hbb (by first | omega | (simp only [World.size_alloc]; omega))
  refine ⟨_, _, ga, gb, rfl, rfl, GridAt.of_blk (T := 188) ?_, GridAt.of_blk (T := 188) ?_, ?_, ?_, lt_of_blk (o := .cells #[.int .i64 W, .int .i64 H, .slice (some ⟨ga, 0, none⟩) n n] 188 (0, 0)) ?_, lt_of_blk (o := .cells #[.int .i64 W, .int .i64 H, .slice (some ⟨gb, 0, none⟩) n n] 188 (0, 0)) ?_, ?_⟩
  · (repeat (first | (with_reducible exact blk_alloc_new _ _) | (with_reducible exact blk_alloc_new1 _ _ _) | ((with_reducible refine blk_alloc_at _ _ ?_); (simp only [World.size_setCell, World.size_drew, World.size_alloc]; done)) | (with_reducible refine blk_set3 (x := .int .i64 0) (y := .int .i64 0) (z := .slice none 0 0) ?_ _ _ _) | ((with_reducible refine blk_set_other ?_ ?h _); (case h => (dsimp only; omega))) | (with_reducible refine blk_alloc_other ?_ _) | (with_reducible refine blk_drew ?_) | ((with_reducible refine (hbb.block _ ?h).trans ?_); (case h => (first | omega | (simp only [World.size_drew, World.size_alloc]; omega)))) | ((with_reducible refine (hba.block _ ?h).trans ?_); (case h => (first | omega | (simp only [World.size_drew, World.size_alloc]; omega))))))
  · (repeat (first | (with_reducible exact blk_alloc_new _ _) | (with_reducible exact blk_alloc_new1 _ _ _) | ((with_reducible refine blk_alloc_at _ _ ?_); (simp only [World.size_setCell, World.size_drew, World.size_alloc]; done)) | (with_reducible refine blk_set3 (x := .int .i64 0) (y := .int .i64 0) (z := .slice none 0 0) ?_ _ _ _) | ((with_reducible refine blk_set_other ?_ ?h _); (case h => (dsimp only; omega))) | (with_reducible refine blk_alloc_other ?_ _) | (with_reducible refine blk_drew ?_) | ((with_reducible refine (hbb.block _ ?h).trans ?_); (case h => (first | omega | (simp only [World.size_drew, World.size_alloc]; omega)))) | ((with_reducible refine (hba.block _ ?h).trans ?_); (case h => (first | omega | (simp only [World.size_drew, World.size_alloc]; omega))))))
  · (repeat (first | (with_reducible exact hrB) | (with_reducible refine RowAt.set ?_ (by dsimp only; omega) _) | (with_reducible refine RowAt.alloc ?_ _)))
  · (repeat (first | (with_reducible exact hrb) | (with_reducible refine RowAt.set ?_ (by dsimp only; omega) _) | (with_reducible refine RowAt.alloc ?_ _)))
  · (repeat (first | (with_reducible exact blk_alloc_new _ _) | (with_reducible exact blk_alloc_new1 _ _ _) | ((with_reducible refine blk_alloc_at _ _ ?_); (simp only [World.size_setCell, World.size_drew, World.size_alloc]; done)) | (with_reducible refine blk_set3 (x := .int .i64 0) (y := .int .i64 0) (z := .slice none 0 0) ?_ _ _ _) | ((with_reducible refine blk_set_other ?_ ?h _); (case h => (dsimp only; omega))) | (with_reducible refine blk_alloc_other ?_ _) | (with_reducible refine blk_drew ?_) | ((with_reducible refine (hbb.block _ ?h).trans ?_); (case h => (first | omega | (simp only [World.size_drew, World.size_alloc]; omega)))) | ((with_reducible refine (hba.block _ ?h).trans ?_); (case h => (first | omega | (simp only [World.size_drew, World.size_alloc]; omega))))))
  · (repeat (first | (with_reducible exact blk_alloc_new _ _) | (with_reducible exact blk_alloc_new1 _ _ _) | ((with_reducible refine blk_alloc_at _ _ ?_); (simp only [World.size_setCell, World.size_drew, World.size_alloc]; done)) | (with_reducible refine blk_set3 (x := .int .i64 0) (y := .int .i64 0) (z := .slice none 0 0) ?_ _ _ _) | ((with_reducible refine blk_set_other ?_ ?h _); (case h => (dsimp only; omega))) | (with_reducible refine blk_alloc_other ?_ _) | (with_reducible refine blk_drew ?_) | ((with_reducible refine (hbb.block _ ?h).trans ?_); (case h => (first | omega | (simp only [World.size_drew, World.size_alloc]; omega)))) | ((with_reducible refine (hba.block _ ?h).trans ?_); (case h => (first | omega | (simp only [World.size_drew, World.size_alloc]; omega))))))
  · (repeat (first | (with_reducible exact hb3) | (with_reducible refine below_alloc ?_ HS3 _) | (with_reducible refine Below.drew ?_) | (with_reducible refine Below.setCell ?_ (by dsimp only; omega) _)))

set_option maxHeartbeats 1600000 in
theorem made_20_7 {w W0 W1 wA wB : World} {W H : Nat} {n ga gb : Nat} {ks js : List Int} (hb2 : Below (w.heap.size + 3) W0 W1) (HS3 : w.heap.size + 3 ≤ W0.heap.size)
    (hba : Below ((W1.alloc (.cells #[.int .i64 0, .int .i64 0, .slice none 0 0] 188)).alloc (.cells #[.int .i64 0, .int .i64 0, .slice none 0 0] 188)).drew.heap.size ((W1.alloc (.cells #[.int .i64 0, .int .i64 0, .slice none 0 0] 188)).alloc (.cells #[.int .i64 0, .int .i64 0, .slice none 0 0] 188)).drew wA) (hga : ((W1.alloc (.cells #[.int .i64 0, .int .i64 0, .slice none 0 0] 188)).alloc (.cells #[.int .i64 0, .int .i64 0, .slice none 0 0] 188)).drew.heap.size ≤ ga) (hra : RowAt wA ga n ks) (hbb : Below wA.heap.size wA wB) (hgb : wA.heap.size ≤ gb) (hrb : RowAt wB gb n js) (hb3 : Below (w.heap.size + 3) W0 wB) :
    GridsMade w W0 W H n ks js (.pointer (some ⟨W1.heap.size, 0, none⟩)) (.pointer (some ⟨W1.heap.size + 1, 0, none⟩)) ((((((wB.setCell ⟨W1.heap.size, 0, none⟩ (.int .i64 W)).setCell ⟨W1.heap.size, 1, none⟩ (.int .i64 H)).setCell ⟨W1.heap.size, 2, none⟩ (.slice (some ⟨ga, 0, none⟩) n n)).setCell ⟨W1.heap.size + 1, 0, none⟩ (.int .i64 W)).setCell ⟨W1.heap.size + 1, 1, none⟩ (.int .i64 H)).setCell ⟨W1.heap.size + 1, 2, none⟩ (.slice (some ⟨gb, 0, none⟩) n n)) := by
  have s1 := hb2.size
  have s2 := hba.size
  have s3 := hbb.size
  have l1 := hra.lt
  have l2 := hrb.lt
  simp only [World.size_drew, World.size_alloc] at s2 s3 hga hgb
  have hrB : RowAt wB ga n ks := RowAt.below hra hbb (by first | omega | (simp only [World.size_alloc]; omega))
  refine ⟨_, _, ga, gb, rfl, rfl, GridAt.of_blk (T := 188) ?_, GridAt.of_blk (T := 188) ?_, ?_, ?_, lt_of_blk (o := .cells #[.int .i64 W, .int .i64 H, .slice (some ⟨ga, 0, none⟩) n n] 188 (0, 0)) ?_, lt_of_blk (o := .cells #[.int .i64 W, .int .i64 H, .slice (some ⟨gb, 0, none⟩) n n] 188 (0, 0)) ?_, ?_⟩
  · (repeat (first | (with_reducible exact blk_alloc_new _ _) | (with_reducible exact blk_alloc_new1 _ _ _) | ((with_reducible refine blk_alloc_at _ _ ?_); (simp only [World.size_setCell, World.size_drew, World.size_alloc]; done)) | (with_reducible refine blk_set3 (x := .int .i64 0) (y := .int .i64 0) (z := .slice none 0 0) ?_ _ _ _) | ((with_reducible refine blk_set_other ?_ ?h _); (case h => (dsimp only; omega))) | (with_reducible refine blk_alloc_other ?_ _) | (with_reducible refine blk_drew ?_) | ((with_reducible refine (hbb.block _ ?h).trans ?_); (case h => (first | omega | (simp only [World.size_drew, World.size_alloc]; omega)))) | ((with_reducible refine (hba.block _ ?h).trans ?_); (case h => (first | omega | (simp only [World.size_drew, World.size_alloc]; omega))))))
  · (repeat (first | (with_reducible exact blk_alloc_new _ _) | (with_reducible exact blk_alloc_new1 _ _ _) | ((with_reducible refine blk_alloc_at _ _ ?_); (simp only [World.size_setCell, World.size_drew, World.size_alloc]; done)) | (with_reducible refine blk_set3 (x := .int .i64 0) (y := .int .i64 0) (z := .slice none 0 0) ?_ _ _ _) | ((with_reducible refine blk_set_other ?_ ?h _); (case h => (dsimp only; omega))) | (with_reducible refine blk_alloc_other ?_ _) | (with_reducible refine blk_drew ?_) | ((with_reducible refine (hbb.block _ ?h).trans ?_); (case h => (first | omega | (simp only [World.size_drew, World.size_alloc]; omega)))) | ((with_reducible refine (hba.block _ ?h).trans ?_); (case h => (first | omega | (simp only [World.size_drew, World.size_alloc]; omega))))))
  · (repeat (first | (with_reducible exact hrB) | (with_reducible refine RowAt.set ?_ (by dsimp only; omega) _) | (with_reducible refine RowAt.alloc ?_ _)))
  · (repeat (first | (with_reducible exact hrb) | (with_reducible refine RowAt.set ?_ (by dsimp only; omega) _) | (with_reducible refine RowAt.alloc ?_ _)))
  · (repeat (first | (with_reducible exact blk_alloc_new _ _) | (with_reducible exact blk_alloc_new1 _ _ _) | ((with_reducible refine blk_alloc_at _ _ ?_); (simp only [World.size_setCell, World.size_drew, World.size_alloc]; done)) | (with_reducible refine blk_set3 (x := .int .i64 0) (y := .int .i64 0) (z := .slice none 0 0) ?_ _ _ _) | ((with_reducible refine blk_set_other ?_ ?h _); (case h => (dsimp only; omega))) | (with_reducible refine blk_alloc_other ?_ _) | (with_reducible refine blk_drew ?_) | ((with_reducible refine (hbb.block _ ?h).trans ?_); (case h => (first | omega | (simp only [World.size_drew, World.size_alloc]; omega)))) | ((with_reducible refine (hba.block _ ?h).trans ?_); (case h => (first | omega | (simp only [World.size_drew, World.size_alloc]; omega))))))
  · (repeat (first | (with_reducible exact blk_alloc_new _ _) | (with_reducible exact blk_alloc_new1 _ _ _) | ((with_reducible refine blk_alloc_at _ _ ?_); (simp only [World.size_setCell, World.size_drew, World.size_alloc]; done)) | (with_reducible refine blk_set3 (x := .int .i64 0) (y := .int .i64 0) (z := .slice none 0 0) ?_ _ _ _) | ((with_reducible refine blk_set_other ?_ ?h _); (case h => (dsimp only; omega))) | (with_reducible refine blk_alloc_other ?_ _) | (with_reducible refine blk_drew ?_) | ((with_reducible refine (hbb.block _ ?h).trans ?_); (case h => (first | omega | (simp only [World.size_drew, World.size_alloc]; omega)))) | ((with_reducible refine (hba.block _ ?h).trans ?_); (case h => (first | omega | (simp only [World.size_drew, World.size_alloc]; omega))))))
  · (repeat (first | (with_reducible exact hb3) | (with_reducible refine below_alloc ?_ HS3 _) | (with_reducible refine Below.drew ?_) | (with_reducible refine Below.setCell ?_ (by dsimp only; omega) _)))

set_option maxHeartbeats 1600000 in
theorem made_20_8 {w W0 W1 wA wB : World} {W H : Nat} {n ga gb : Nat} {ks js : List Int} (hb2 : Below (w.heap.size + 3) W0 W1) (HS3 : w.heap.size + 3 ≤ W0.heap.size)
    (hba : Below ((W1.alloc (.cells #[.int .i64 0, .int .i64 0, .slice none 0 0] 188)).alloc (.cells #[.int .i64 0, .int .i64 0, .slice none 0 0] 188)).drew.heap.size ((W1.alloc (.cells #[.int .i64 0, .int .i64 0, .slice none 0 0] 188)).alloc (.cells #[.int .i64 0, .int .i64 0, .slice none 0 0] 188)).drew wA) (hga : ((W1.alloc (.cells #[.int .i64 0, .int .i64 0, .slice none 0 0] 188)).alloc (.cells #[.int .i64 0, .int .i64 0, .slice none 0 0] 188)).drew.heap.size ≤ ga) (hra : RowAt wA ga n ks) (hbb : Below wA.heap.size wA wB) (hgb : wA.heap.size ≤ gb) (hrb : RowAt wB gb n js) (hb3 : Below (w.heap.size + 3) W0 wB) :
    GridsMade w W0 W H n ks js (.pointer (some ⟨W1.heap.size + 1, 0, none⟩)) (.pointer (some ⟨W1.heap.size, 0, none⟩)) ((((((wB.setCell ⟨W1.heap.size + 1, 0, none⟩ (.int .i64 W)).setCell ⟨W1.heap.size + 1, 1, none⟩ (.int .i64 H)).setCell ⟨W1.heap.size + 1, 2, none⟩ (.slice (some ⟨ga, 0, none⟩) n n)).setCell ⟨W1.heap.size, 0, none⟩ (.int .i64 W)).setCell ⟨W1.heap.size, 1, none⟩ (.int .i64 H)).setCell ⟨W1.heap.size, 2, none⟩ (.slice (some ⟨gb, 0, none⟩) n n)) := by
  have s1 := hb2.size
  have s2 := hba.size
  have s3 := hbb.size
  have l1 := hra.lt
  have l2 := hrb.lt
  simp only [World.size_drew, World.size_alloc] at s2 s3 hga hgb
  have hrB : RowAt wB ga n ks := RowAt.below hra hbb (by first | omega | (simp only [World.size_alloc]; omega))
  refine ⟨_, _, ga, gb, rfl, rfl, GridAt.of_blk (T := 188) ?_, GridAt.of_blk (T := 188) ?_, ?_, ?_, lt_of_blk (o := .cells #[.int .i64 W, .int .i64 H, .slice (some ⟨ga, 0, none⟩) n n] 188 (0, 0)) ?_, lt_of_blk (o := .cells #[.int .i64 W, .int .i64 H, .slice (some ⟨gb, 0, none⟩) n n] 188 (0, 0)) ?_, ?_⟩
  · (repeat (first | (with_reducible exact blk_alloc_new _ _) | (with_reducible exact blk_alloc_new1 _ _ _) | ((with_reducible refine blk_alloc_at _ _ ?_); (simp only [World.size_setCell, World.size_drew, World.size_alloc]; done)) | (with_reducible refine blk_set3 (x := .int .i64 0) (y := .int .i64 0) (z := .slice none 0 0) ?_ _ _ _) | ((with_reducible refine blk_set_other ?_ ?h _); (case h => (dsimp only; omega))) | (with_reducible refine blk_alloc_other ?_ _) | (with_reducible refine blk_drew ?_) | ((with_reducible refine (hbb.block _ ?h).trans ?_); (case h => (first | omega | (simp only [World.size_drew, World.size_alloc]; omega)))) | ((with_reducible refine (hba.block _ ?h).trans ?_); (case h => (first | omega | (simp only [World.size_drew, World.size_alloc]; omega))))))
  · (repeat (first | (with_reducible exact blk_alloc_new _ _) | (with_reducible exact blk_alloc_new1 _ _ _) | ((with_reducible refine blk_alloc_at _ _ ?_); (simp only [World.size_setCell, World.size_drew, World.size_alloc]; done)) | (with_reducible refine blk_set3 (x := .int .i64 0) (y := .int .i64 0) (z := .slice none 0 0) ?_ _ _ _) | ((with_reducible refine blk_set_other ?_ ?h _); (case h => (dsimp only; omega))) | (with_reducible refine blk_alloc_other ?_ _) | (with_reducible refine blk_drew ?_) | ((with_reducible refine (hbb.block _ ?h).trans ?_); (case h => (first | omega | (simp only [World.size_drew, World.size_alloc]; omega)))) | ((with_reducible refine (hba.block _ ?h).trans ?_); (case h => (first | omega | (simp only [World.size_drew, World.size_alloc]; omega))))))
  · (repeat (first | (with_reducible exact hrB) | (with_reducible refine RowAt.set ?_ (by dsimp only; omega) _) | (with_reducible refine RowAt.alloc ?_ _)))
  · (repeat (first | (with_reducible exact hrb) | (with_reducible refine RowAt.set ?_ (by dsimp only; omega) _) | (with_reducible refine RowAt.alloc ?_ _)))
  · (repeat (first | (with_reducible exact blk_alloc_new _ _) | (with_reducible exact blk_alloc_new1 _ _ _) | ((with_reducible refine blk_alloc_at _ _ ?_); (simp only [World.size_setCell, World.size_drew, World.size_alloc]; done)) | (with_reducible refine blk_set3 (x := .int .i64 0) (y := .int .i64 0) (z := .slice none 0 0) ?_ _ _ _) | ((with_reducible refine blk_set_other ?_ ?h _); (case h => (dsimp only; omega))) | (with_reducible refine blk_alloc_other ?_ _) | (with_reducible refine blk_drew ?_) | ((with_reducible refine (hbb.block _ ?h).trans ?_); (case h => (first | omega | (simp only [World.size_drew, World.size_alloc]; omega)))) | ((with_reducible refine (hba.block _ ?h).trans ?_); (case h => (first | omega | (simp only [World.size_drew, World.size_alloc]; omega))))))
  · (repeat (first | (with_reducible exact blk_alloc_new _ _) | (with_reducible exact blk_alloc_new1 _ _ _) | ((with_reducible refine blk_alloc_at _ _ ?_); (simp only [World.size_setCell, World.size_drew, World.size_alloc]; done)) | (with_reducible refine blk_set3 (x := .int .i64 0) (y := .int .i64 0) (z := .slice none 0 0) ?_ _ _ _) | ((with_reducible refine blk_set_other ?_ ?h _); (case h => (dsimp only; omega))) | (with_reducible refine blk_alloc_other ?_ _) | (with_reducible refine blk_drew ?_) | ((with_reducible refine (hbb.block _ ?h).trans ?_); (case h => (first | omega | (simp only [World.size_drew, World.size_alloc]; omega)))) | ((with_reducible refine (hba.block _ ?h).trans ?_); (case h => (first | omega | (simp only [World.size_drew, World.size_alloc]; omega))))))
  · (repeat (first | (with_reducible exact hb3) | (with_reducible refine below_alloc ?_ HS3 _) | (with_reducible refine Below.drew ?_) | (with_reducible refine Below.setCell ?_ (by dsimp only; omega) _)))

end Go.Proofs.YtfdkmmllemkogaaGreatDoor

/-
  Contract of Added for two right maps of one size whose sums are in range: the map of the sums.
-/
namespace Go.Proofs.YtfdkmmllemkogaaGreatDoor
open Go.RowKit
set_option linter.unusedVariables false
attribute [local go_sem ↓] Go.wp_at_zero Go.wp_at_succ

set_option maxRecDepth 100000 in
set_option maxHeartbeats 25600000 in
theorem added_any (W H : Nat) (b o c b' o' c' n : Nat) (xs ys : List Nat) (ks js : List Int) (w : World) (hA : RightMap w W H b o n xs ks) (hB : RightMap w W H b' o' n ys js) (hb : b < w.heap.size) (hb' : b' < w.heap.size)
    (hs : ∀ j : Nat, (ks[j]?.getD 0 + js[j]?.getD 0 : Int).natAbs ≤ 16384) :
    Calls Tryz.prog 58 #[.agg #[.int .i64 W, .int .i64 H, .slice (some ⟨b, o, none⟩) n c], .agg #[.int .i64 W, .int .i64 H, .slice (some ⟨b', o', none⟩) n c']] w fun e w' =>
      ∃ g, e = .returned (.tuple #[.agg #[.int .i64 W, .int .i64 H, .slice (some ⟨g, 0, none⟩) n n], .int .i64 0]) ∧ g < w'.heap.size ∧ (∀ j, j < n → w'.cell? ⟨g, j, none⟩ = some (.float .f32 (smpOf (ks[j]?.getD 0 + js[j]?.getD 0)))) ∧ Below w.heap.size w w' := by
  obtain ⟨W0, hW0⟩ : ∃ W0, ((w.alloc (.cells #[.int .i64 W, .int .i64 H, .slice (some ⟨b, o, none⟩) n c] 54)).alloc (.cells #[.int .i64 W, .int .i64 H, .slice (some ⟨b', o', none⟩) n c'] 54)).alloc (.cells #[.int .i64 0, .int .i64 0, .slice none 0 0] 54) = W0 := ⟨_, rfl⟩
  have hB0 : Below w.heap.size w W0 := by rw [← hW0]; exact (((Below.refl _ w).alloc (Nat.le_refl _) _).alloc (by simp) _).alloc (by simp; omega) _
  have hS0 : W0.heap.size = w.heap.size + 3 := by rw [← hW0]; simp
  have a0 : W0.cell? ⟨w.heap.size, 0, none⟩ = some (.int .i64 W) := by rw [← hW0]; simp [go_sem]
  have a1 : W0.cell? ⟨w.heap.size, 1, none⟩ = some (.int .i64 H) := by rw [← hW0]; simp [go_sem]
  have a2 : W0.cell? ⟨w.heap.size, 2, none⟩ = some (.slice (some ⟨b, o, none⟩) n c) := by rw [← hW0]; simp [go_sem]
  have c0 : W0.cell? ⟨w.heap.size + 1, 0, none⟩ = some (.int .i64 W) := by rw [← hW0]; simp [go_sem]
  have c1 : W0.cell? ⟨w.heap.size + 1, 1, none⟩ = some (.int .i64 H) := by rw [← hW0]; simp [go_sem]
  have c2 : W0.cell? ⟨w.heap.size + 1, 2, none⟩ = some (.slice (some ⟨b', o', none⟩) n c') := by rw [← hW0]; simp [go_sem]
  have z0 : W0.cell? ⟨w.heap.size + 1 + 1, 0, none⟩ = some (.int .i64 0) := by rw [← hW0]; simp [go_sem]
  have z1 : W0.cell? ⟨w.heap.size + 1 + 1, 1, none⟩ = some (.int .i64 0) := by rw [← hW0]; simp [go_sem]
  have z2 : W0.cell? ⟨w.heap.size + 1 + 1, 2, none⟩ = some (.slice none 0 0) := by rw [← hW0]; simp [go_sem]
  have zf : ∀ j, W0.frozen? ⟨w.heap.size + 1 + 1, j, none⟩ = false := fun j => by rw [← hW0]; simp [go_sem]
  have KA : ∀ w1 : World, Blw (w.heap.size + 3) W0 w1 → Calls Tryz.prog 47 #[.agg #[.int .i64 W, .int .i64 H, .slice (some ⟨b, o, none⟩) n c]] w1 fun e w' => e = .returned (.int .i64 0) ∧ Below (w.heap.size + 3) W0 w' := fun w1 (h : Below (w.heap.size + 3) W0 w1) => by
    have h1 := h.size
    have h2 := hB0.trans (h.mono (by omega))
    exact (checkMap_any W H b o n c xs ks w1 (hA.below h2 hb) (by omega)).mono fun e w' ⟨he, hw⟩ => ⟨he, h.trans (hw.mono (by omega))⟩
  have KB : ∀ w1 : World, Blw (w.heap.size + 3) W0 w1 → Calls Tryz.prog 47 #[.agg #[.int .i64 W, .int .i64 H, .slice (some ⟨b', o', none⟩) n c']] w1 fun e w' => e = .returned (.int .i64 0) ∧ Below (w.heap.size + 3) W0 w' := fun w1 (h : Below (w.heap.size + 3) W0 w1) => by
    have h1 := h.size
    have h2 := hB0.trans (h.mono (by omega))
    exact (checkMap_any W H b' o' n c' ys js w1 (hB.below h2 hb') (by omega)).mono fun e w' ⟨he, hw⟩ => ⟨he, h.trans (hw.mono (by omega))⟩
  have GA : ∀ w1 : World, Blw (w.heap.size + 3) W0 w1 → Calls Tryz.prog 123 #[.agg #[.int .i64 W, .int .i64 H, .slice (some ⟨b, o, none⟩) n c]] w1 fun e w' =>
      ∃ g, e = .returned (.agg #[.int .i64 W, .int .i64 H, .slice (some ⟨g, 0, none⟩) n n]) ∧ w1.heap.size ≤ g ∧ RowAt w' g n ks ∧ Below w1.heap.size w1 w' ∧ Below (w.heap.size + 3) W0 w' := fun w1 (h : Below (w.heap.size + 3) W0 w1) => by
    have h1 := h.size
    have h2 := hB0.trans (h.mono (by omega))
    exact (grid_row W H b o n c xs ks w1 (hA.below h2 hb).toWords (by omega)).mono fun e w' ⟨g, he, h3, h4, h5⟩ => ⟨g, he, h3, h4, h5, h.trans (h5.mono (by omega))⟩
  have GB : ∀ w1 : World, Blw (w.heap.size + 3) W0 w1 → Calls Tryz.prog 123 #[.agg #[.int .i64 W, .int .i64 H, .slice (some ⟨b', o', none⟩) n c']] w1 fun e w' =>
      ∃ g, e = .returned (.agg #[.int .i64 W, .int .i64 H, .slice (some ⟨g, 0, none⟩) n n]) ∧ w1.heap.size ≤ g ∧ RowAt w' g n js ∧ Below w1.heap.size w1 w' ∧ Below (w.heap.size + 3) W0 w' := fun w1 (h : Below (w.heap.size + 3) W0 w1) => by
    have h1 := h.size
    have h2 := hB0.trans (h.mono (by omega))
    exact (grid_row W H b' o' n c' ys js w1 (hB.below h2 hb').toWords (by omega)).mono fun e w' ⟨g, he, h3, h4, h5⟩ => ⟨g, he, h3, h4, h5, h.trans (h5.mono (by omega))⟩
  have HKA := Lib.hid KA
  have HKB := Lib.hid KB
  have HGA := Lib.hid GA
  have HGB := Lib.hid GB
  have HB0 := Lib.hid hB0
  have HS0 := Lib.hid hS0
  have HSUM := Lib.hid hs
  have HRA := Lib.hid hA
  have HRB := Lib.hid hB
  have hR : Blw (w.heap.size + 3) W0 W0.drew := show Below _ _ _ from (Below.refl (w.heap.size + 3) W0).drew
  clear KA KB GA GB hs hA hB hB0 hS0
  go_enter Tryz.func58, Tryz.ntmps58
  go_wp2_with fail
  try rw [hW0]
  clear hW0
  go_region_held3 (fun w' => w'.cell? ⟨w.heap.size, 0, none⟩ = some (.int .i64 W) ∧ w'.cell? ⟨w.heap.size, 1, none⟩ = some (.int .i64 H) ∧ w'.cell? ⟨w.heap.size, 2, none⟩ = some (.slice (some ⟨b, o, none⟩) n c) ∧
      w'.cell? ⟨w.heap.size + 1, 0, none⟩ = some (.int .i64 W) ∧ w'.cell? ⟨w.heap.size + 1, 1, none⟩ = some (.int .i64 H) ∧ w'.cell? ⟨w.heap.size + 1, 2, none⟩ = some (.slice (some ⟨b', o', none⟩) n c') ∧ Blw (w.heap.size + 3) W0 w')
    (first
      | (go_split_ands; refine ⟨?_, ?_, ?_, ?_, ?_, ?_, ?_⟩ <;> first | assumption | exact hb1 | ((rw [hb1.cell (by simp; try omega)]; assumption)))
      | (go_split_ands; refine ⟨?_, ?_, ?_, ?_, ?_, ?_, ?_⟩ <;> first | ((rw [(hb1.alloc (by have := hb1.size; have := HS0.out; omega) _).cell (by simp; try omega)]; assumption)) | exact (hb1.alloc (by have := hb1.size; have := HS0.out; omega) _ : Below _ _ _))
      | go_keep)
    (first
      | (go_at_call_of 47 (Value.agg #[.int .i64 W, .int .i64 H, .slice (some ⟨b, o, none⟩) n c]); refine (HKA.out _ ?_).mono ?_; rotate_left 1; rintro e w' ⟨rfl, hb1⟩; rotate_left 1; (simp [*]))
      | (go_at_call_of 47 (Value.agg #[.int .i64 W, .int .i64 H, .slice (some ⟨b', o', none⟩) n c']); refine (HKB.out _ ?_).mono ?_; rotate_left 1; rintro e w' ⟨rfl, hb1⟩; rotate_left 1; (simp [*]))
      | ((go_at_call 109; refine (first_zeros _ 0 2 2 (by omega) _ ?_).mono ?_; rotate_left 1; rintro e w' ⟨rfl, rfl⟩; rotate_left 1; (intro j hj; match j, hj with | 0, _ => simp [go_sem] | 1, _ => simp [go_sem]))))
  have hb2 : Below (w.heap.size + 3) W0 (w'.alloc (.cells #[.int .i64 0, .int .i64 0] 26)) := hb1.alloc (by have := hb1.size; have := HS0.out; omega) _
  obtain ⟨W1, hW1⟩ : ∃ W1, w'.alloc (.cells #[.int .i64 0, .int .i64 0] 26) = W1 := ⟨_, rfl⟩
  rw [hW1] at hb2 ⊢
  clear hW1
  have a0' := (hb2.cell (p := ⟨w.heap.size, 0, none⟩) (by show w.heap.size < _; omega)).trans a0
  have a1' := (hb2.cell (p := ⟨w.heap.size, 1, none⟩) (by show w.heap.size < _; omega)).trans a1
  have a2' := (hb2.cell (p := ⟨w.heap.size, 2, none⟩) (by show w.heap.size < _; omega)).trans a2
  have c0' := (hb2.cell (p := ⟨w.heap.size + 1, 0, none⟩) (by show w.heap.size + 1 < _; omega)).trans c0
  have c1' := (hb2.cell (p := ⟨w.heap.size + 1, 1, none⟩) (by show w.heap.size + 1 < _; omega)).trans c1
  have c2' := (hb2.cell (p := ⟨w.heap.size + 1, 2, none⟩) (by show w.heap.size + 1 < _; omega)).trans c2
  have eW : ((W : Int) != W) = false := by simp
  have eH : ((H : Int) != H) = false := by simp
  have HS3 : w.heap.size + 3 ≤ W0.heap.size := by have := HS0.out; omega
  have hR2 : Below (w.heap.size + 3) W0 W1.drew := hb2.drew
  go_upto_region 6 with fail
  go_cut [7, 8] (fun s7 s8 wx => GridsMade w W0 W H n ks js s7 s8 wx)
  case first =>
   have hb3 := hb2
   have hz3 := hb3.size
   go_region_held3 (fun w' => w'.cell? ⟨w.heap.size, 0, none⟩ = some (.int .i64 W) ∧ w'.cell? ⟨w.heap.size, 1, none⟩ = some (.int .i64 H) ∧ w'.cell? ⟨w.heap.size, 2, none⟩ = some (.slice (some ⟨b, o, none⟩) n c) ∧
      w'.cell? ⟨w.heap.size + 1, 0, none⟩ = some (.int .i64 W) ∧ w'.cell? ⟨w.heap.size + 1, 1, none⟩ = some (.int .i64 H) ∧ w'.cell? ⟨w.heap.size + 1, 2, none⟩ = some (.slice (some ⟨b', o', none⟩) n c') ∧ Blw (w.heap.size + 3) W0 w')
    ((go_split_ands; refine ⟨?_, ?_, ?_, ?_, ?_, ?_, ?_⟩ <;> first
      | (with_reducible refine Eq.trans (Below.cell (B := w.heap.size + 3) (w := W0) ?_ (by first | (simp; done) | (simp; omega))) (by with_reducible assumption); (repeat (first | (with_reducible exact hb3) | (with_reducible refine below_alloc ?_ HS3 _) | (with_reducible refine Below.drew ?_) | (with_reducible refine Below.setCell ?_ (by dsimp only; omega) _))); done)
      | (show Below _ _ _; (repeat (first | (with_reducible exact hb3) | (with_reducible refine below_alloc ?_ HS3 _) | (with_reducible refine Below.drew ?_) | (with_reducible refine Below.setCell ?_ (by dsimp only; omega) _))); done)))
    (first
      | (go_at_call_of 123 (Value.agg #[.int .i64 W, .int .i64 H, .slice (some ⟨b, o, none⟩) n c]); refine (HGA.out _ ?_).mono ?_; rotate_left 1; rintro e wA ⟨ga, rfl, hga, hra, hba, hb3⟩; (obtain ⟨hcc, hff⟩ := bcell hba); (have hz3 := hb3.size); (have hls := hba.size); (try simp at hls); (try have hqW10 : W1.heap.size < wA.heap.size := by omega); (try have hqW11 : W1.heap.size + 1 < wA.heap.size := by omega); rotate_left 1; (simp [*]))
      | (go_at_call_of 123 (Value.agg #[.int .i64 W, .int .i64 H, .slice (some ⟨b', o', none⟩) n c']); refine (HGB.out _ ?_).mono ?_; rotate_left 1; rintro e wB ⟨gb, rfl, hgb, hrb, hbb, hb3⟩; (obtain ⟨hcc, hff⟩ := bcell hbb); (have hz3 := hb3.size); (have hls := hbb.size); (try simp at hls); (try have hqW10 : W1.heap.size < wB.heap.size := by omega); (try have hqW11 : W1.heap.size + 1 < wB.heap.size := by omega); (try have hqwA0 : wA.heap.size < wB.heap.size := by omega); (try have hqwA1 : wA.heap.size + 1 < wB.heap.size := by omega); rotate_left 1; (simp [*])))
   all_goals go_wp2_with fail
   all_goals go_meet
   all_goals first | (with_reducible exact made_00_7 hb2 HS3 hba hga hra hbb hgb hrb hb3) | (with_reducible exact made_00_8 hb2 HS3 hba hga hra hbb hgb hrb hb3) | (with_reducible exact made_01_7 hb2 HS3 hba hga hra hbb hgb hrb hb3) | (with_reducible exact made_01_8 hb2 HS3 hba hga hra hbb hgb hrb hb3) | (with_reducible exact made_02_7 hb2 HS3 hba hga hra hbb hgb hrb hb3) | (with_reducible exact made_02_8 hb2 HS3 hba hga hra hbb hgb hrb hb3) | (with_reducible exact made_10_7 hb2 HS3 hba hga hra hbb hgb hrb hb3) | (with_reducible exact made_10_8 hb2 HS3 hba hga hra hbb hgb hrb hb3) | (with_reducible exact made_11_7 hb2 HS3 hba hga hra hbb hgb hrb hb3) | (with_reducible exact made_11_8 hb2 HS3 hba hga hra hbb hgb hrb hb3) | (with_reducible exact made_20_7 hb2 HS3 hba hga hra hbb hgb hrb hb3) | (with_reducible exact made_20_8 hb2 HS3 hba hga hra hbb hgb hrb hb3)
  case rest =>
    obtain ⟨g7, g8, ga, gb, rfl, rfl, hGA, hGB, hRA, hRB, l7, l8, hbc⟩ := hcut
    obtain ⟨q0, q1, q2⟩ := hGA
    have hGA1 := q1
    obtain ⟨r0, r1, r2⟩ := hGB
    have hbw := hbc.size
    have hS3 := HS0.out
    have z0' := (hbc.cell (p := ⟨w.heap.size + 1 + 1, 0, none⟩) (by show w.heap.size + 1 + 1 < _; omega)).trans z0
    have z1' := (hbc.cell (p := ⟨w.heap.size + 1 + 1, 1, none⟩) (by show w.heap.size + 1 + 1 < _; omega)).trans z1
    have z2' := (hbc.cell (p := ⟨w.heap.size + 1 + 1, 2, none⟩) (by show w.heap.size + 1 + 1 < _; omega)).trans z2
    have zf' : ∀ j, wc.frozen? ⟨w.heap.size + 1 + 1, j, none⟩ = false := fun j => (hbc.frozen (p := ⟨w.heap.size + 1 + 1, j, none⟩) (by show w.heap.size + 1 + 1 < _; omega)).trans (zf j)
    have hN : W * H = n := by have := HRA.out.area; exact_mod_cast this
    have KP := Lib.hid (callsIn_wide.1 (painted_added W H (by have := HRA.out.wid; omega) (by have := HRA.out.hei; omega) g7 g8 wc (fun p => ks[p.2 * W + p.1]?.getD 0 + js[p.2 * W + p.1]?.getD 0) (fun p => HSUM.out _) (fun p W1 hp h1 => by
        have hlt := idx_lt hp.1 hp.2 hN
        have hsz := h1.size
        have e1 : ((p.2 : Int) * (W : Int) + (p.1 : Int)).toNat = p.2 * W + p.1 := by
          have : ((p.2 : Int) * (W : Int) + (p.1 : Int)) = ((p.2 * W + p.1 : Nat) : Int) := by push_cast; rfl
          rw [this]; rfl
        have e2 : (p.2 : Int) * (W : Int) = ((p.2 * W : Nat) : Int) := by push_cast; rfl
        have hW := HRA.out.wid
        have hH := HRA.out.hei
        have hsm := HRA.out.small
        have b1 := HRA.out.sizes _ hlt
        have b2 := HRB.out.sizes _ hlt
        have m1 : p.2 * W ≤ 64 * 64 := Nat.mul_le_mul (by omega) (by omega)
        exact added1_any W H ga n n gb n n g7 g8 p.1 p.2 _ _ (by omega) (by omega) (by omega) (by omega) (by omega) (by omega) W1 (by omega) (by omega) (by omega) (by omega) (by have := hRA.lt; omega) (by have := hRB.lt; omega)
          ⟨(h1.cell (p := ⟨g7, 0, none⟩) l7).trans q0, (h1.cell (p := ⟨g7, 1, none⟩) l7).trans q1, (h1.cell (p := ⟨g7, 2, none⟩) l7).trans q2⟩
          ⟨(h1.cell (p := ⟨g8, 0, none⟩) l8).trans r0, (h1.cell (p := ⟨g8, 1, none⟩) l8).trans r1, (h1.cell (p := ⟨g8, 2, none⟩) l8).trans r2⟩
          (by rw [e1]; exact (hRA.below h1 hRA.lt).cells _ hlt) (by rw [e1]; exact (hRB.below h1 hRB.lt).cells _ hlt))))
    have HN := Lib.hid hN
    have HRA' := Lib.hid hRA
    clear hN hRA hRB q1 q2 r0 r1 r2 z0 z1 z2 zf a0 a1 a2 c0 c1 c2 a0' a1' a2' c0' c1' c2'
    have q1 := hGA1
    go_wp2_with ((go_at_call 132; refine KP.out.mono ?_; rintro e w5 ⟨g, rfl, hown5, hb5⟩
                  have s0 : w5.cell? ⟨w.heap.size + 1 + 1, 0, none⟩ = some (.int .i64 0) := (hb5.cell (p := ⟨w.heap.size + 1 + 1, 0, none⟩) (by show w.heap.size + 1 + 1 < _; omega)).trans z0'
                  have s1 : w5.cell? ⟨w.heap.size + 1 + 1, 1, none⟩ = some (.int .i64 0) := (hb5.cell (p := ⟨w.heap.size + 1 + 1, 1, none⟩) (by show w.heap.size + 1 + 1 < _; omega)).trans z1'
                  have s2 : w5.cell? ⟨w.heap.size + 1 + 1, 2, none⟩ = some (.slice none 0 0) := (hb5.cell (p := ⟨w.heap.size + 1 + 1, 2, none⟩) (by show w.heap.size + 1 + 1 < _; omega)).trans z2'
                  have f0 : w5.frozen? ⟨w.heap.size + 1 + 1, 0, none⟩ = false := (hb5.frozen (p := ⟨w.heap.size + 1 + 1, 0, none⟩) (by show w.heap.size + 1 + 1 < _; omega)).trans (zf' 0)
                  have f1 : w5.frozen? ⟨w.heap.size + 1 + 1, 1, none⟩ = false := (hb5.frozen (p := ⟨w.heap.size + 1 + 1, 1, none⟩) (by show w.heap.size + 1 + 1 < _; omega)).trans (zf' 1)
                  have f2 : w5.frozen? ⟨w.heap.size + 1 + 1, 2, none⟩ = false := (hb5.frozen (p := ⟨w.heap.size + 1 + 1, 2, none⟩) (by show w.heap.size + 1 + 1 < _; omega)).trans (zf' 2)))
    have hN := HN.out
    have hsz5 := hb5.size
    have hg5 : wc.heap.size ≤ g ∧ g < w5.heap.size := hown5.lt g rfl
    rw [hN] at hown5
    refine bodyPost_ret (v := .tuple #[.agg #[.int .i64 W, .int .i64 H, .slice (some ⟨g, 0, none⟩) n n], .int .i64 0]) (by simp [results, Tryz.results58, go_sem, s0, s1, s2, hN]) rfl ⟨g, rfl, ?_, ?_, ?_⟩
    · simp; omega
    · intro j hj
      refine owns_cell (ownsRow_setCell_below (ownsRow_setCell_below (ownsRow_setCell_below hown5 (by dsimp only; omega) _) (by dsimp only; omega) _) (by dsimp only; omega) _) ?_
      rw [List.getElem?_map, placesTo_get W (H * W) j (by rw [Nat.mul_comm H W, hN]; exact hj), Option.map_some]
      have e : j / W * W + j % W = j := by rw [Nat.mul_comm]; exact Nat.div_add_mod j W
      simp only [e]
    · exact (((HB0.out.trans (hbc.mono (by omega))).trans (hb5.mono (by omega))).setCell (p := ⟨w.heap.size + 1 + 1, 0, none⟩) (by dsimp only; omega) _ |>.setCell (p := ⟨w.heap.size + 1 + 1, 1, none⟩) (by dsimp only; omega) _).setCell (p := ⟨w.heap.size + 1 + 1, 2, none⟩) (by dsimp only; omega) _
end Go.Proofs.YtfdkmmllemkogaaGreatDoor

/-
  Two maps without anything are the same; one() of a result with an error.
-/
namespace Go.Proofs.YtfdkmmllemkogaaGreatDoor
open Go.RowKit
set_option linter.unusedVariables false
set_option linter.unusedSimpArgs false

set_option maxHeartbeats 1600000 in
theorem told_any (W H : Int) (a : Option Addr) (n c : Nat) (w : World) : Calls Tryz.prog 97 #[.agg #[.int .i64 W, .int .i64 H, .slice a n c]] w fun e w' => e = .returned (.agg #[.int .i64 W, .int .i64 H, .slice a n c]) ∧ Below w.heap.size w w' := by
  go_enter Tryz.func97, Tryz.ntmps97
  go_wp2
  refine bodyPost_ret (v := .agg #[.int .i64 W, .int .i64 H, .slice a n c]) (by simp [results, Tryz.results97, go_sem]) rfl ⟨rfl, ?_⟩
  exact ((Below.refl _ w).alloc (Nat.le_refl _) _).alloc (by simp) _

end Go.Proofs.YtfdkmmllemkogaaGreatDoor

/-
  Results that are maps: the map that a list of integers makes, or nothing with an error; one() of two such results.
-/

namespace Go.Proofs.YtfdkmmllemkogaaGreatDoor
open Go.RowKit
set_option linter.unusedVariables false
set_option linter.unusedSimpArgs false

/-- The value of a result that is a map: the map with the integers ls if there is no error, else nothing. -/
structure ResV (w : World) (r W H : Int) (ls : List Int) (X Y : Int) (a : Option Addr) (n c : Nat) : Prop where
  bad : r ≠ 0 → X = 0 ∧ Y = 0 ∧ a = none ∧ n = 0 ∧ c = 0
  ok : r = 0 → X = W ∧ Y = H ∧ ls.length = n ∧ n ≤ 4096 ∧ (∀ j, j < n → (ls[j]?.getD 0).natAbs ≤ 16384) ∧
    ∃ g, a = some ⟨g, 0, none⟩ ∧ g < w.heap.size ∧ ∀ j, j < n → w.cell? ⟨g, j, none⟩ = some (.float .f32 (smpOf (ls[j]?.getD 0)))
theorem ResV.kept {w w' : World} {r W H : Int} {ls : List Int} {X Y : Int} {a : Option Addr} {n c : Nat} (h : ResV w r W H ls X Y a n c) (hb : Below w.heap.size w w') : ResV w' r W H ls X Y a n c :=
  ⟨h.bad, fun h0 => by
    obtain ⟨h1, h2, h3, h4, h5, g, h6, h7, h8⟩ := h.ok h0
    exact ⟨h1, h2, h3, h4, h5, g, h6, Nat.lt_of_lt_of_le h7 hb.size, fun j hj => (hb.cell (p := ⟨g, j, none⟩) h7).trans (h8 j hj)⟩⟩
theorem ResV.none (w : World) (r W H : Int) (ls : List Int) (h : r ≠ 0) : ResV w r W H ls 0 0 none 0 0 :=
  ⟨fun _ => ⟨rfl, rfl, rfl, rfl, rfl⟩, fun h0 => absurd h0 h⟩
theorem ResV.some {w : World} {W H : Int} {ls : List Int} {g n c : Nat} (hl : ls.length = n) (hn : n ≤ 4096) (hs : ∀ j, j < n → (ls[j]?.getD 0).natAbs ≤ 16384) (hg : g < w.heap.size) (hc : ∀ j, j < n → w.cell? ⟨g, j, Option.none⟩ = Option.some (.float .f32 (smpOf (ls[j]?.getD 0)))) :
    ResV w 0 W H ls W H (Option.some ⟨g, 0, Option.none⟩) n c :=
  ⟨fun h => absurd rfl h, fun _ => ⟨rfl, rfl, hl, hn, hs, g, rfl, hg, hc⟩⟩

end Go.Proofs.YtfdkmmllemkogaaGreatDoor

/-
  Variables that hold maps: what a store of a map into one of them keeps.
-/

namespace Go.Proofs.YtfdkmmllemkogaaGreatDoor
open Go.RowKit
set_option linter.unusedVariables false
set_option linter.unusedSimpArgs false

/-- A world in which one block alone is another one. -/
structure OneBlk (w w' : World) (B : Nat) : Prop where
  other : ∀ k, k ≠ B → w'.heap[k]? = w.heap[k]?
  size : w'.heap.size = w.heap.size
theorem OneBlk.set3 (w : World) (B : Nat) (x y z : Value) : OneBlk w (((w.setCell ⟨B, 0, none⟩ x).setCell ⟨B, 1, none⟩ y).setCell ⟨B, 2, none⟩ z) B :=
  ⟨fun k hk => by simp [World.setCell, Array.getElem?_modify, Ne.symm hk], by simp⟩
theorem below_set3 {w w0 : World} {N B : Nat} (h : Below N w0 w) (hB : N ≤ B) (x y z : Value) : Below N w0 (((w.setCell ⟨B, 0, none⟩ x).setCell ⟨B, 1, none⟩ y).setCell ⟨B, 2, none⟩ z) :=
  ((h.setCell (p := ⟨B, 0, none⟩) hB _).setCell (p := ⟨B, 1, none⟩) hB _).setCell (p := ⟨B, 2, none⟩) hB _

/-- A result stays where a variable that holds a map is written. -/
theorem ResV.stored {w w' : World} {B : Nat} {x y : Int} {s : Value} {T : TypeId} (hB : w.heap[B]? = Option.some (.cells #[.int .i64 x, .int .i64 y, s] T (0, 0))) (ho : OneBlk w w' B) {r W H : Int} {ls : List Int} {X Y : Int} {a : Option Addr} {n c : Nat}
    (h : ResV w r W H ls X Y a n c) : ResV w' r W H ls X Y a n c :=
  ⟨h.bad, fun h0 => by
    obtain ⟨h1, h2, h3, h4, h5, g, h6, h7, h8⟩ := h.ok h0
    refine ⟨h1, h2, h3, h4, h5, g, h6, by rw [ho.size]; exact h7, fun j hj => ?_⟩
    by_cases hg : g = B
    · subst hg
      have h9 := h8 0 (by omega)
      rw [cell_of_row w g 0 _ _ (0, 0) hB] at h9
      simp at h9
    · rw [World.cell?_of_block (ho.other g hg)]
      exact h8 j hj⟩

/-- A variable that holds a result. -/
def ResBox (w : World) (B : Nat) (T : TypeId) (r W H : Int) (ls : List Int) : Prop :=
  ∃ X Y a n c, w.heap[B]? = some (.cells #[.int .i64 X, .int .i64 Y, .slice a n c] T (0, 0)) ∧ ResV w r W H ls X Y a n c
theorem ResBox.kept {w w' : World} {B : Nat} {T : TypeId} {r W H : Int} {ls : List Int} (h : ResBox w B T r W H ls) (hb : Below w.heap.size w w') : ResBox w' B T r W H ls := by
  obtain ⟨X, Y, a, n, c, h1, h2⟩ := h
  exact ⟨_, _, _, _, _, (hb.block _ (lt_of_blk h1)).trans h1, h2.kept hb⟩
theorem ResBox.new {w : World} {T : TypeId} {r W H : Int} {ls : List Int} {X Y : Int} {a : Option Addr} {n c : Nat} (h : ResV w r W H ls X Y a n c) : ResBox (w.alloc (.cells #[.int .i64 X, .int .i64 Y, .slice a n c] T)) w.heap.size T r W H ls :=
  ⟨_, _, _, _, _, blk_alloc_new _ _, h.kept ((Below.refl _ _).alloc (Nat.le_refl _) _)⟩

theorem ResBox.put {w : World} {B : Nat} {T : TypeId} {x y : Int} {s : Value} (hB : w.heap[B]? = some (.cells #[.int .i64 x, .int .i64 y, s] T (0, 0))) {r W H : Int} {ls : List Int} {X Y : Int} {a : Option Addr} {n c : Nat}
    (h : ResV w r W H ls X Y a n c) : ResBox (((w.setCell ⟨B, 0, none⟩ (.int .i64 X)).setCell ⟨B, 1, none⟩ (.int .i64 Y)).setCell ⟨B, 2, none⟩ (.slice a n c)) B T r W H ls :=
  ⟨_, _, _, _, _, blk_set3 hB _ _ _, h.stored hB (OneBlk.set3 w B _ _ _)⟩

/-- A variable of the reference that holds what a result must be, where there is no error. -/
def WantBox (w : World) (B : Nat) (r W H : Int) (ls : List Int) : Prop :=
  ∃ X Y a n c, w.heap[B]? = some (.cells #[.int .i64 X, .int .i64 Y, .slice a n c] 48 (0, 0)) ∧ (r = 0 → ResV w r W H ls X Y a n c)
theorem WantBox.kept {w w' : World} {B : Nat} {r W H : Int} {ls : List Int} (h : WantBox w B r W H ls) (hb : Below w.heap.size w w') : WantBox w' B r W H ls := by
  obtain ⟨X, Y, a, n, c, h1, h2⟩ := h
  exact ⟨_, _, _, _, _, (hb.block _ (lt_of_blk h1)).trans h1, fun h0 => (h2 h0).kept hb⟩
theorem WantBox.zero {w : World} {B : Nat} {r W H : Int} {ls : List Int} (h : w.heap[B]? = some (.cells #[.int .i64 0, .int .i64 0, .slice none 0 0] 48 (0, 0))) (hr : r ≠ 0) : WantBox w B r W H ls :=
  ⟨0, 0, none, 0, 0, h, fun h0 => absurd h0 hr⟩
/-- Another variable is written. -/
theorem WantBox.stored {w w' : World} {B B' : Nat} {x y : Int} {s : Value} {T : TypeId} (hB : w.heap[B]? = some (.cells #[.int .i64 x, .int .i64 y, s] T (0, 0))) (ho : OneBlk w w' B) (hne : B' ≠ B) {r W H : Int} {ls : List Int}
    (h : WantBox w B' r W H ls) : WantBox w' B' r W H ls := by
  obtain ⟨X, Y, a, n, c, h1, h2⟩ := h
  exact ⟨_, _, _, _, _, (ho.other _ hne).trans h1, fun h0 => (h2 h0).stored hB ho⟩
/-- The variable itself is written. -/
theorem WantBox.put {w : World} {B : Nat} {x y : Int} {s : Value} (hB : w.heap[B]? = some (.cells #[.int .i64 x, .int .i64 y, s] 48 (0, 0))) {r W H : Int} {ls : List Int} {X Y : Int} {a : Option Addr} {n c : Nat}
    (h : r = 0 → ResV w r W H ls X Y a n c) : WantBox (((w.setCell ⟨B, 0, none⟩ (.int .i64 X)).setCell ⟨B, 1, none⟩ (.int .i64 Y)).setCell ⟨B, 2, none⟩ (.slice a n c)) B r W H ls :=
  ⟨_, _, _, _, _, blk_set3 hB _ _ _, fun h0 => (h h0).stored hB (OneBlk.set3 w B _ _ _)⟩
end Go.Proofs.YtfdkmmllemkogaaGreatDoor
