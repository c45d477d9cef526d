/-
  Plain mathematics of spreading: what each cell has behind all rounds; sums over a grid.
-/
import Derived.Test.YtfdkmmllemkogaaGreatDoorOXi
import Derived.Test.YtfdkmmllemkogaaGreatDoorOBe
import Derived.Test.YtfdkmmllemkogaaGreatDoorOZd
import Derived.Test.YtfdkmmllemkogaaGreatDoorOXk
import Derived.Test.YtfdkmmllemkogaaGreatDoorOJa
import Derived.Test.YtfdkmmllemkogaaGreatDoorOKa
import Derived.Test.YtfdkmmllemkogaaGreatDoorOJi
import Derived.Test.YtfdkmmllemkogaaGreatDoorOBn
import Derived.Test.YtfdkmmllemkogaaGreatDoorOBd
import Derived.Deep.CutBlock
import Derived.Deep.DeepCutAuto
namespace Go.Proofs.YtfdkmmllemkogaaGreatDoor
open Go.RowKit
set_option linter.unusedVariables false

/-! ### Sums -/
def sumTo : Nat → (Nat → Int) → Int
  | 0, _ => 0
  | n + 1, f => sumTo n f + f n
theorem sumTo_congr {n : Nat} {f g : Nat → Int} (h : ∀ i, i < n → f i = g i) : sumTo n f = sumTo n g := by
  induction n with
  | zero => rfl
  | succ n ih => simp only [sumTo]; rw [ih fun i hi => h i (by omega), h n (by omega)]
theorem sumTo_add (n : Nat) (f g : Nat → Int) : sumTo n (fun i => f i + g i) = sumTo n f + sumTo n g := by
  induction n with
  | zero => rfl
  | succ n ih => simp only [sumTo]; rw [ih]; omega
theorem sumTo_zero (n : Nat) : sumTo n (fun _ => 0) = 0 := by
  induction n with
  | zero => rfl
  | succ n ih => simp only [sumTo]; rw [ih]; rfl
theorem sumTo_comm (n m : Nat) (f : Nat → Nat → Int) : sumTo n (fun i => sumTo m (fun j => f i j)) = sumTo m (fun j => sumTo n (fun i => f i j)) := by
  induction n with
  | zero => simp only [sumTo]; rw [sumTo_zero]
  | succ n ih => simp only [sumTo]; rw [ih, ← sumTo_add]
theorem sumTo_first (n : Nat) (f : Nat → Int) : sumTo (n + 1) f = f 0 + sumTo n (fun i => f (i + 1)) := by
  induction n with
  | zero => simp [sumTo]
  | succ n ih => rw [sumTo, ih]; simp only [sumTo]; omega
theorem sumTo_rev (n : Nat) (f : Nat → Int) : sumTo n (fun i => f (n - 1 - i)) = sumTo n f := by
  induction n with
  | zero => rfl
  | succ n ih =>
    rw [sumTo_first]
    have e : sumTo n (fun i => f (n + 1 - 1 - (i + 1))) = sumTo n (fun i => f (n - 1 - i)) := sumTo_congr fun i hi => by congr 1; omega
    rw [e, ih]
    simp only [sumTo]
    have : n + 1 - 1 - 0 = n := by omega
    rw [this]; omega
theorem sumTo_split (n m : Nat) (f : Nat → Int) : sumTo (n + m) f = sumTo n f + sumTo m (fun i => f (n + i)) := by
  induction m with
  | zero => simp [sumTo]
  | succ m ih => rw [← Nat.add_assoc]; simp only [sumTo]; rw [ih]; omega
theorem sumTo_grid (H W : Nat) (f : Nat → Int) : sumTo (H * W) f = sumTo H (fun y => sumTo W (fun x => f (y * W + x))) := by
  induction H with
  | zero => simp [sumTo]
  | succ H ih => rw [Nat.succ_mul, sumTo_split, ih]; simp only [sumTo]
theorem sumTo_one (n a : Nat) (c : Nat → Int) : sumTo n (fun i => if i = a then c i else 0) = if a < n then c a else 0 := by
  induction n with
  | zero => simp [sumTo]
  | succ n ih =>
    simp only [sumTo]
    rw [ih]
    by_cases h : n = a
    · subst h; simp
    · rw [if_neg h]
      by_cases h2 : a < n
      · rw [if_pos h2, if_pos (by omega)]; omega
      · rw [if_neg h2, if_neg (by omega)]; omega
theorem sum_range (n : Nat) (f : Nat → Int) : ((List.range n).map f).sum = sumTo n f := by
  induction n with
  | zero => rfl
  | succ n ih => rw [List.range_succ, List.map_append, List.sum_append, ih]; simp [sumTo]
theorem sum_get (ks : List Int) : ks.sum = sumTo ks.length (fun j => ks[j]?.getD 0) := by
  have h : (List.range ks.length).map (fun j => ks[j]?.getD 0) = ks := by
    refine List.ext_getElem (by simp) fun i h1 h2 => ?_
    simp [h2]
  rw [← sum_range, h]

/-! ### What each round adds -/
theorem addAt_get (cs : List Int) (j : Nat) (d : Int) (hj : j < cs.length) (i : Nat) : (addAt cs j d)[i]?.getD 0 = cs[i]?.getD 0 + if i = j then d else 0 := by
  unfold addAt
  rw [List.getElem?_set]
  by_cases h : j = i
  · subst h; rw [if_pos rfl, if_pos hj, if_pos rfl]; rfl
  · rw [if_neg h, if_neg (fun e => h e.symm)]; omega
theorem addAt_len (cs : List Int) (j : Nat) (d : Int) : (addAt cs j d).length = cs.length := by simp [addAt]
/-- What one neighbour turns at the index i. -/
def turn1 (W j : Nat) (g : Int) (i : Nat) (q : Int × Int) : Int := (if i = j then -g else 0) + (if i = idx W q then g else 0)
theorem giveTo_get (W j : Nat) (g : Int) (i : Nat) : ∀ (qs : List (Int × Int)) (cs : List Int), j < cs.length → (∀ q ∈ qs, idx W q < cs.length) → (giveTo W j g qs cs)[i]?.getD 0 = cs[i]?.getD 0 + (qs.map (turn1 W j g i)).sum
  | [], cs, _, _ => by simp [giveTo]
  | q :: qs, cs, hj, hq => by
    have h1 : (give1 W j g cs q).length = cs.length := by simp [give1, addAt_len]
    have ih := giveTo_get W j g i qs (give1 W j g cs q) (by rw [h1]; exact hj) (fun p hp => by rw [h1]; exact hq p (by simp [hp]))
    show (giveTo W j g qs (give1 W j g cs q))[i]?.getD 0 = _
    rw [ih]
    unfold give1
    rw [addAt_get _ _ _ (by rw [addAt_len]; exact hq q (by simp)), addAt_get _ _ _ hj]
    simp only [List.map_cons, List.sum_cons, turn1]
    omega
theorem giveTo_sum (W j : Nat) (g : Int) : ∀ (qs : List (Int × Int)) (cs : List Int), j < cs.length → (∀ q ∈ qs, idx W q < cs.length) → (giveTo W j g qs cs).sum = cs.sum
  | [], cs, _, _ => rfl
  | q :: qs, cs, hj, hq => by
    have h1 : (give1 W j g cs q).length = cs.length := by simp [give1, addAt_len]
    have ih := giveTo_sum W j g qs (give1 W j g cs q) (by rw [h1]; exact hj) (fun p hp => by rw [h1]; exact hq p (by simp [hp]))
    show (giveTo W j g qs (give1 W j g cs q)).sum = _
    rw [ih]
    have hs : ∀ (cs : List Int) (j : Nat) (d : Int), j < cs.length → (addAt cs j d).sum = cs.sum + d := by
      intro cs j d hj
      rw [sum_get, sum_get cs, addAt_len, sumTo_congr (g := fun i => cs[i]?.getD 0 + if i = j then d else 0) (fun i hi => addAt_get cs j d hj i), sumTo_add, sumTo_one _ j (fun _ => d), if_pos hj]
    unfold give1
    rw [hs _ _ _ (by rw [addAt_len]; exact hq q (by simp)), hs _ _ _ hj]
    omega
end Go.Proofs.YtfdkmmllemkogaaGreatDoor

/-
  Plain mathematics of spreading: the cell of each place behind all rounds, in closed form.
-/
namespace Go.Proofs.YtfdkmmllemkogaaGreatDoor
open Go.RowKit
set_option linter.unusedVariables false

theorem sum_filter {α : Type} (p : α → Bool) (f : α → Int) (l : List α) : ((l.filter p).map f).sum = (l.map (fun a => if p a then f a else 0)).sum := by
  induction l with
  | nil => rfl
  | cons a l ih =>
    rw [List.filter_cons]
    by_cases h : p a = true
    · rw [if_pos h]; simp only [List.map_cons, List.sum_cons, ih, if_pos h]
    · rw [if_neg h]; simp only [List.map_cons, List.sum_cons, ih, if_neg h]; omega

def giftOf (W : Nat) (s : Int) (ks : List Int) (p : Nat × Nat) : Int := ks[p.2 * W + p.1]?.getD 0 * s / 16
def turnsAt (W H : Nat) (s : Int) (ks : List Int) (i : Nat) (p : Nat × Nat) : Int := ((nbrsTo W H p.1 p.2 4).map (turn1 W (p.2 * W + p.1) (giftOf W s ks p) i)).sum
theorem idx_in {W H : Nat} {q : Int × Int} (h : 0 ≤ q.1 ∧ q.1 < W ∧ 0 ≤ q.2 ∧ q.2 < H) : idx W q < H * W := by
  obtain ⟨h1, h2, h3, h4⟩ := h
  obtain ⟨x, hx⟩ := Int.eq_ofNat_of_zero_le h1
  obtain ⟨y, hy⟩ := Int.eq_ofNat_of_zero_le h3
  have hx' : x < W := by omega
  have hy' : y < H := by omega
  unfold idx
  rw [hx, hy]
  have h5 : (y + 1) * W ≤ H * W := Nat.mul_le_mul_right W (by omega)
  rw [Nat.succ_mul] at h5
  have e : (y : Int) * (W : Int) + (x : Int) = ((y * W + x : Nat) : Int) := by push_cast; rfl
  rw [e, Int.toNat_natCast]
  omega
theorem place_in {W H x y : Nat} (hx : x < W) (hy : y < H) : y * W + x < H * W := by
  have h5 : (y + 1) * W ≤ H * W := Nat.mul_le_mul_right W (by omega)
  rw [Nat.succ_mul] at h5
  omega
theorem rounds_get (W H : Nat) (s : Int) (ks : List Int) (hk : ks.length = H * W) (i : Nat) (ps : List (Nat × Nat)) (hp : ∀ p ∈ ps, p.1 < W ∧ p.2 < H) :
    (roundsTo W H s ks ps)[i]?.getD 0 = ks[i]?.getD 0 + (ps.map (turnsAt W H s ks i)).sum := by
  suffices h : ∀ cs : List Int, cs.length = H * W → (ps.foldl (round1 W H s ks) cs)[i]?.getD 0 = cs[i]?.getD 0 + (ps.map (turnsAt W H s ks i)).sum from h ks hk
  clear hk
  induction ps with
  | nil => intro cs _; simp
  | cons p ps ih =>
    intro cs hc
    have hin := hp p (by simp)
    have h1 : (round1 W H s ks cs p).length = H * W := by unfold round1; rw [give_len]; exact hc
    rw [List.foldl_cons, ih (fun q hq => hp q (by simp [hq])) _ h1]
    unfold round1
    rw [giveTo_get _ _ _ _ _ _ (by rw [hc]; exact place_in hin.1 hin.2) (fun q hq => by rw [hc]; exact idx_in (nbrs_in hq))]
    simp only [List.map_cons, List.sum_cons, turnsAt, giftOf]
    omega
theorem rounds_sum (W H : Nat) (s : Int) (ks : List Int) (hk : ks.length = H * W) (ps : List (Nat × Nat)) (hp : ∀ p ∈ ps, p.1 < W ∧ p.2 < H) : (roundsTo W H s ks ps).sum = ks.sum := by
  suffices h : ∀ cs : List Int, cs.length = H * W → (ps.foldl (round1 W H s ks) cs).sum = cs.sum from h ks hk
  clear hk
  induction ps with
  | nil => intro cs _; rfl
  | cons p ps ih =>
    intro cs hc
    have hin := hp p (by simp)
    have h1 : (round1 W H s ks cs p).length = H * W := by unfold round1; rw [give_len]; exact hc
    rw [List.foldl_cons, ih (fun q hq => hp q (by simp [hq])) _ h1]
    unfold round1
    exact giveTo_sum _ _ _ _ _ (by rw [hc]; exact place_in hin.1 hin.2) (fun q hq => by rw [hc]; exact idx_in (nbrs_in hq))

/-- The cell of a place. -/
def cellK (W : Nat) (ks : List Int) (x y : Nat) : Int := ks[y * W + x]?.getD 0
def gK (W : Nat) (s : Int) (ks : List Int) (x y : Nat) : Int := cellK W ks x y * s / 16
/-- What a place has behind all rounds. -/
def spAt (W H : Nat) (g : Nat → Nat → Int) (X Y : Nat) : Int :=
  ((if 1 ≤ X then -g X Y else 0) + (if X + 1 < W then g (X + 1) Y else 0)) + ((if X + 1 < W then -g X Y else 0) + (if 1 ≤ X then g (X - 1) Y else 0)) +
  ((if 1 ≤ Y then -g X Y else 0) + (if Y + 1 < H then g X (Y + 1) else 0)) + ((if Y + 1 < H then -g X Y else 0) + (if 1 ≤ Y then g X (Y - 1) else 0))

theorem idx_eq {W x y X Y : Nat} (hx : x < W) (hX : X < W) : Y * W + X = y * W + x ↔ x = X ∧ y = Y := by
  constructor
  · intro h
    have h1 : (Y * W + X) % W = X := by rw [Nat.mul_comm, Nat.mul_add_mod]; exact Nat.mod_eq_of_lt hX
    have h2 : (y * W + x) % W = x := by rw [Nat.mul_comm, Nat.mul_add_mod]; exact Nat.mod_eq_of_lt hx
    have h3 : (Y * W + X) / W = Y := by rw [Nat.mul_comm, Nat.mul_add_div (by omega), Nat.div_eq_of_lt hX]; rfl
    have h4 : (y * W + x) / W = y := by rw [Nat.mul_comm, Nat.mul_add_div (by omega), Nat.div_eq_of_lt hx]; rfl
    rw [h] at h1 h3
    exact ⟨by omega, by omega⟩
  · rintro ⟨rfl, rfl⟩; rfl
/-- An indicator of one place, summed over the grid. -/
theorem sum_place (W H a b : Nat) (c : Nat → Nat → Int) : sumTo H (fun y => sumTo W (fun x => if x = a ∧ y = b then c x y else 0)) = if a < W ∧ b < H then c a b else 0 := by
  have h1 : ∀ y, sumTo W (fun x => if x = a ∧ y = b then c x y else 0) = if y = b then (if a < W then c a y else 0) else 0 := fun y => by
    by_cases h : y = b
    · simp only [h, and_true, if_true]; exact sumTo_one W a (fun x => c x b)
    · simp only [h, and_false, if_false]; exact sumTo_zero W
  rw [sumTo_congr (fun y _ => h1 y), sumTo_one H b (fun y => if a < W then c a y else 0)]
  by_cases ha : a < W <;> by_cases hb : b < H <;> simp [ha, hb]

/-- One direction's part. -/
def partD (W H : Nat) (g : Int) (i x y : Nat) (d : Int × Int) : Int := if insideB W H ((x : Int) + d.1, (y : Int) + d.2) = true then turn1 W (y * W + x) g i ((x : Int) + d.1, (y : Int) + d.2) else 0
theorem turnsAt_parts (W H : Nat) (s : Int) (ks : List Int) (i x y : Nat) :
    turnsAt W H s ks i (x, y) = partD W H (gK W s ks x y) i x y (-1, 0) + partD W H (gK W s ks x y) i x y (1, 0) + (partD W H (gK W s ks x y) i x y (0, -1) + partD W H (gK W s ks x y) i x y (0, 1)) := by
  unfold turnsAt nbrsTo
  rw [sum_filter]
  simp only [dirsL, List.take, List.map_cons, List.map_nil, List.sum_cons, List.sum_nil]
  show partD W H (gK W s ks x y) i x y (-1, 0) + (partD W H (gK W s ks x y) i x y (1, 0) + (partD W H (gK W s ks x y) i x y (0, -1) + (partD W H (gK W s ks x y) i x y (0, 1) + 0))) = _
  omega

theorem idx_nat (W x y : Nat) : idx W ((x : Int), (y : Int)) = y * W + x := by
  unfold idx
  have e : (y : Int) * (W : Int) + (x : Int) = ((y * W + x : Nat) : Int) := by push_cast; rfl
  show ((y : Int) * (W : Int) + (x : Int)).toNat = _
  rw [e]; omega
theorem inside_nat (W H x y : Nat) : insideB W H ((x : Int), (y : Int)) = decide (x < W ∧ y < H) := by
  rw [Bool.eq_iff_iff]; simp [insideB]

theorem part_left {W H X Y x y : Nat} (hX : X < W) (hx : x < W) (hy : y < H) (g : Int) :
    partD W H g (Y * W + X) x y (-1, 0) = (if x = X ∧ y = Y then (if 1 ≤ X then -g else 0) else 0) + (if x = X + 1 ∧ y = Y then g else 0) := by
  unfold partD
  cases x with
  | zero =>
    have h : insideB W H (((0 : Nat) : Int) + -1, (y : Int) + 0) = false := by simp [insideB]
    rw [h]
    by_cases h1 : 0 = X ∧ y = Y
    · obtain ⟨rfl, rfl⟩ := h1; simp
    · simp [h1]
  | succ x =>
    have e : (((x + 1 : Nat) : Int) + -1, (y : Int) + 0) = ((x : Int), (y : Int)) := by ext <;> simp <;> omega
    rw [e, inside_nat, turn1, idx_nat]
    have h1 : x < W ∧ y < H := ⟨by omega, hy⟩
    simp only [h1, and_self, decide_true, if_true, idx_eq hx hX, idx_eq h1.1 hX]
    congr 1
    · by_cases h : x + 1 = X ∧ y = Y
      · rw [if_pos h, if_pos h, if_pos (by omega)]
      · rw [if_neg h, if_neg h]
    · simp only [Nat.add_right_cancel_iff]
theorem part_right {W H X Y x y : Nat} (hX : X < W) (hx : x < W) (hy : y < H) (g : Int) :
    partD W H g (Y * W + X) x y (1, 0) = (if x = X ∧ y = Y then (if X + 1 < W then -g else 0) else 0) + (if x = X - 1 ∧ y = Y then (if 1 ≤ X then g else 0) else 0) := by
  unfold partD
  have e : ((x : Int) + 1, (y : Int) + 0) = (((x + 1 : Nat) : Int), (y : Int)) := by ext <;> simp
  show (if insideB W H ((x : Int) + 1, (y : Int) + 0) = true then turn1 W (y * W + x) g (Y * W + X) ((x : Int) + 1, (y : Int) + 0) else 0) = _
  rw [e, inside_nat, turn1, idx_nat]
  by_cases h1 : x + 1 < W
  · have h2 : x + 1 < W ∧ y < H := ⟨h1, hy⟩
    simp only [h2, and_self, decide_true, if_true, idx_eq hx hX, idx_eq h1 hX]
    congr 1
    · by_cases h : x = X ∧ y = Y
      · rw [if_pos h, if_pos h, if_pos (by omega)]
      · rw [if_neg h, if_neg h]
    · by_cases h : x + 1 = X ∧ y = Y
      · rw [if_pos h, if_pos ⟨by omega, h.2⟩, if_pos (by omega)]
      · rw [if_neg h]
        by_cases h3 : x = X - 1 ∧ y = Y
        · rw [if_pos h3, if_neg (by omega)]
        · rw [if_neg h3]
  · have h2 : ¬ (x + 1 < W ∧ y < H) := fun h => h1 h.1
    simp only [h2, decide_false, Bool.false_eq_true, if_false]
    by_cases h : x = X ∧ y = Y
    · rw [if_pos h, if_neg (by omega)]
      by_cases h3 : x = X - 1 ∧ y = Y
      · rw [if_pos h3, if_neg (by omega)]; rfl
      · rw [if_neg h3]; rfl
    · rw [if_neg h]
      by_cases h3 : x = X - 1 ∧ y = Y
      · rw [if_pos h3, if_neg (by omega)]; rfl
      · rw [if_neg h3]; rfl
theorem part_up {W H X Y x y : Nat} (hX : X < W) (hx : x < W) (hy : y < H) (g : Int) :
    partD W H g (Y * W + X) x y (0, -1) = (if x = X ∧ y = Y then (if 1 ≤ Y then -g else 0) else 0) + (if x = X ∧ y = Y + 1 then g else 0) := by
  unfold partD
  cases y with
  | zero =>
    have h : insideB W H ((x : Int) + 0, ((0 : Nat) : Int) + -1) = false := by simp [insideB]
    rw [h]
    by_cases h1 : x = X ∧ 0 = Y
    · obtain ⟨rfl, rfl⟩ := h1; simp
    · simp [h1]
  | succ y =>
    have e : ((x : Int) + 0, ((y + 1 : Nat) : Int) + -1) = ((x : Int), (y : Int)) := by ext <;> simp <;> omega
    rw [e, inside_nat, turn1, idx_nat]
    have h1 : x < W ∧ y < H := ⟨hx, by omega⟩
    simp only [h1, and_self, decide_true, if_true, idx_eq hx hX]
    congr 1
    · by_cases h : x = X ∧ y + 1 = Y
      · rw [if_pos h, if_pos h, if_pos (by omega)]
      · rw [if_neg h, if_neg h]
    · simp only [Nat.add_right_cancel_iff]
theorem part_down {W H X Y x y : Nat} (hX : X < W) (hx : x < W) (hy : y < H) (hY : Y < H) (g : Int) :
    partD W H g (Y * W + X) x y (0, 1) = (if x = X ∧ y = Y then (if Y + 1 < H then -g else 0) else 0) + (if x = X ∧ y = Y - 1 then (if 1 ≤ Y then g else 0) else 0) := by
  unfold partD
  have e : ((x : Int) + 0, (y : Int) + 1) = ((x : Int), ((y + 1 : Nat) : Int)) := by ext <;> simp
  show (if insideB W H ((x : Int) + 0, (y : Int) + 1) = true then turn1 W (y * W + x) g (Y * W + X) ((x : Int) + 0, (y : Int) + 1) else 0) = _
  rw [e, inside_nat, turn1, idx_nat]
  by_cases h1 : y + 1 < H
  · have h2 : x < W ∧ y + 1 < H := ⟨hx, h1⟩
    simp only [h2, and_self, decide_true, if_true, idx_eq hx hX]
    congr 1
    · by_cases h : x = X ∧ y = Y
      · rw [if_pos h, if_pos h, if_pos (by omega)]
      · rw [if_neg h, if_neg h]
    · by_cases h : x = X ∧ y + 1 = Y
      · rw [if_pos h, if_pos ⟨h.1, by omega⟩, if_pos (by omega)]
      · rw [if_neg h]
        by_cases h3 : x = X ∧ y = Y - 1
        · rw [if_pos h3, if_neg (by omega)]
        · rw [if_neg h3]
  · have h2 : ¬ (x < W ∧ y + 1 < H) := fun h => h1 h.2
    simp only [h2, decide_false, Bool.false_eq_true, if_false]
    by_cases h : x = X ∧ y = Y
    · rw [if_pos h, if_neg (by omega)]
      by_cases h3 : x = X ∧ y = Y - 1
      · rw [if_pos h3, if_neg (by omega)]; rfl
      · rw [if_neg h3]; rfl
    · rw [if_neg h]
      by_cases h3 : x = X ∧ y = Y - 1
      · rw [if_pos h3, if_neg (by omega)]; rfl
      · rw [if_neg h3]; rfl
end Go.Proofs.YtfdkmmllemkogaaGreatDoor

/-
  Plain mathematics of maps: spreading in closed form; flips, turns and spreading commute, and keep sums.
-/
namespace Go.Proofs.YtfdkmmllemkogaaGreatDoor
open Go.RowKit
set_option linter.unusedVariables false

def sum2 (W H : Nat) (f : Nat → Nat → Int) : Int := sumTo H (fun y => sumTo W (fun x => f x y))
theorem sum2_congr {W H : Nat} {f g : Nat → Nat → Int} (h : ∀ x y, x < W → y < H → f x y = g x y) : sum2 W H f = sum2 W H g :=
  sumTo_congr fun y hy => sumTo_congr fun x hx => h x y hx hy
theorem sum2_add (W H : Nat) (f g : Nat → Nat → Int) : sum2 W H (fun x y => f x y + g x y) = sum2 W H f + sum2 W H g := by
  unfold sum2
  rw [← sumTo_add]
  exact sumTo_congr fun y _ => sumTo_add W _ _
theorem sum2_place (W H a b : Nat) (c : Nat → Nat → Int) : sum2 W H (fun x y => if x = a ∧ y = b then c x y else 0) = if a < W ∧ b < H then c a b else 0 := sum_place W H a b c

def gridPlaces (W m : Nat) : List (Nat × Nat) := (List.range m).map (fun i => (i % W, i / W))
theorem mod_of {W x y : Nat} (hx : x < W) : (y * W + x) % W = x := by rw [Nat.mul_comm, Nat.mul_add_mod]; exact Nat.mod_eq_of_lt hx
theorem div_of {W x y : Nat} (hx : x < W) : (y * W + x) / W = y := by rw [Nat.mul_comm, Nat.mul_add_div (by omega), Nat.div_eq_of_lt hx]; rfl

theorem spread_at (W H : Nat) (s : Int) (ks : List Int) (hk : ks.length = H * W) (X Y : Nat) (hX : X < W) (hY : Y < H) :
    cellK W (roundsTo W H s ks (gridPlaces W (H * W))) X Y = cellK W ks X Y + spAt W H (gK W s ks) X Y := by
  have hp : ∀ p ∈ gridPlaces W (H * W), p.1 < W ∧ p.2 < H := fun p hp => by
    obtain ⟨i, hi, rfl⟩ := List.mem_map.1 hp
    exact ⟨Nat.mod_lt _ (by omega), (Nat.div_lt_iff_lt_mul (by omega)).2 (by simpa using hi)⟩
  show (roundsTo W H s ks (gridPlaces W (H * W)))[Y * W + X]?.getD 0 = _
  rw [rounds_get W H s ks hk _ _ hp]
  show cellK W ks X Y + _ = _
  congr 1
  unfold gridPlaces
  rw [List.map_map]
  show ((List.range (H * W)).map (fun i => turnsAt W H s ks (Y * W + X) (i % W, i / W))).sum = _
  rw [sum_range, sumTo_grid]
  show sum2 W H (fun x y => turnsAt W H s ks (Y * W + X) ((y * W + x) % W, (y * W + x) / W)) = _
  have e : ∀ x y, x < W → y < H → turnsAt W H s ks (Y * W + X) ((y * W + x) % W, (y * W + x) / W) =
      ((if x = X ∧ y = Y then (if 1 ≤ X then -gK W s ks x y else 0) else 0) + (if x = X + 1 ∧ y = Y then gK W s ks x y else 0)) +
      ((if x = X ∧ y = Y then (if X + 1 < W then -gK W s ks x y else 0) else 0) + (if x = X - 1 ∧ y = Y then (if 1 ≤ X then gK W s ks x y else 0) else 0)) +
      (((if x = X ∧ y = Y then (if 1 ≤ Y then -gK W s ks x y else 0) else 0) + (if x = X ∧ y = Y + 1 then gK W s ks x y else 0)) +
      ((if x = X ∧ y = Y then (if Y + 1 < H then -gK W s ks x y else 0) else 0) + (if x = X ∧ y = Y - 1 then (if 1 ≤ Y then gK W s ks x y else 0) else 0))) := fun x y hx hy => by
    rw [mod_of hx, div_of hx, turnsAt_parts, part_left hX hx hy, part_right hX hx hy, part_up hX hx hy, part_down hX hx hy hY]
  rw [sum2_congr e]
  simp only [sum2_add]
  rw [sum2_place W H X Y (fun x y => if 1 ≤ X then -gK W s ks x y else 0), sum2_place W H (X + 1) Y (fun x y => gK W s ks x y),
    sum2_place W H X Y (fun x y => if X + 1 < W then -gK W s ks x y else 0), sum2_place W H (X - 1) Y (fun x y => if 1 ≤ X then gK W s ks x y else 0),
    sum2_place W H X Y (fun x y => if 1 ≤ Y then -gK W s ks x y else 0), sum2_place W H X (Y + 1) (fun x y => gK W s ks x y),
    sum2_place W H X Y (fun x y => if Y + 1 < H then -gK W s ks x y else 0), sum2_place W H X (Y - 1) (fun x y => if 1 ≤ Y then gK W s ks x y else 0)]
  have h1 : X - 1 < W ∧ Y < H := ⟨by omega, hY⟩
  have h2 : X < W ∧ Y - 1 < H := ⟨hX, by omega⟩
  simp only [hX, hY, and_self, if_true, h1, h2, and_true, true_and]
  unfold spAt
  omega

/-- Two rows of cells with the same cells. -/
theorem cells_ext {W H : Nat} {l m : List Int} (hl : l.length = H * W) (hm : m.length = H * W) (h : ∀ x y, x < W → y < H → cellK W l x y = cellK W m x y) : l = m := by
  refine List.ext_getElem (by omega) fun i h1 h2 => ?_
  have hW : 0 < W := by
    rcases Nat.eq_zero_or_pos W with h0 | h0
    · rw [h0, Nat.mul_zero] at hl; omega
    · exact h0
  have h3 := h (i % W) (i / W) (Nat.mod_lt _ hW) ((Nat.div_lt_iff_lt_mul hW).2 (by omega))
  unfold cellK at h3
  rw [Nat.mul_comm (i / W) W, Nat.div_add_mod, List.getElem?_eq_getElem h1, List.getElem?_eq_getElem h2] at h3
  exact h3
theorem spread_len (W H : Nat) (s : Int) (ks : List Int) (hk : ks.length = H * W) : (roundsTo W H s ks (gridPlaces W (H * W))).length = H * W := by
  rw [roundsTo_len]; exact hk

def flipK (W n : Nat) (ks : List Int) : List Int := (List.range n).map (fun j => ks[j / W * W + (W - 1 - j % W)]?.getD 0)
def turnK (W H n : Nat) (ks : List Int) : List Int := (List.range n).map (fun j => ks[(H - 1 - j % H) * W + j / H]?.getD 0)
theorem flipK_len (W n : Nat) (ks : List Int) : (flipK W n ks).length = n := by simp [flipK]
theorem turnK_len (W H n : Nat) (ks : List Int) : (turnK W H n ks).length = n := by simp [turnK]
theorem flipK_at {W H : Nat} (ks : List Int) {x y : Nat} (hx : x < W) (hy : y < H) : cellK W (flipK W (H * W) ks) x y = cellK W ks (W - 1 - x) y := by
  unfold cellK flipK
  rw [List.getElem?_map, List.getElem?_range (place_in hx hy)]
  show ks[(y * W + x) / W * W + (W - 1 - (y * W + x) % W)]?.getD 0 = _
  rw [mod_of hx, div_of hx]
/-- x is below the height, y below the width: a turned map's own columns and rows. -/
theorem turnK_at {W H : Nat} (ks : List Int) {x y : Nat} (hx : x < H) (hy : y < W) : cellK H (turnK W H (H * W) ks) x y = cellK W ks y (H - 1 - x) := by
  unfold cellK turnK
  rw [List.getElem?_map, List.getElem?_range (by have h := place_in (W := H) (H := W) hx hy; rw [Nat.mul_comm W H] at h; exact h)]
  show ks[(H - 1 - (y * H + x) % H) * W + (y * H + x) / H]?.getD 0 = _
  rw [mod_of hx, div_of hx]

theorem flip_flip (W H : Nat) (ks : List Int) (hk : ks.length = H * W) : flipK W (H * W) (flipK W (H * W) ks) = ks :=
  cells_ext (flipK_len ..) hk fun x y hx hy => by
    rw [flipK_at _ hx hy, flipK_at _ (by omega) hy]
    congr 1; omega
theorem turn_turn (W H : Nat) (ks : List Int) {x y : Nat} (hx : x < W) (hy : y < H) : cellK W (turnK H W (W * H) (turnK W H (H * W) ks)) x y = cellK W ks (W - 1 - x) (H - 1 - y) := by
  rw [turnK_at _ hx hy, turnK_at _ hy (by omega)]
theorem turn_four (W H : Nat) (ks : List Int) (hk : ks.length = H * W) : turnK H W (W * H) (turnK W H (H * W) (turnK H W (W * H) (turnK W H (H * W) ks))) = ks :=
  cells_ext (by rw [turnK_len, Nat.mul_comm]) hk fun x y hx hy => by
    rw [turn_turn _ _ _ hx hy, turn_turn _ _ _ (by omega) (by omega)]
    congr 1 <;> omega

theorem sum_cells (W H : Nat) (ks : List Int) (hk : ks.length = H * W) : ks.sum = sum2 W H (cellK W ks) := by
  rw [sum_get, hk, sumTo_grid]; rfl
theorem flip_sum (W H : Nat) (ks : List Int) (hk : ks.length = H * W) : (flipK W (H * W) ks).sum = ks.sum := by
  rw [sum_cells W H _ (flipK_len ..), sum_cells W H ks hk, sum2_congr (fun x y hx hy => flipK_at ks hx hy)]
  exact sumTo_congr fun y _ => sumTo_rev W (fun x => cellK W ks x y)
theorem turn_sum (W H : Nat) (ks : List Int) (hk : ks.length = H * W) : (turnK W H (H * W) ks).sum = ks.sum := by
  rw [sum_cells H W _ (by rw [turnK_len, Nat.mul_comm]), sum_cells W H ks hk, sum2_congr (fun x y hx hy => turnK_at ks hx hy)]
  unfold sum2
  rw [sumTo_comm H W]
  rw [sumTo_congr (fun y hy => rfl : ∀ y, y < W → sumTo H (fun x => cellK W ks y (H - 1 - x)) = sumTo H (fun x => cellK W ks y (H - 1 - x)))]
  exact sumTo_congr fun y _ => sumTo_rev H (fun x => cellK W ks y x)
theorem spread_sum (W H : Nat) (s : Int) (ks : List Int) (hk : ks.length = H * W) : (roundsTo W H s ks (gridPlaces W (H * W))).sum = ks.sum := by
  refine rounds_sum W H s ks hk _ fun p hp => ?_
  obtain ⟨i, hi, rfl⟩ := List.mem_map.1 hp
  have hi' : i < H * W := by simpa using hi
  have hW : 0 < W := by
    rcases Nat.eq_zero_or_pos W with h0 | h0
    · rw [h0] at hi'; omega
    · exact h0
  exact ⟨Nat.mod_lt _ hW, (Nat.div_lt_iff_lt_mul hW).2 hi'⟩

theorem gK_flip {W H : Nat} (s : Int) (ks : List Int) {x y : Nat} (hx : x < W) (hy : y < H) : gK W s (flipK W (H * W) ks) x y = gK W s ks (W - 1 - x) y := by
  unfold gK; rw [flipK_at _ hx hy]
theorem gK_turn {W H : Nat} (s : Int) (ks : List Int) {x y : Nat} (hx : x < H) (hy : y < W) : gK H s (turnK W H (H * W) ks) x y = gK W s ks y (H - 1 - x) := by
  unfold gK; rw [turnK_at _ hx hy]
theorem spAt_flip (W H : Nat) (g f : Nat → Nat → Int) (h : ∀ x y, x < W → y < H → f x y = g (W - 1 - x) y) {X Y : Nat} (hX : X < W) (hY : Y < H) : spAt W H f X Y = spAt W H g (W - 1 - X) Y := by
  have h0 := h X Y hX hY
  have a1 : (if X + 1 < W then f (X + 1) Y else 0) = (if 1 ≤ W - 1 - X then g (W - 1 - X - 1) Y else 0) := by
    by_cases c : X + 1 < W
    · rw [if_pos c, if_pos (by omega), h _ _ c hY]; first | (congr 1; omega; done) | congr 1
    · rw [if_neg c, if_neg (by omega)]
  have a2 : (if 1 ≤ X then f (X - 1) Y else 0) = (if W - 1 - X + 1 < W then g (W - 1 - X + 1) Y else 0) := by
    by_cases c : 1 ≤ X
    · rw [if_pos c, if_pos (by omega), h _ _ (by omega) hY]; first | (congr 1; omega; done) | congr 1
    · rw [if_neg c, if_neg (by omega)]
  have a3 : (if Y + 1 < H then f X (Y + 1) else 0) = (if Y + 1 < H then g (W - 1 - X) (Y + 1) else 0) := by
    by_cases c : Y + 1 < H
    · rw [if_pos c, if_pos c, h _ _ hX c]
    · rw [if_neg c, if_neg c]
  have a4 : (if 1 ≤ Y then f X (Y - 1) else 0) = (if 1 ≤ Y then g (W - 1 - X) (Y - 1) else 0) := by
    by_cases c : 1 ≤ Y
    · rw [if_pos c, if_pos c, h _ _ hX (by omega)]
    · rw [if_neg c, if_neg c]
  have b1 : (if 1 ≤ X then -f X Y else 0) = (if W - 1 - X + 1 < W then -g (W - 1 - X) Y else 0) := by
    rw [h0]
    by_cases c : 1 ≤ X
    · rw [if_pos c, if_pos (by omega)]
    · rw [if_neg c, if_neg (by omega)]
  have b2 : (if X + 1 < W then -f X Y else 0) = (if 1 ≤ W - 1 - X then -g (W - 1 - X) Y else 0) := by
    rw [h0]
    by_cases c : X + 1 < W
    · rw [if_pos c, if_pos (by omega)]
    · rw [if_neg c, if_neg (by omega)]
  unfold spAt
  rw [a1, a2, a3, a4, b1, b2, h0]
  omega
theorem spAt_turn (W H : Nat) (g f : Nat → Nat → Int) (h : ∀ x y, x < H → y < W → f x y = g y (H - 1 - x)) {X Y : Nat} (hX : X < H) (hY : Y < W) : spAt H W f X Y = spAt W H g Y (H - 1 - X) := by
  have h0 := h X Y hX hY
  have a1 : (if X + 1 < H then f (X + 1) Y else 0) = (if 1 ≤ H - 1 - X then g Y (H - 1 - X - 1) else 0) := by
    by_cases c : X + 1 < H
    · rw [if_pos c, if_pos (by omega), h _ _ c hY]; first | (congr 1; omega; done) | congr 1
    · rw [if_neg c, if_neg (by omega)]
  have a2 : (if 1 ≤ X then f (X - 1) Y else 0) = (if H - 1 - X + 1 < H then g Y (H - 1 - X + 1) else 0) := by
    by_cases c : 1 ≤ X
    · rw [if_pos c, if_pos (by omega), h _ _ (by omega) hY]; first | (congr 1; omega; done) | congr 1
    · rw [if_neg c, if_neg (by omega)]
  have a3 : (if Y + 1 < W then f X (Y + 1) else 0) = (if Y + 1 < W then g (Y + 1) (H - 1 - X) else 0) := by
    by_cases c : Y + 1 < W
    · rw [if_pos c, if_pos c, h _ _ hX c]
    · rw [if_neg c, if_neg c]
  have a4 : (if 1 ≤ Y then f X (Y - 1) else 0) = (if 1 ≤ Y then g (Y - 1) (H - 1 - X) else 0) := by
    by_cases c : 1 ≤ Y
    · rw [if_pos c, if_pos c, h _ _ hX (by omega)]
    · rw [if_neg c, if_neg c]
  have b1 : (if 1 ≤ X then -f X Y else 0) = (if H - 1 - X + 1 < H then -g Y (H - 1 - X) else 0) := by
    rw [h0]
    by_cases c : 1 ≤ X
    · rw [if_pos c, if_pos (by omega)]
    · rw [if_neg c, if_neg (by omega)]
  have b2 : (if X + 1 < H then -f X Y else 0) = (if 1 ≤ H - 1 - X then -g Y (H - 1 - X) else 0) := by
    rw [h0]
    by_cases c : X + 1 < H
    · rw [if_pos c, if_pos (by omega)]
    · rw [if_neg c, if_neg (by omega)]
  unfold spAt
  rw [a1, a2, a3, a4, b1, b2, h0]
  omega

theorem flip_spread (W H : Nat) (s : Int) (ks : List Int) (hk : ks.length = H * W) :
    flipK W (H * W) (roundsTo W H s ks (gridPlaces W (H * W))) = roundsTo W H s (flipK W (H * W) ks) (gridPlaces W (H * W)) :=
  cells_ext (flipK_len ..) (spread_len W H s _ (flipK_len ..)) fun x y hx hy => by
    rw [flipK_at _ hx hy, spread_at W H s ks hk _ _ (by omega) hy, spread_at W H s _ (flipK_len ..) _ _ hx hy, flipK_at _ hx hy,
      spAt_flip W H (gK W s ks) _ (fun x y h1 h2 => gK_flip s ks h1 h2) hx hy]
theorem turn_spread (W H : Nat) (s : Int) (ks : List Int) (hk : ks.length = H * W) :
    turnK W H (H * W) (roundsTo W H s ks (gridPlaces W (H * W))) = roundsTo H W s (turnK W H (H * W) ks) (gridPlaces H (W * H)) :=
  cells_ext (W := H) (H := W) (by rw [turnK_len, Nat.mul_comm]) (spread_len H W s _ (by rw [turnK_len, Nat.mul_comm])) fun x y hx hy => by
    rw [turnK_at _ hx hy, spread_at W H s ks hk _ _ hy (by omega), spread_at H W s _ (by rw [turnK_len, Nat.mul_comm]) _ _ hx hy, turnK_at _ hx hy,
      spAt_turn W H (gK W s ks) _ (fun x y h1 h2 => gK_turn s ks h1 h2) hx hy]
theorem spread_none (W H : Nat) (ks : List Int) (hk : ks.length = H * W) : roundsTo W H 0 ks (gridPlaces W (H * W)) = ks :=
  cells_ext (spread_len W H 0 ks hk) hk fun x y hx hy => by
    rw [spread_at W H 0 ks hk _ _ hx hy]
    have h : ∀ x y, gK W 0 ks x y = 0 := fun x y => by simp [gK]
    simp [spAt, h]
/-- Cells up to 400 are spread to cells that are those of samples. -/
theorem spread_small (W H : Nat) (s : Int) (h0 : 0 ≤ s) (h4 : s ≤ 4) (ks : List Int) (hk : ks.length = H * W) (hb : ∀ x y, x < W → y < H → (cellK W ks x y).natAbs ≤ 6400) {X Y : Nat} (hX : X < W) (hY : Y < H) :
    (cellK W (roundsTo W H s ks (gridPlaces W (H * W))) X Y).natAbs ≤ 16384 := by
  rw [spread_at W H s ks hk _ _ hX hY]
  have hg : ∀ x y, x < W → y < H → -1600 ≤ gK W s ks x y ∧ gK W s ks x y ≤ 1600 := fun x y hx hy => by
    have := hb x y hx hy
    unfold gK
    rcases (show s = 0 ∨ s = 1 ∨ s = 2 ∨ s = 3 ∨ s = 4 by omega) with h | h | h | h | h <;> subst h <;> omega
  have e1 : -1600 ≤ (if X + 1 < W then gK W s ks (X + 1) Y else 0) ∧ (if X + 1 < W then gK W s ks (X + 1) Y else 0) ≤ 1600 := by
    split
    · exact hg _ _ (by assumption) hY
    · omega
  have e2 : -1600 ≤ (if 1 ≤ X then gK W s ks (X - 1) Y else 0) ∧ (if 1 ≤ X then gK W s ks (X - 1) Y else 0) ≤ 1600 := by
    split
    · exact hg _ _ (by omega) hY
    · omega
  have e3 : -1600 ≤ (if Y + 1 < H then gK W s ks X (Y + 1) else 0) ∧ (if Y + 1 < H then gK W s ks X (Y + 1) else 0) ≤ 1600 := by
    split
    · exact hg _ _ hX (by assumption)
    · omega
  have e4 : -1600 ≤ (if 1 ≤ Y then gK W s ks X (Y - 1) else 0) ∧ (if 1 ≤ Y then gK W s ks X (Y - 1) else 0) ≤ 1600 := by
    split
    · exact hg _ _ hX (by omega)
    · omega
  have hK := hb X Y hX hY
  unfold spAt
  generalize (if X + 1 < W then gK W s ks (X + 1) Y else 0) = p1 at e1 ⊢
  generalize (if 1 ≤ X then gK W s ks (X - 1) Y else 0) = p2 at e2 ⊢
  generalize (if Y + 1 < H then gK W s ks X (Y + 1) else 0) = p3 at e3 ⊢
  generalize (if 1 ≤ Y then gK W s ks X (Y - 1) else 0) = p4 at e4 ⊢
  have eg : gK W s ks X Y = cellK W ks X Y * s / 16 := rfl
  rw [eg]
  generalize cellK W ks X Y = k at hK ⊢
  rcases (show s = 0 ∨ s = 1 ∨ s = 2 ∨ s = 3 ∨ s = 4 by omega) with h | h | h | h | h <;> subst h <;> (repeat' split) <;> omega
end Go.Proofs.YtfdkmmllemkogaaGreatDoor

/-
  Right maps in memory, by their integers; what own, Total, Spread, Flipped, Turned, CheckMap and SameMap make of them.
-/
namespace Go.Proofs.YtfdkmmllemkogaaGreatDoor
open Go.RowKit
set_option linter.unusedVariables false
set_option linter.unusedSimpArgs false

/-- A right map with these integers lies there. -/
def RM (w : World) (W H n : Nat) (L : List Int) (b o : Nat) : Prop := b < w.heap.size ∧ ∃ xs, RightMap w W H b o n xs L
theorem RM.kept {w w' : World} {W H n b o : Nat} {L : List Int} (h : RM w W H n L b o) (hb : Below w.heap.size w w') : RM w' W H n L b o := by
  obtain ⟨h1, xs, h2⟩ := h
  exact ⟨Nat.lt_of_lt_of_le h1 hb.size, xs, h2.below hb h1⟩
theorem RM.any {w : World} {W H n b o : Nat} {L : List Int} (h : RM w W H n L b o) (c : Nat) : ∃ xs, AnyMap w (some ⟨b, o, none⟩) n c xs ∧ RightMap w W H b o n xs L := by
  obtain ⟨h1, xs, h2⟩ := h
  exact ⟨xs, ⟨h2.len, h2.words, .inr ⟨_, rfl⟩, fun j hj => ⟨b, o, rfl, h1, h2.cells⟩⟩, h2⟩
theorem RM.len {w : World} {W H n b o : Nat} {L : List Int} (h : RM w W H n L b o) : L.length = n := by obtain ⟨_, xs, h2⟩ := h; exact h2.lenk
theorem RM.area {w : World} {W H n b o : Nat} {L : List Int} (h : RM w W H n L b o) : H * W = n := by
  obtain ⟨_, xs, h2⟩ := h
  have := h2.area
  rw [Nat.mul_comm]; exact_mod_cast this
theorem RM.of_cells {w : World} {W H n g : Nat} {L : List Int} (hl : L.length = n) (hn : n ≤ 4096) (hs : ∀ j, j < n → (L[j]?.getD 0).natAbs ≤ 16384) (hW : 1 ≤ W ∧ W ≤ 64) (hH : 1 ≤ H ∧ H ≤ 64) (hA : H * W = n)
    (hg : g < w.heap.size) (hc : ∀ j, j < n → w.cell? ⟨g, j, none⟩ = some (.float .f32 (smpOf (L[j]?.getD 0)))) : RM w W H n L g 0 := by
  have e : ∀ j, j < n → (L.map smpOf)[j]?.getD 0 = smpOf (L[j]?.getD 0) := fun j hj => by rw [List.getElem?_map, List.getElem?_eq_getElem (by omega)]; rfl
  refine ⟨hg, L.map smpOf, ⟨⟨by rw [List.length_map]; exact hl, hl, hn, fun j hj => ?_, fun j hj => ?_, fun j hj => ?_, hs⟩, by omega, by omega, ?_⟩⟩
  · rw [Nat.zero_add, e j hj]; exact hc j hj
  · rw [e j hj]; exact smpOf_word _ (Nat.lt_of_le_of_lt (hs j hj) (by decide))
  · rw [e j hj]; exact smpOf_smp _ (Nat.lt_of_le_of_lt (hs j hj) (by decide))
  · rw [← hA]; push_cast; rw [Int.mul_comm]

/-- The value of a map. -/
def mapVal (W H b o n c : Nat) : Value := .agg #[.int .i64 W, .int .i64 H, .slice (some ⟨b, o, none⟩) n c]

theorem rm_own {w : World} {W H n b o : Nat} {L : List Int} (h : RM w W H n L b o) (c : Nat) :
    Calls Tryz.prog 38 #[.agg #[.int .i64 W, .int .i64 H, .slice (some ⟨b, o, none⟩) n c]] w fun e w' =>
      ∃ g c', e = .returned (.agg #[.int .i64 W, .int .i64 H, .slice (some ⟨g, 0, none⟩) n c']) ∧ RM w' W H n L g 0 ∧ Below w.heap.size w w' := by
  obtain ⟨xs, hM, hR⟩ := h.any c
  have hn := hR.small
  refine (lawOwn_all W H _ n c xs (by omega) hM).mono ?_
  rintro e w' ⟨g, c', he, _, hg, hc, hb, _⟩
  exact ⟨g, c', he, ⟨hg, xs, ⟨⟨hR.len, hR.lenk, hR.small, fun j hj => by rw [Nat.zero_add]; exact hc j hj, hR.words, hR.smps, hR.sizes⟩, hR.wid, hR.hei, hR.area⟩⟩, hb⟩
theorem rm_total {w : World} {W H n b o : Nat} {L : List Int} (h : RM w W H n L b o) (c : Nat) :
    Calls Tryz.prog 39 #[.agg #[.int .i64 W, .int .i64 H, .slice (some ⟨b, o, none⟩) n c]] w fun e w' => e = .returned (.tuple #[.int .i64 L.sum, .int .i64 0]) ∧ Below w.heap.size w w' := by
  obtain ⟨h1, xs, h2⟩ := h
  exact total_any W H b o n c xs L w h2 h1
theorem rm_check {w : World} {W H n b o : Nat} {L : List Int} (h : RM w W H n L b o) (c : Nat) :
    Calls Tryz.prog 41 #[.agg #[.int .i64 W, .int .i64 H, .slice (some ⟨b, o, none⟩) n c]] w fun e w' => e = .returned (.int .i64 0) ∧ Below w.heap.size w w' := by
  obtain ⟨xs, hM, hR⟩ := h.any c
  have e : mapErr W H n xs = 0 := by
    unfold mapErr
    have h1 := hR.wid
    have h2 := hR.hei
    rw [rangeErr_in h1.1 h1.2, rangeErr_in h2.1 h2.2, if_pos (by simp [firstNZ]), if_pos hR.area]
    refine firstNZ_zeros fun x hx => ?_
    obtain ⟨y, hy, rfl⟩ := List.mem_map.1 hx
    obtain ⟨j, hj, rfl⟩ := List.mem_iff_getElem.1 hy
    have hjn : j < n := by have := hR.len; omega
    have hs := hR.smps j hjn
    have hz := hR.sizes j hjn
    rw [List.getElem?_eq_getElem hj] at hs
    obtain ⟨s, g1, _, _⟩ := hs
    refine smpErr_ok g1 ?_ (Nat.mul_mod_left _ _)
    refine Nat.le_trans (Nat.mul_le_mul_right _ hz) ?_
    decide +kernel
  have k := refCheckMap_map W H (some ⟨b, o, none⟩) n c xs w hM
  rw [e] at k
  exact k
theorem rm_same {w : World} {W H n b o b' o' : Nat} {L : List Int} (h : RM w W H n L b o) (h' : RM w W H n L b' o') (c c' : Nat) :
    Calls Tryz.prog 98 #[.agg #[.int .i64 W, .int .i64 H, .slice (some ⟨b, o, none⟩) n c], .agg #[.int .i64 W, .int .i64 H, .slice (some ⟨b', o', none⟩) n c']] w fun e w' => e = .returned (.bool true) ∧ Below w.heap.size w w' := by
  obtain ⟨h1, xs, h2⟩ := h
  obtain ⟨g1, ys, g2⟩ := h'
  exact sameMap_any W H b o c b' o' c' n xs ys L h2.small h1 g1 h2.cells g2.cells h2.smps g2.smps

/-- A call that returns a right map. -/
def GivesMap (f : FuncId) (args : Array Value) (w : World) (W H n : Nat) (L : List Int) : Prop :=
  Calls Tryz.prog f args w fun e w' => ∃ g, e = .returned (.tuple #[.agg #[.int .i64 W, .int .i64 H, .slice (some ⟨g, 0, none⟩) n n], .int .i64 0]) ∧ RM w' W H n L g 0 ∧ Below w.heap.size w w'

theorem rm_spread {w : World} {W H n b o : Nat} {L : List Int} (h : RM w W H n L b o) (c : Nat) (s : Int) (h0 : 0 ≤ s) (h4 : s ≤ 4) (hs : ∀ j, j < n → ((roundsTo W H s L (gridPlaces W (H * W)))[j]?.getD 0).natAbs ≤ 16384) :
    GivesMap 63 #[.agg #[.int .i64 W, .int .i64 H, .slice (some ⟨b, o, none⟩) n c], .int .i64 s] w W H n (roundsTo W H s L (gridPlaces W (H * W))) := by
  have ha := h.area
  obtain ⟨h1, xs, h2⟩ := h
  have hl : (roundsTo W H s L (gridPlaces W (H * W))).length = n := by rw [roundsTo_len]; exact h2.lenk
  refine (spread_any W H s h0 h4 b o c n xs L w h2 h1 (fun j => ?_)).mono ?_
  · by_cases hj : j < n
    · exact hs j hj
    · show ((roundsTo W H s L (gridPlaces W (H * W)))[j]?.getD 0).natAbs ≤ 16384
      rw [List.getElem?_eq_none (by omega)]; decide
  · rintro e w' ⟨g, he, hg, hc, hb⟩
    have hw := h2.wid
    have hh := h2.hei
    exact ⟨g, he, RM.of_cells hl h2.small hs (by omega) (by omega) ha hg hc, hb⟩
theorem rm_flipped {w : World} {W H n b o : Nat} {L : List Int} (h : RM w W H n L b o) (c : Nat) :
    GivesMap 56 #[.agg #[.int .i64 W, .int .i64 H, .slice (some ⟨b, o, none⟩) n c]] w W H n (flipK W n L) := by
  have ha := h.area
  obtain ⟨h1, xs, h2⟩ := h
  have e : ∀ j, j < n → (flipK W n L)[j]?.getD 0 = L[j / W * W + (W - 1 - j % W)]?.getD 0 := fun j hj => by unfold flipK; rw [List.getElem?_map, List.getElem?_range hj]; rfl
  refine (flipped_any W H b o n c xs L w h2 h1).mono ?_
  rintro e' w' ⟨g, he, hg, hc, hb⟩
  have hw := h2.wid
  have hh := h2.hei
  refine ⟨g, he, RM.of_cells (flipK_len W n L) h2.small (fun j hj => ?_) (by omega) (by omega) ha hg (fun j hj => by rw [e j hj]; exact hc j hj), hb⟩
  rw [e j hj]
  by_cases hh2 : j / W * W + (W - 1 - j % W) < n
  · exact h2.sizes _ hh2
  · rw [List.getElem?_eq_none (by have := h2.lenk; omega)]; decide
theorem rm_turned {w : World} {W H n b o : Nat} {L : List Int} (h : RM w W H n L b o) (c : Nat) :
    GivesMap 57 #[.agg #[.int .i64 W, .int .i64 H, .slice (some ⟨b, o, none⟩) n c]] w H W n (turnK W H n L) := by
  have ha := h.area
  obtain ⟨h1, xs, h2⟩ := h
  have e : ∀ j, j < n → (turnK W H n L)[j]?.getD 0 = L[(H - 1 - j % H) * W + j / H]?.getD 0 := fun j hj => by unfold turnK; rw [List.getElem?_map, List.getElem?_range hj]; rfl
  refine (turned_any W H b o n c xs L w h2 h1).mono ?_
  rintro e' w' ⟨g, he, hg, hc, hb⟩
  have hw := h2.wid
  have hh := h2.hei
  refine ⟨g, he, RM.of_cells (turnK_len W H n L) h2.small (fun j hj => ?_) (by omega) (by omega) (by rw [Nat.mul_comm]; exact ha) hg (fun j hj => by rw [e j hj]; exact hc j hj), hb⟩
  rw [e j hj]
  by_cases hh2 : (H - 1 - j % H) * W + j / H < n
  · exact h2.sizes _ hh2
  · rw [List.getElem?_eq_none (by have := h2.lenk; omega)]; decide

/-- What a right map's own words say of its integers. -/
theorem rm_of_any {w : World} {W H : Int} {a : Option Addr} {n c : Nat} {xs : List Nat} (h : AnyMap w a n c xs) (h0 : mapErr W H n xs = 0) :
    ∃ (Wn Hn b o : Nat), W = Wn ∧ H = Hn ∧ a = some ⟨b, o, none⟩ ∧ RM w Wn Hn n (xs.map kOf) b o := by
  obtain ⟨b, o, ha, hb, hR⟩ := h.rightK h0
  obtain ⟨Wn, rfl⟩ := Int.eq_ofNat_of_zero_le (show 0 ≤ W by have := hR.wid; omega)
  obtain ⟨Hn, rfl⟩ := Int.eq_ofNat_of_zero_le (show 0 ≤ H by have := hR.hei; omega)
  exact ⟨Wn, Hn, b, o, rfl, rfl, ha, hb, xs, hR⟩
end Go.Proofs.YtfdkmmllemkogaaGreatDoor

/-
  Contract of small for every map: whether it is right, has at most 160 samples, and none above a bound.
-/
namespace Go.Proofs.YtfdkmmllemkogaaGreatDoor
open Go.RowKit
set_option linter.unusedVariables false
set_option linter.unusedSimpArgs false

theorem order_lt {x y : Nat} {k l : Int} (hx : Smp x k) (hy : Smp y l) : (FloatKind.f32.format.order x y == some .lt) = decide (k < l) := by
  have e : Ieee.single.order x y = some (compare k l) := hx.order hy
  show (Ieee.single.order x y == some .lt) = decide (k < l)
  rw [e]
  have h : (compare k l = .lt) ↔ k < l := by
    show compareOfLessAndEq k l = .lt ↔ _
    unfold compareOfLessAndEq
    split
    · simp_all
    · split <;> simp_all
  by_cases hk : k < l
  · rw [decide_eq_true hk, h.2 hk]; rfl
  · rw [decide_eq_false hk]
    cases h2 : compare k l
    · exact absurd (h.1 h2) hk
    · rfl
    · rfl

theorem ret_boolK {a b : Bool} (h : a = b) : Ending.returned (.bool a) = .returned (.bool b) := by rw [h]
def smallB (W H : Int) (n : Nat) (xs : List Nat) (M : Nat) : Bool := decide (mapErr W H n xs = 0 ∧ n ≤ 160 ∧ ∀ j, j < n → (kOf (xs[j]?.getD 0)).natAbs ≤ M)

set_option maxRecDepth 100000 in
set_option maxHeartbeats 3200000 in
theorem small_all (mw mn M : Nat) (hp : Smp mw M) (hm : Smp mn (-(M : Int))) (hneg : ∀ w : World, (Op.unary .neg (.float .f32 mw)).run Tryz.prog w = .ok (.float .f32 mn) w)
    (W H : Int) (a : Option Addr) (n c : Nat) (xs : List Nat) (w : World) (hM : AnyMap w a n c xs) :
    Calls Tryz.prog 96 #[.agg #[.int .i64 W, .int .i64 H, .slice a n c], .float .f32 mw] w fun e w' => e = .returned (.bool (smallB W H n xs M)) ∧ Below w.heap.size w w' := by
  obtain ⟨W0, hW0⟩ : ∃ W0, w.alloc (.cells #[.int .i64 W, .int .i64 H, .slice a n c] 48) = W0 := ⟨_, rfl⟩
  have hB0 : Below w.heap.size w W0 := by rw [← hW0]; exact (Below.refl _ w).alloc (Nat.le_refl _) _
  have r0 : W0.heap[w.heap.size]? = some (.cells #[.int .i64 W, .int .i64 H, .slice a n c] 48 (0, 0)) := by rw [← hW0]; exact blk_alloc_new _ _
  obtain ⟨z0, z1, z2⟩ := row_cells r0
  obtain ⟨er, her⟩ : ∃ er, mapErr W H n xs = er := ⟨_, rfl⟩
  have K0 := refCheckMap_map W H a n c xs W0 (hM.below hB0 (Nat.le_refl _))
  rw [her] at K0
  have K := Lib.hid K0
  have HB0 := Lib.hid hB0
  have HR0 := Lib.hid r0
  have HM := Lib.hid hM
  have HER := Lib.hid her
  have HP := Lib.hid hp
  have HN := Lib.hid hm
  clear hB0 r0 hM K0 her hp hm
  by_cases h0 : er = 0
  · have e0 : (er != 0) = false := by simp [h0]
    by_cases h1 : n ≤ 160
    · have i1 : ¬ ((160 : Int) < (n : Int)) := by omega
      have H0 := Lib.hid h0
      clear h0
      go_enter Tryz.func96, Tryz.ntmps96
      go_upto_region 1 with fail
      try rw [hW0]
      clear hW0
      go_upto_if 15 with (go_at_call 41; with_reducible refine K.out.mono ?_; rintro e w1 ⟨rfl, hb1⟩; have r1 := (hb1.block _ (lt_of_blk HR0.out)).trans HR0.out; have hb1' := HB0.out.trans (hb1.mono HB0.out.size); obtain ⟨y0, y1, y2⟩ := row_cells r1)
      have HB1 := Lib.hid hb1'
      have HR1 := Lib.hid r1
      clear hb1 hb1' r1 z0 z1 z2
      go_wp2_with fail
      go_loop [19] (fun i => ∃ k : Nat, k ≤ n ∧ i = .int .i64 k ∧ Hid (∀ j, j < k → (kOf (xs[j]?.getD 0)).natAbs ≤ M)) (fun i => n - (intOf i).toNat)
      case atStart => exact ⟨0, Nat.zero_le _, rfl, Lib.hid fun j hj => absurd hj (by omega)⟩
      case round =>
        obtain ⟨k, hk, rfl, hh⟩ := hrel
        by_cases hlt : k < n
        · obtain ⟨b, o, rfl, hb, hcc⟩ := HM.out.cells k hlt
          have hcell : w1.cell? ⟨b, o + k, none⟩ = some (.float .f32 (xs[k]?.getD 0)) := (HB1.out.cell (by exact hb)).trans (hcc k hlt)
          have hs := (smp_kOf (mapErr_smps HM.out.len (HER.out.trans H0.out) k hlt)).1
          have t1 := order_gt hs HP.out
          have t2 := order_lt hs HN.out
          obtain ⟨x, hx⟩ : ∃ x, xs[k]?.getD 0 = x := ⟨_, rfl⟩
          have HX := Lib.hid hx
          rw [hx] at hcell t1 t2
          have t1' : (FloatKind.f32.format.order x mw == some .gt) = decide ((M : Int) < kOf x) := t1
          clear t1 hs hcc hx
          by_cases hbad : (kOf x).natAbs ≤ M
          · have u1 : (FloatKind.f32.format.order x mw == some .gt) = false := by rw [t1']; simp; omega
            have u2 : (FloatKind.f32.format.order x mn == some .lt) = false := by rw [t2]; simp; omega
            have HBAD := Lib.hid hbad
            clear t1' t2 hbad
            go_wp2_with fail
            go_round
            case rel => exact ⟨k + 1, by omega, by go_num, Lib.hid fun j hj => by
              by_cases hjk : j < k
              · exact hh.out j hjk
              · obtain rfl : j = k := by omega
                rw [HX.out]; exact HBAD.out⟩
            case measure => simp [intOf]; omega
          · have hfalse : smallB W H n xs M = false := decide_eq_false fun h => hbad (by rw [← HX.out]; exact h.2.2 k hlt)
            have HF := Lib.hid hfalse
            by_cases hg : (M : Int) < kOf x
            · have u1 : (FloatKind.f32.format.order x mw == some .gt) = true := by rw [t1']; simp; omega
              clear t1' t2 hbad hfalse hg
              go_wp2_with fail
              go_ret
              exact ⟨ret_boolK HF.out.symm, HB1.out⟩
            · have u1 : (FloatKind.f32.format.order x mw == some .gt) = false := by rw [t1']; simp; omega
              have u2 : (FloatKind.f32.format.order x mn == some .lt) = true := by rw [t2]; simp; omega
              clear t1' t2 hbad hfalse hg
              go_wp2_with fail
              go_ret
              exact ⟨ret_boolK HF.out.symm, HB1.out⟩
        · obtain rfl : k = n := by omega
          have htrue : smallB W H k xs M = true := decide_eq_true ⟨HER.out.trans H0.out, h1, hh.out⟩
          have HT := Lib.hid htrue
          clear htrue
          go_wp2_with fail
          go_ret
          exact ⟨ret_boolK HT.out.symm, HB1.out⟩
    · have i1 : (160 : Int) < (n : Int) := by omega
      have hfalse : smallB W H n xs M = false := decide_eq_false fun h => h1 h.2.1
      have HF := Lib.hid hfalse
      clear h0 hfalse h1
      go_enter Tryz.func96, Tryz.ntmps96
      go_upto_region 1 with fail
      try rw [hW0]
      clear hW0
      go_wp2_with (go_at_call 41; with_reducible refine K.out.mono ?_; rintro e w1 ⟨rfl, hb1⟩; have r1 := (hb1.block _ (lt_of_blk HR0.out)).trans HR0.out; have HB1 := Lib.hid (HB0.out.trans (hb1.mono HB0.out.size)); obtain ⟨y0, y1, y2⟩ := row_cells r1; clear hb1)
      go_ret
      exact ⟨ret_boolK HF.out.symm, HB1.out⟩
  · have e0 : (er != 0) = true := by simp [h0]
    have hfalse : smallB W H n xs M = false := decide_eq_false fun h => h0 (HER.out.symm.trans h.1)
    have HF := Lib.hid hfalse
    clear h0 hfalse
    go_enter Tryz.func96, Tryz.ntmps96
    go_upto_region 1 with fail
    try rw [hW0]
    clear hW0
    go_wp2_with (go_at_call 41; with_reducible refine K.out.mono ?_; rintro e w1 ⟨rfl, hb1⟩; have HB1 := Lib.hid (HB0.out.trans (hb1.mono HB0.out.size)); clear hb1)
    go_ret
    exact ⟨ret_boolK HF.out.symm, HB1.out⟩

theorem smp400 : Smp 1137180672 ((6400 : Nat) : Int) := ⟨false, ⟨13107200, -15, by decide +kernel, by decide, by decide, by decide +kernel⟩, by decide, by decide⟩
theorem smpN400 : Smp 3284664320 (-((6400 : Nat) : Int)) := ⟨true, ⟨13107200, -15, by decide +kernel, by decide, by decide, by decide +kernel⟩, by decide, by decide⟩
theorem neg400 : ∀ w : World, (Op.unary .neg (.float .f32 1137180672)).run Tryz.prog w = .ok (.float .f32 3284664320) w := fun w => by kernel_rfl
end Go.Proofs.YtfdkmmllemkogaaGreatDoor

/-
  The walk of LightKept: the round of its loop, for flips and for turns.
-/
namespace Go.Proofs.YtfdkmmllemkogaaGreatDoor
open Go.RowKit Go.Shelf
set_option linter.unusedVariables false
set_option linter.unusedSimpArgs false

def headsK (n : Nat) : Code → Bool
  | .region m _ _ => m == n
  | .seq a _ => headsK n a
  | _ => false
def tailK (n : Nat) : Code → Option Code
  | .seq a b => if headsK n a then some (.seq a b) else match tailK n b with
    | some c => some c
    | none => tailK n a
  | .block _ c => tailK n c
  | .scope c => tailK n c
  | .loop c => tailK n c
  | .cond _ a b => match tailK n a with
    | some c => some c
    | none => tailK n b
  | c => if headsK n c then some c else none
noncomputable def keptOf (n : Nat) : Code := ((Tryz.f14.body.bind (tailK n)).getD .skip)

theorem Kp.sub {w w1 : World} {l m : List (Nat × Obj)} (h : Kp w w1 l) (hs : ∀ p ∈ m, p ∈ l) : Kp w w1 m := ⟨h.1, fun p hp => h.2 p (hs p hp)⟩
theorem RM.other {w w' : World} {W H n g : Nat} {L : List Int} (h : RM w W H n L g 0) (hb : w'.heap[g]? = w.heap[g]?) (hz : w.heap.size ≤ w'.heap.size) : RM w' W H n L g 0 := by
  obtain ⟨h1, xs, h2⟩ := h
  exact ⟨Nat.lt_of_lt_of_le h1 hz, xs, ⟨⟨h2.len, h2.lenk, h2.small, fun j hj => (World.cell?_of_block hb).trans (h2.cells j hj), h2.words, h2.smps, h2.sizes⟩, h2.wid, h2.hei, h2.area⟩⟩
/-- A map's samples do not lie where a map's own cells do. -/
theorem RM.ne {w : World} {W H n g B : Nat} {L : List Int} {x : Int} {y z : Value} {T : TypeId} (h : RM w W H n L g 0) (hB : w.heap[B]? = some (.cells #[.int .i64 x, y, z] T (0, 0))) : g ≠ B := by
  rintro rfl
  obtain ⟨_, xs, h2⟩ := h
  have hn : 1 ≤ n := by
    have h3 := h2.wid
    have h4 := h2.hei
    have h5 := h2.area
    have := Int.mul_le_mul h3.1 h4.1 (by omega) (by omega)
    omega
  have h6 := h2.cells 0 (by omega)
  rw [cell_of_row w g (0 + 0) _ _ (0, 0) hB] at h6
  simp at h6

/-- What a function of maps answers, one call after the other. -/
structure OfK (f : FuncId) (cnt W H n : Nat) (ks S LB : List Int) (s tt : Int) (Wd Hd : Nat → Nat) (Ls : Nat → List Int) : Prop where
  first : ∀ (w1 : World) (g c' : Nat), RM w1 W H n ks g 0 → GivesMap f #[.agg #[.int .i64 W, .int .i64 H, .slice (some ⟨g, 0, none⟩) n c']] w1 (Wd 1) (Hd 1) n (Ls 1)
  sp : ∀ (w1 : World) (g c' : Nat), RM w1 W H n S g 0 → GivesMap f #[.agg #[.int .i64 W, .int .i64 H, .slice (some ⟨g, 0, none⟩) n c']] w1 (Wd 1) (Hd 1) n LB
  next : ∀ (i : Nat), 1 ≤ i → i ≤ cnt → ∀ (w1 : World) (g c' : Nat), RM w1 (Wd i) (Hd i) n (Ls i) g 0 → GivesMap f #[.agg #[.int .i64 (Wd i), .int .i64 (Hd i), .slice (some ⟨g, 0, none⟩) n c']] w1 (Wd (i + 1)) (Hd (i + 1)) n (Ls (i + 1))
  spread : ∀ (w1 : World) (g c' : Nat), RM w1 (Wd 1) (Hd 1) n (Ls 1) g 0 → GivesMap 63 #[.agg #[.int .i64 (Wd 1), .int .i64 (Hd 1), .slice (some ⟨g, 0, none⟩) n c'], .int .i64 s] w1 (Wd 1) (Hd 1) n LB
  sum : (Ls 1).sum = tt
  back : Wd (cnt + 1) = W ∧ Hd (cnt + 1) = H ∧ Ls (cnt + 1) = ks

set_option maxRecDepth 1000000 in
set_option maxHeartbeats 25600000 in
theorem keptFlip (w : World) (W H b o n c : Nat) (ks S LB : List Int) (hR : RM w W H n ks b o) (nv s tt : Int) (Wd Hd : Nat → Nat) (Ls : Nat → List Int) (hO : OfK 56 1 W H n ks S LB s tt Wd Hd Ls) (k : Nat) (hk : k = 0) (B8 g5 : Nat) (wr : World)
    (hKp : Kp w wr [(B8, (.cells #[.int .i64 W, .int .i64 H, .slice (some ⟨g5, 0, none⟩) n n] 54 (0, 0))), (w.heap.size, (.cells #[.int .i64 W, .int .i64 H, .slice (some ⟨b, o, none⟩) n c] 48 (0, 0)))]) (hRS : RM wr W H n S g5 0) (Q : Exit → Act → World → Prop) (u3 u4 u7 u9 u10 u11 u12 u13 u16 u17 u18 u19 u20 u21 u22 u23 u24 u25 u26 u27 u28 u29 u30 u31 u32 u33 u34 u35 u36 u37 u38 u39 u40 u41 u42 u43 u44 u45 u46 u47 u48 u49 u50 u51 u52 u53 u54 u55 u56 u57 u58 u59 u60 u61 u62 u63 u64 u65 u66 u67 u68 u69 u70 u71 u72 u73 u74 u75 u76 u77 u78 u79 u80 u81 u82 u83 u84 u87 u88 u89 u90 u91 u92 u93 u94 u95 u96 u97 u98 u99 u100 u101 u102 u103 u104 u105 u106 u107 u108 u109 u110 u111 u112 u113 u114 u115 u116 u117 u118 u119 u120 u121 u122 u123 u124 u125 u126 u127 u128 u129 u130 u131 u132 u133 u134 u135 u136 u137 u138 u139 u140 u141 u142 u143 u144 u145 u146 u147 u148 u149 u150 u151 u152 u153 u154 u155 u156 u157 u158 u159 u160 u161 u162 u163 u164 u165 u166 u167 u168 u169 u170 u171 u172 u173 u174 u175 u176 : Value)
    (hQ : ∀ (w' : World) (v4 v14 v15 v16 v17 v18 v19 v20 v21 v22 v23 v24 v25 v87 v88 v89 v90 v91 v92 v93 v94 v95 v96 v97 v98 v99 v100 v101 v102 v103 v104 v105 v106 v107 v108 v109 v110 v111 v112 v113 v114 v115 v116 v117 v118 v119 v120 v121 v122 v123 v124 v125 v126 v127 v128 v129 v130 v131 v132 v133 v134 v135 v136 v137 v138 v139 v140 v141 v142 v143 v144 v145 v146 v147 v148 v149 v150 v151 v152 v153 v154 v155 v156 v157 v158 v159 v160 v161 v162 v163 v164 v165 v166 v167 v168 v169 v170 v171 v172 v173 v174 v175 : Value), Kp w w' [(B8, (.cells #[.int .i64 W, .int .i64 H, .slice (some ⟨g5, 0, none⟩) n n] 54 (0, 0))), (w.heap.size, (.cells #[.int .i64 W, .int .i64 H, .slice (some ⟨b, o, none⟩) n c] 48 (0, 0)))] → RM w' W H n S g5 0 → Q .normal ⟨#[.agg #[.int .i64 (W : Nat), .int .i64 (H : Nat), .slice (some ⟨b, o, none⟩) n c], .int .u8 nv, .pointer (some ⟨w.heap.size, 0, none⟩), u3, v4, .int .i64 s, .int .i64 tt, u7, .pointer (some ⟨B8, 0, none⟩), u9, u10, u11, u12, u13, v14, v15, v16, v17, v18, v19, v20, v21, v22, v23, v24, v25, u26, u27, u28, u29, u30, u31, u32, u33, u34, u35, u36, u37, u38, u39, u40, u41, u42, u43, u44, u45, u46, u47, u48, u49, u50, u51, u52, u53, u54, u55, u56, u57, u58, u59, u60, u61, u62, u63, u64, u65, u66, u67, u68, u69, u70, u71, u72, u73, u74, u75, u76, u77, u78, u79, u80, u81, u82, u83, u84, (.agg #[.func (.func 56) #[] #[], .func (.func 57) #[] #[]]), .int .i64 (k : Nat), v87, v88, v89, v90, v91, v92, v93, v94, v95, v96, v97, v98, v99, v100, v101, v102, v103, v104, v105, v106, v107, v108, v109, v110, v111, v112, v113, v114, v115, v116, v117, v118, v119, v120, v121, v122, v123, v124, v125, v126, v127, v128, v129, v130, v131, v132, v133, v134, v135, v136, v137, v138, v139, v140, v141, v142, v143, v144, v145, v146, v147, v148, v149, v150, v151, v152, v153, v154, v155, v156, v157, v158, v159, v160, v161, v162, v163, v164, v165, v166, v167, v168, v169, v170, v171, v172, v173, v174, v175, u176], []⟩ w') :
    Code.wp Tryz.prog (keptOf 15) Q ⟨#[.agg #[.int .i64 (W : Nat), .int .i64 (H : Nat), .slice (some ⟨b, o, none⟩) n c], .int .u8 nv, .pointer (some ⟨w.heap.size, 0, none⟩), u3, u4, .int .i64 s, .int .i64 tt, u7, .pointer (some ⟨B8, 0, none⟩), u9, u10, u11, u12, u13, .int .i64 (k : Nat), .func (.func 56) #[] #[], u16, u17, u18, u19, u20, u21, u22, u23, u24, u25, u26, u27, u28, u29, u30, u31, u32, u33, u34, u35, u36, u37, u38, u39, u40, u41, u42, u43, u44, u45, u46, u47, u48, u49, u50, u51, u52, u53, u54, u55, u56, u57, u58, u59, u60, u61, u62, u63, u64, u65, u66, u67, u68, u69, u70, u71, u72, u73, u74, u75, u76, u77, u78, u79, u80, u81, u82, u83, u84, (.agg #[.func (.func 56) #[] #[], .func (.func 57) #[] #[]]), .int .i64 (k : Nat), u87, u88, u89, u90, u91, u92, u93, u94, u95, u96, u97, u98, u99, u100, u101, u102, u103, u104, u105, u106, u107, u108, u109, u110, u111, u112, u113, u114, u115, u116, u117, u118, u119, u120, u121, u122, u123, u124, u125, u126, u127, u128, u129, u130, u131, u132, u133, u134, u135, u136, u137, u138, u139, u140, u141, u142, u143, u144, u145, u146, u147, u148, u149, u150, u151, u152, u153, u154, u155, u156, u157, u158, u159, u160, u161, u162, u163, u164, u165, u166, u167, u168, u169, u170, u171, u172, u173, u174, u175, u176], []⟩ wr := by
  conv => arg 2; whnf
  dsimp only
  have KO : Hid (∀ w1 : World, Below w.heap.size w w1 → Calls Tryz.prog 38 #[.agg #[.int .i64 W, .int .i64 H, .slice (some ⟨b, o, none⟩) n c]] w1 fun e w' =>
      ∃ g c', e = .returned (.agg #[.int .i64 W, .int .i64 H, .slice (some ⟨g, 0, none⟩) n c']) ∧ RM w' W H n ks g 0 ∧ Below w1.heap.size w1 w') := Lib.hid fun w1 h => rm_own (hR.kept h) c
  have HO := Lib.hid hO
  have HR := Lib.hid hR
  have HQ := Lib.hid hQ
  have HK := Lib.hid hKp
  have HS := Lib.hid hRS
  have hidx : ∀ w1 : World, (Instr.index 152 (.agg #[.int .i64 1, .int .i64 3]) (.int .i64 (k : Int))).run Tryz.prog w1 = .ok (.int .i64 1) w1 := fun w1 => by subst hk; kernel_rfl
  have HKK := Lib.hid hk
  have eTT : (tt != tt) = false := by simp
  clear hO hR hQ hKp hRS hk
  obtain ⟨x0, x1, x2⟩ := row_cells (HK.out.2 _ (.tail _ (.head _)))
  go_upto_region 16 with (first
    | (go_at_call 38; with_reducible refine (KO.out _ (Kp.below HK.out)).mono ?_; rintro e w14 ⟨g14, c14, rfl, hm, hb⟩;
       have K14 := Lib.hid (HK.out.call hb); have R14 := Lib.hid hm; have S14 := Lib.hid (HS.out.kept hb); clear hb hm)
    | (go_at_call 56; (refine Calls.mono (HO.out.first _ g14 c14 R14.out) ?_); rintro e w15 ⟨g16, rfl, hm, hb⟩;
       have L15 := Lib.hid (K14.out.call hb); have K15 := Lib.hid ((K14.out.call hb).alloc (.cells #[.int .i64 0, .int .i64 0, .slice none 0 0] 54));
       have K16 := Lib.hid ((K14.out.call hb).stored #[.int .i64 0, .int .i64 0, .slice none 0 0] #[.int .i64 (Wd 1 : Nat), .int .i64 (Hd 1 : Nat), .slice (some ⟨g16, 0, none⟩) n n] 54);
       have R16 := Lib.hid (hm.kept ((Kp.none w15).stored #[.int .i64 0, .int .i64 0, .slice none 0 0] #[.int .i64 (Wd 1 : Nat), .int .i64 (Hd 1 : Nat), .slice (some ⟨g16, 0, none⟩) n n] 54).1);
       have S16 := Lib.hid ((S14.out.kept hb).kept ((Kp.none w15).stored #[.int .i64 0, .int .i64 0, .slice none 0 0] #[.int .i64 (Wd 1 : Nat), .int .i64 (Hd 1 : Nat), .slice (some ⟨g16, 0, none⟩) n n] 54).1); clear hb hm)
    | (refine wpList_store_row rfl 54 (.tmp 16) (.tmp 95) rfl w15.heap.size rfl #[.int .i64 (Wd 1 : Nat), .int .i64 (Hd 1 : Nat), .slice (some ⟨g16, 0, none⟩) n n] rfl 54 #[.int .i64 0, .int .i64 0, .slice none 0 0] (K15.out.2 _ (.head _)) (by rfl) (by kernel_rfl) (by simp [Value.oneCell']) ?_))
  obtain ⟨W16, hW16⟩ : ∃ W16, (w15.alloc (.cells #[.int .i64 0, .int .i64 0, .slice none 0 0] 54)).setRow w15.heap.size #[.int .i64 (Wd 1 : Nat), .int .i64 (Hd 1 : Nat), .slice (some ⟨g16, 0, none⟩) n n] = W16 := ⟨_, rfl⟩
  obtain ⟨B16, hB16⟩ : ∃ B16, w15.heap.size = B16 := ⟨_, rfl⟩
  have k16 := K16.out
  have qR16 := R16.out
  have qS16 := S16.out
  rw [hW16] at k16 qR16 qS16 ⊢
  rw [hB16] at k16 ⊢
  have HK16 := Lib.hid k16
  have HR16 := Lib.hid qR16
  have HS16 := Lib.hid qS16
  have l16a : B8 < B16 := by rw [← hB16]; exact lt_of_blk (L15.out.2 _ (.head _))
  have l16b : w.heap.size < B16 := by rw [← hB16]; exact lt_of_blk (L15.out.2 _ (.tail _ (.head _)))
  clear L15 hW16 hB16 k16 qR16 qS16
  clear x0 x1 x2 K14 R14 S14 K15 K16 R16 S16 HK HS
  obtain ⟨x0, x1, x2⟩ := row_cells (HK16.out.2 _ (.tail _ (.head _)))
  go_upto_region 17 with (first
    | (go_at_call 97; with_reducible refine (told_any _ _ _ _ _ _).mono ?_; rintro e w17 ⟨rfl, hb⟩;
       have K17 := Lib.hid (HK16.out.call hb); have R17 := Lib.hid (HR16.out.kept hb); have S17 := Lib.hid (HS16.out.kept hb); clear hb)
    | (go_at_call 38; (refine Calls.mono (rm_own S17.out n) ?_); rintro e w18 ⟨g17, c17, rfl, hm, hb⟩;
       have K18 := Lib.hid (K17.out.call hb); have R18 := Lib.hid (R17.out.kept hb); have S18 := Lib.hid (S17.out.kept hb); have M18 := Lib.hid hm; clear hb hm)
    | (go_at_call 56; (refine Calls.mono (HO.out.sp _ g17 c17 M18.out) ?_); rintro e w19 ⟨g18, rfl, hm, hb⟩;
       have K19 := Lib.hid ((K18.out.call hb).alloc (.cells #[.int .i64 0, .int .i64 0, .slice none 0 0] 54));
       have K20 := Lib.hid ((K18.out.call hb).stored #[.int .i64 0, .int .i64 0, .slice none 0 0] #[.int .i64 (Wd 1 : Nat), .int .i64 (Hd 1 : Nat), .slice (some ⟨g18, 0, none⟩) n n] 54);
       have R20 := Lib.hid ((R18.out.kept hb).kept ((Kp.none w19).stored #[.int .i64 0, .int .i64 0, .slice none 0 0] #[.int .i64 (Wd 1 : Nat), .int .i64 (Hd 1 : Nat), .slice (some ⟨g18, 0, none⟩) n n] 54).1);
       have S20 := Lib.hid ((S18.out.kept hb).kept ((Kp.none w19).stored #[.int .i64 0, .int .i64 0, .slice none 0 0] #[.int .i64 (Wd 1 : Nat), .int .i64 (Hd 1 : Nat), .slice (some ⟨g18, 0, none⟩) n n] 54).1);
       have M20 := Lib.hid (hm.kept ((Kp.none w19).stored #[.int .i64 0, .int .i64 0, .slice none 0 0] #[.int .i64 (Wd 1 : Nat), .int .i64 (Hd 1 : Nat), .slice (some ⟨g18, 0, none⟩) n n] 54).1); clear hb hm)
    | (refine wpList_store_row rfl 54 (.tmp 18) (.tmp 103) rfl w19.heap.size rfl #[.int .i64 (Wd 1 : Nat), .int .i64 (Hd 1 : Nat), .slice (some ⟨g18, 0, none⟩) n n] rfl 54 #[.int .i64 0, .int .i64 0, .slice none 0 0] (K19.out.2 _ (.head _)) (by rfl) (by kernel_rfl) (by simp [Value.oneCell']) ?_))
  obtain ⟨W18, hW18⟩ : ∃ W18, (w19.alloc (.cells #[.int .i64 0, .int .i64 0, .slice none 0 0] 54)).setRow w19.heap.size #[.int .i64 (Wd 1 : Nat), .int .i64 (Hd 1 : Nat), .slice (some ⟨g18, 0, none⟩) n n] = W18 := ⟨_, rfl⟩
  obtain ⟨B18, hB18⟩ : ∃ B18, w19.heap.size = B18 := ⟨_, rfl⟩
  have k18 := K20.out
  have qR20 := R20.out
  have qS20 := S20.out
  have qM20 := M20.out
  rw [hW18] at k18 qR20 qS20 qM20 ⊢
  rw [hB18] at k18 ⊢
  have HK18 := Lib.hid k18
  have HR20 := Lib.hid qR20
  have HS20 := Lib.hid qS20
  have HM20 := Lib.hid qM20
  clear hW18 hB18 k18 qR20 qS20 qM20
  clear x0 x1 x2 K17 R17 S17 K18 R18 S18 M18 K19 K20 R20 S20 M20 HK16 HR16 HS16
  obtain ⟨x0, x1, x2⟩ := row_cells (HK18.out.2 _ (.tail _ (.head _)))
  go_upto_region 19 with (first
    | (go_at_call 97; with_reducible refine (told_any _ _ _ _ _ _).mono ?_; rintro e w21 ⟨rfl, hb⟩;
       have K21 := Lib.hid (HK18.out.call hb); have R21 := Lib.hid (HR20.out.kept hb); have S21 := Lib.hid (HS20.out.kept hb); have M21 := Lib.hid (HM20.out.kept hb); clear hb)
    | (go_at_call 41; (refine Calls.mono (rm_check R21.out n) ?_); rintro e w22 ⟨rfl, hb⟩;
       have K22 := Lib.hid (K21.out.call hb); have R22 := Lib.hid (R21.out.kept hb); have S22 := Lib.hid (S21.out.kept hb); have M22 := Lib.hid (M21.out.kept hb); clear hb;
       obtain ⟨y0, y1, y2⟩ := row_cells (K22.out.2 _ (.tail _ (.head _)))))
  clear x0 x1 x2 K21 R21 S21 M21 HK18 HR20 HS20 HM20
  go_upto_region 20 with (first
    | (go_at_call 97; with_reducible refine (told_any _ _ _ _ _ _).mono ?_; rintro e w23 ⟨rfl, hb⟩;
       have K23 := Lib.hid (K22.out.call hb); have R23 := Lib.hid (R22.out.kept hb); have S23 := Lib.hid (S22.out.kept hb); have M23 := Lib.hid (M22.out.kept hb); clear hb)
    | (go_at_call 38; (refine Calls.mono (rm_own R23.out n) ?_); rintro e w24 ⟨g23, c23, rfl, hm, hb⟩;
       have K24 := Lib.hid (K23.out.call hb); have R24 := Lib.hid (R23.out.kept hb); have S24 := Lib.hid (S23.out.kept hb); have M24 := Lib.hid (M23.out.kept hb); have N24 := Lib.hid hm; clear hb hm)
    | (go_at_call 63; (refine Calls.mono (HO.out.spread _ g23 c23 N24.out) ?_); rintro e w25 ⟨g20, rfl, hm, hb⟩;
       have K25 := Lib.hid ((K24.out.call hb).alloc (.cells #[.int .i64 0, .int .i64 0, .slice none 0 0] 54));
       have K26 := Lib.hid ((K24.out.call hb).stored #[.int .i64 0, .int .i64 0, .slice none 0 0] #[.int .i64 (Wd 1 : Nat), .int .i64 (Hd 1 : Nat), .slice (some ⟨g20, 0, none⟩) n n] 54);
       have R26 := Lib.hid ((R24.out.kept hb).kept ((Kp.none w25).stored #[.int .i64 0, .int .i64 0, .slice none 0 0] #[.int .i64 (Wd 1 : Nat), .int .i64 (Hd 1 : Nat), .slice (some ⟨g20, 0, none⟩) n n] 54).1);
       have S26 := Lib.hid ((S24.out.kept hb).kept ((Kp.none w25).stored #[.int .i64 0, .int .i64 0, .slice none 0 0] #[.int .i64 (Wd 1 : Nat), .int .i64 (Hd 1 : Nat), .slice (some ⟨g20, 0, none⟩) n n] 54).1);
       have M26 := Lib.hid ((M24.out.kept hb).kept ((Kp.none w25).stored #[.int .i64 0, .int .i64 0, .slice none 0 0] #[.int .i64 (Wd 1 : Nat), .int .i64 (Hd 1 : Nat), .slice (some ⟨g20, 0, none⟩) n n] 54).1);
       have N26 := Lib.hid (hm.kept ((Kp.none w25).stored #[.int .i64 0, .int .i64 0, .slice none 0 0] #[.int .i64 (Wd 1 : Nat), .int .i64 (Hd 1 : Nat), .slice (some ⟨g20, 0, none⟩) n n] 54).1); clear hb hm)
    | (refine wpList_store_row rfl 54 (.tmp 20) (.tmp 121) rfl w25.heap.size rfl #[.int .i64 (Wd 1 : Nat), .int .i64 (Hd 1 : Nat), .slice (some ⟨g20, 0, none⟩) n n] rfl 54 #[.int .i64 0, .int .i64 0, .slice none 0 0] (K25.out.2 _ (.head _)) (by rfl) (by kernel_rfl) (by simp [Value.oneCell']) ?_))
  obtain ⟨W20, hW20⟩ : ∃ W20, (w25.alloc (.cells #[.int .i64 0, .int .i64 0, .slice none 0 0] 54)).setRow w25.heap.size #[.int .i64 (Wd 1 : Nat), .int .i64 (Hd 1 : Nat), .slice (some ⟨g20, 0, none⟩) n n] = W20 := ⟨_, rfl⟩
  obtain ⟨B20, hB20⟩ : ∃ B20, w25.heap.size = B20 := ⟨_, rfl⟩
  have k20 := K26.out
  have qR26 := R26.out
  have qS26 := S26.out
  have qM26 := M26.out
  have qN26 := N26.out
  rw [hW20] at k20 qR26 qS26 qM26 qN26 ⊢
  rw [hB20] at k20 ⊢
  have HK20 := Lib.hid k20
  have HR26 := Lib.hid qR26
  have HS26 := Lib.hid qS26
  have HM26 := Lib.hid qM26
  have HN26 := Lib.hid qN26
  clear hW20 hB20 k20 qR26 qS26 qM26 qN26
  clear y0 y1 y2 K22 R22 S22 M22 K23 R23 S23 M23 K24 R24 S24 M24 N24 K25 K26 R26 S26 M26 N26
  obtain ⟨x0, x1, x2⟩ := row_cells (HK20.out.2 _ (.tail _ (.tail _ (.head _))))
  go_upto_region 21 with (first
    | (go_at_call 97; with_reducible refine (told_any _ _ _ _ _ _).mono ?_; rintro e w27 ⟨rfl, hb⟩;
       have K27 := Lib.hid (HK20.out.call hb); have R27 := Lib.hid (HR26.out.kept hb); have S27 := Lib.hid (HS26.out.kept hb); have M27 := Lib.hid (HM26.out.kept hb); have N27 := Lib.hid (HN26.out.kept hb); clear hb)
    | (go_at_call 38; (refine Calls.mono (rm_own R27.out n) ?_); rintro e w28 ⟨g27, c27, rfl, hm, hb⟩;
       have K28 := Lib.hid (K27.out.call hb); have R28 := Lib.hid (R27.out.kept hb); have S28 := Lib.hid (S27.out.kept hb); have M28 := Lib.hid (M27.out.kept hb); have N28 := Lib.hid (N27.out.kept hb); have O28 := Lib.hid hm; clear hb hm)
    | (go_at_call 39; (refine Calls.mono (show Calls _ _ _ _ _ from by have k := rm_total O28.out c27; rw [HO.out.sum] at k; exact k) ?_); rintro e w29 ⟨rfl, hb⟩;
       have K29 := Lib.hid (K28.out.call hb); have R29 := Lib.hid (R28.out.kept hb); have S29 := Lib.hid (S28.out.kept hb); have M29 := Lib.hid (M28.out.kept hb); have N29 := Lib.hid (N28.out.kept hb); clear hb))
  clear x0 x1 x2 K27 R27 S27 M27 N27 K28 R28 S28 M28 N28 O28 HK20 HR26 HS26 HM26 HN26
  obtain ⟨a0, a1, a2⟩ := row_cells (K29.out.2 _ (.head _))
  obtain ⟨d0, d1, d2⟩ := row_cells (K29.out.2 _ (.tail _ (.head _)))
  have l20 : B20 < w29.heap.size := lt_of_blk (K29.out.2 _ (.head _))
  have l18 : B18 < w29.heap.size := lt_of_blk (K29.out.2 _ (.tail _ (.head _)))
  have hB : Blw w29.heap.size w29 w29 := show Below _ _ _ from Below.refl _ _
  have hB' : Blw w29.heap.size w29 w29.drew := show Below _ _ _ from (Below.refl w29.heap.size w29).drew
  have KT : Hid (∀ (w1 : World) (x y g' : Nat), Blw w29.heap.size w29 w1 → Calls Tryz.prog 97 #[.agg #[.int .i64 x, .int .i64 y, .slice (some ⟨g', 0, none⟩) n n]] w1 fun e w' => e = .returned (.agg #[.int .i64 x, .int .i64 y, .slice (some ⟨g', 0, none⟩) n n]) ∧ Blw w29.heap.size w29 w') := Lib.hid fun w1 x y g' h =>
    (told_any x y _ n n w1).mono fun e w' ⟨h1, h2⟩ => ⟨h1, Below.trans h (h2.mono (Below.size h))⟩
  have KE : Hid (∀ w1 : World, Blw w29.heap.size w29 w1 → Calls Tryz.prog 98 #[.agg #[.int .i64 (Wd 1), .int .i64 (Hd 1), .slice (some ⟨g20, 0, none⟩) n n], .agg #[.int .i64 (Wd 1), .int .i64 (Hd 1), .slice (some ⟨g18, 0, none⟩) n n]] w1 fun e w' => e = .returned (.bool true) ∧ Blw w29.heap.size w29 w') := Lib.hid fun w1 h =>
    (rm_same (N29.out.kept h) (M29.out.kept h) n n).mono fun e w' ⟨h1, h2⟩ => ⟨h1, Below.trans h (h2.mono (Below.size h))⟩
  go_cut [146] from 130 to 146 (fun s146 wc => s146 = .bool false ∧ Blw w29.heap.size w29 wc)
  case first =>
    go_region_held3 (fun w' => w'.cell? ⟨B20, 0, none⟩ = some (.int .i64 (Wd 1)) ∧ w'.cell? ⟨B20, 1, none⟩ = some (.int .i64 (Hd 1)) ∧ w'.cell? ⟨B20, 2, none⟩ = some (.slice (some ⟨g20, 0, none⟩) n n) ∧
        w'.cell? ⟨B18, 0, none⟩ = some (.int .i64 (Wd 1)) ∧ w'.cell? ⟨B18, 1, none⟩ = some (.int .i64 (Hd 1)) ∧ w'.cell? ⟨B18, 2, none⟩ = some (.slice (some ⟨g18, 0, none⟩) n n) ∧ Blw w29.heap.size w29 w')
      (first
        | (go_split_ands; refine ⟨?_, ?_, ?_, ?_, ?_, ?_, ?_⟩ <;> with_reducible assumption)
        | (go_split_ands; refine ⟨?_, ?_, ?_, ?_, ?_, ?_, ?_⟩ <;> first | (with_reducible assumption) | (rw [Below.cell (w := w29) (by assumption : Blw w29.heap.size w29 _) (by assumption)]; assumption))
        | (go_keep; done))
      (first
        | (go_at_call 97; with_reducible refine (KT.out _ _ _ _ (by assumption)).mono ?_; rintro e w30 ⟨rfl, hb30⟩)
        | (go_at_call 98; with_reducible refine (KE.out _ (by assumption)).mono ?_; rintro e w31 ⟨rfl, hb31⟩))
    all_goals
      go_wp2_with fail
      go_meet
      exact ⟨rfl, by assumption⟩
  case rest =>
    rename_i hK
    obtain ⟨rfl, hb31⟩ := hcut
    refine hK _ _ ?_
    clear hK
    have k31 := (K29.out.call hb31).sub (m := [(B16, .cells #[.int .i64 (Wd 1 : Nat), .int .i64 (Hd 1 : Nat), .slice (some ⟨g16, 0, none⟩) n n] 54 (0, 0)), (B8, (.cells #[.int .i64 W, .int .i64 H, .slice (some ⟨g5, 0, none⟩) n n] 54 (0, 0))), (w.heap.size, (.cells #[.int .i64 W, .int .i64 H, .slice (some ⟨b, o, none⟩) n c] 48 (0, 0)))]) (fun p hp => by
      rcases List.mem_cons.1 hp with rfl | hp
      · exact .tail _ (.tail _ (.head _))
      · exact .tail _ (.tail _ (.tail _ hp)))
    have K31 := Lib.hid k31
    have R31 := Lib.hid (R29.out.kept hb31)
    have S31 := Lib.hid (S29.out.kept hb31)
    clear k31 hb31 K29 R29 S29 M29 N29 KT KE hB hB' l18 l20 a0 a1 a2 d0 d1 d2
    go_wp2_with fail
    go_loopw [150] (fun iv wx => ∃ j ga : Nat, j ≤ 1 ∧ iv = .int .i64 j ∧ Kp w wx [(B16, .cells #[.int .i64 (Wd (j + 1) : Nat), .int .i64 (Hd (j + 1) : Nat), .slice (some ⟨ga, 0, none⟩) n n] 54 (0, 0)), (B8, (.cells #[.int .i64 W, .int .i64 H, .slice (some ⟨g5, 0, none⟩) n n] 54 (0, 0))), (w.heap.size, (.cells #[.int .i64 W, .int .i64 H, .slice (some ⟨b, o, none⟩) n c] 48 (0, 0)))] ∧ RM wx (Wd (j + 1)) (Hd (j + 1)) n (Ls (j + 1)) ga 0 ∧ RM wx W H n S g5 0) (fun iv _ => 1 - (intOf iv).toNat)
    case atStart => exact ⟨0, g16, Nat.zero_le _, rfl, K31.out, R31.out, S31.out⟩
    case round =>
      obtain ⟨j, ga, hj, rfl, hkp, hra, hrs⟩ := hrel
      have J0 := Lib.hid hkp
      have A0 := Lib.hid hra
      have S0 := Lib.hid hrs
      clear hkp hra hrs K31 R31 S31
      obtain ⟨x0, x1, x2⟩ := row_cells (J0.out.2 _ (.head _))
      by_cases hlt : j < 1
      · go_upto_region 28 with (first
          | (go_at_call 97; with_reducible refine (told_any (Wd (j + 1)) (Hd (j + 1)) _ _ _ _).mono ?_; rintro e w32 ⟨rfl, hb⟩;
             have J1 := Lib.hid (J0.out.call hb); have A1 := Lib.hid (A0.out.kept hb); have S1 := Lib.hid (S0.out.kept hb); clear hb)
          | (go_at_call 38; (refine Calls.mono (rm_own A1.out n) ?_); rintro e w33 ⟨g33, c33, rfl, hm, hb⟩;
             have J2 := Lib.hid (J1.out.call hb); have S2 := Lib.hid (S1.out.kept hb); have A2 := Lib.hid hm; clear hb hm)
          | (go_at_call 56; (refine Calls.mono (HO.out.next (j + 1) (by omega) (by omega) _ g33 c33 A2.out) ?_); rintro e w34 ⟨g34, rfl, hm, hb⟩;
             have J3 := Lib.hid ((J2.out.call hb).alloc (.cells #[.int .i64 0, .int .i64 0, .slice none 0 0] 54));
             have J4 := Lib.hid ((J2.out.call hb).stored #[.int .i64 0, .int .i64 0, .slice none 0 0] #[.int .i64 (Wd (j + 1 + 1) : Nat), .int .i64 (Hd (j + 1 + 1) : Nat), .slice (some ⟨g34, 0, none⟩) n n] 54);
             have A4 := Lib.hid (hm.kept ((Kp.none w34).stored #[.int .i64 0, .int .i64 0, .slice none 0 0] #[.int .i64 (Wd (j + 1 + 1) : Nat), .int .i64 (Hd (j + 1 + 1) : Nat), .slice (some ⟨g34, 0, none⟩) n n] 54).1);
             have S4 := Lib.hid ((S2.out.kept hb).kept ((Kp.none w34).stored #[.int .i64 0, .int .i64 0, .slice none 0 0] #[.int .i64 (Wd (j + 1 + 1) : Nat), .int .i64 (Hd (j + 1 + 1) : Nat), .slice (some ⟨g34, 0, none⟩) n n] 54).1);
             have hx4 := row_cells (J4.out.2 _ (.head _)); obtain ⟨y0, y1, y2⟩ := hx4; clear hb hm)
          | (refine wpList_store_row rfl 54 (.tmp 24) (.tmp 158) rfl w34.heap.size rfl #[.int .i64 (Wd (j + 1 + 1) : Nat), .int .i64 (Hd (j + 1 + 1) : Nat), .slice (some ⟨g34, 0, none⟩) n n] rfl 54 #[.int .i64 0, .int .i64 0, .slice none 0 0] (J3.out.2 _ (.head _)) (by rfl) (by kernel_rfl) (by simp [Value.oneCell']) ?_)
          | (go_at_call 97; with_reducible refine (told_any (Wd (j + 1 + 1)) (Hd (j + 1 + 1)) _ _ _ _).mono ?_; rintro e w35 ⟨rfl, hb⟩;
             have J5 := Lib.hid (J4.out.call hb); have A5 := Lib.hid (A4.out.kept hb); have S5 := Lib.hid (S4.out.kept hb); clear hb)
          | (go_at_call 41; (refine Calls.mono (rm_check A5.out n) ?_); rintro e w36 ⟨rfl, hb⟩;
             have J6 := Lib.hid (J5.out.call hb); have A6 := Lib.hid (A5.out.kept hb); have S6 := Lib.hid (S5.out.kept hb); clear hb;
             obtain ⟨v0, v1, v2⟩ := row_cells (J6.out.2 _ (.head _))))
        go_wp2_with (refine wpList_store_row rfl 54 (.tmp 16) (.tmp 168) rfl B16 rfl #[.int .i64 (Wd (j + 1 + 1) : Nat), .int .i64 (Hd (j + 1 + 1) : Nat), .slice (some ⟨g34, 0, none⟩) n n] rfl 54 #[.int .i64 (Wd (j + 1) : Nat), .int .i64 (Hd (j + 1) : Nat), .slice (some ⟨ga, 0, none⟩) n n] (J6.out.2 _ (.tail _ (.head _))) (by rfl) (by kernel_rfl) (by simp [Value.oneCell']) ?_)
        have hne := RM.ne A6.out (J6.out.2 _ (.tail _ (.head _)))
        have hne5 := RM.ne S6.out (J6.out.2 _ (.tail _ (.head _)))
        have ob := OnlyBlk.setRow w36 B16 #[.int .i64 (Wd (j + 1 + 1) : Nat), .int .i64 (Hd (j + 1 + 1) : Nat), .slice (some ⟨g34, 0, none⟩) n n]
        have fA := RM.other A6.out (ob.1.block _ A6.out.1 (fun e => hne (Option.some.inj e))) ob.1.size
        have fS := RM.other S6.out (ob.1.block _ S6.out.1 (fun e => hne5 (Option.some.inj e))) ob.1.size
        have fK := Kp.setHead (J6.out.sub (m := [(B16, .cells #[.int .i64 (Wd (j + 1) : Nat), .int .i64 (Hd (j + 1) : Nat), .slice (some ⟨ga, 0, none⟩) n n] 54 (0, 0)), (B8, (.cells #[.int .i64 W, .int .i64 H, .slice (some ⟨g5, 0, none⟩) n n] 54 (0, 0))), (w.heap.size, (.cells #[.int .i64 W, .int .i64 H, .slice (some ⟨b, o, none⟩) n c] 48 (0, 0)))]) (fun p hp => .tail _ hp)) #[.int .i64 (Wd (j + 1 + 1) : Nat), .int .i64 (Hd (j + 1 + 1) : Nat), .slice (some ⟨g34, 0, none⟩) n n] (Nat.le_of_lt l16b) (fun p hp => by
          rcases List.mem_cons.1 hp with rfl | hp
          · exact Nat.ne_of_lt l16a
          · rcases List.mem_cons.1 hp with rfl | hp
            · exact Nat.ne_of_lt l16b
            · nomatch hp)
        have FA := Lib.hid fA
        have FS := Lib.hid fS
        have FK := Lib.hid fK
        clear fA fS fK ob hne hne5 v0 v1 v2
        go_roundw
        case rel => exact ⟨j + 1, g34, by omega, by go_num, FK.out, FA.out, FS.out⟩
        case measure => simp [intOf]; omega
      · obtain rfl : j = 1 := by omega
        obtain ⟨e1, e2, e3⟩ := HO.out.back
        have ja := J0.out
        have aa := A0.out
        rw [e1, e2] at ja
        rw [e1, e2, e3] at aa
        have JA := Lib.hid ja
        have AA := Lib.hid aa
        clear x0 x1 x2 e1 e2 e3
        obtain ⟨x0, x1, x2⟩ := row_cells (ja.2 _ (.head _))
        obtain ⟨y0, y1, y2⟩ := row_cells (ja.2 _ (.tail _ (.tail _ (.head _))))
        have l16 : B16 < wr.heap.size := lt_of_blk (ja.2 _ (.head _))
        have lw : w.heap.size < wr.heap.size := lt_of_blk (ja.2 _ (.tail _ (.tail _ (.head _))))
        clear ja aa J0 A0
        have hB : Blw wr.heap.size wr wr := show Below _ _ _ from Below.refl _ _
        have hB' : Blw wr.heap.size wr wr.drew := show Below _ _ _ from (Below.refl wr.heap.size wr).drew
        have KT : Hid (∀ (w1 : World) (x y g' : Nat), Blw wr.heap.size wr w1 → Calls Tryz.prog 97 #[.agg #[.int .i64 x, .int .i64 y, .slice (some ⟨g', 0, none⟩) n n]] w1 fun e w' => e = .returned (.agg #[.int .i64 x, .int .i64 y, .slice (some ⟨g', 0, none⟩) n n]) ∧ Blw wr.heap.size wr w') := Lib.hid fun w1 x y g' h =>
          (told_any x y _ n n w1).mono fun e w' ⟨h1, h2⟩ => ⟨h1, Below.trans h (h2.mono (Below.size h))⟩
        have KE : Hid (∀ w1 : World, Blw wr.heap.size wr w1 → Calls Tryz.prog 98 #[.agg #[.int .i64 W, .int .i64 H, .slice (some ⟨ga, 0, none⟩) n n], .agg #[.int .i64 W, .int .i64 H, .slice (some ⟨b, o, none⟩) n c]] w1 fun e w' => e = .returned (.bool true) ∧ Blw wr.heap.size wr w') := Lib.hid fun w1 h =>
          (rm_same (AA.out.kept h) (HR.out.kept (JA.out.1.trans (Below.mono h JA.out.1.size))) n c).mono fun e w' ⟨h1, h2⟩ => ⟨h1, Below.trans h (h2.mono (Below.size h))⟩
        go_upto_region 30 with fail
        go_cut [174] from 170 to 174 (fun s174 wc => s174 = .bool false ∧ Blw wr.heap.size wr wc)
        case first =>
          go_region_held3 (fun w' => w'.cell? ⟨B16, 0, none⟩ = some (.int .i64 (W : Nat)) ∧ w'.cell? ⟨B16, 1, none⟩ = some (.int .i64 (H : Nat)) ∧ w'.cell? ⟨B16, 2, none⟩ = some (.slice (some ⟨ga, 0, none⟩) n n) ∧
              w'.cell? ⟨w.heap.size, 0, none⟩ = some (.int .i64 (W : Nat)) ∧ w'.cell? ⟨w.heap.size, 1, none⟩ = some (.int .i64 (H : Nat)) ∧ w'.cell? ⟨w.heap.size, 2, none⟩ = some (.slice (some ⟨b, o, none⟩) n c) ∧ Blw wr.heap.size wr w')
            (first
              | (go_split_ands; refine ⟨?_, ?_, ?_, ?_, ?_, ?_, ?_⟩ <;> with_reducible assumption)
              | (go_split_ands; refine ⟨?_, ?_, ?_, ?_, ?_, ?_, ?_⟩ <;> first | (with_reducible assumption) | (rw [Below.cell (w := wr) (by assumption : Blw wr.heap.size wr _) (by assumption)]; assumption))
              | (go_keep; done))
            (first
              | (go_at_call 97; with_reducible refine (KT.out _ _ _ _ (by assumption)).mono ?_; rintro e w40 ⟨rfl, hb40⟩)
              | (go_at_call 98; with_reducible refine (KE.out _ (by assumption)).mono ?_; rintro e w41 ⟨rfl, hb41⟩))
          all_goals
            go_wp2_with fail
            go_meet
            exact ⟨rfl, by assumption⟩
        case rest =>
          rename_i hK
          obtain ⟨rfl, hb41⟩ := hcut
          refine hK _ _ ?_
          clear hK
          have kz := (JA.out.call hb41).sub (m := [(B8, (.cells #[.int .i64 W, .int .i64 H, .slice (some ⟨g5, 0, none⟩) n n] 54 (0, 0))), (w.heap.size, (.cells #[.int .i64 W, .int .i64 H, .slice (some ⟨b, o, none⟩) n c] 48 (0, 0)))]) (fun p hp => .tail _ hp)
          have KZ := Lib.hid kz
          have SZ := Lib.hid (S0.out.kept hb41)
          clear kz hb41 KT KE hB hB' x0 x1 x2 y0 y1 y2
          go_wp2_with fail
          exact HQ.out _ _ _ _ _ _ _ _ _ _ _ _ _ _ _ _ _ _ _ _ _ _ _ _ _ _ _ _ _ _ _ _ _ _ _ _ _ _ _ _ _ _ _ _ _ _ _ _ _ _ _ _ _ _ _ _ _ _ _ _ _ _ _ _ _ _ _ _ _ _ _ _ _ _ _ _ _ _ _ _ _ _ _ _ _ _ _ _ _ _ _ _ _ _ _ _ _ _ _ _ _ _ _ KZ.out SZ.out

end Go.Proofs.YtfdkmmllemkogaaGreatDoor

/-
  The walk of LightKept: the round of its loop, for turns.
-/
namespace Go.Proofs.YtfdkmmllemkogaaGreatDoor
open Go.RowKit Go.Shelf
set_option linter.unusedVariables false
set_option linter.unusedSimpArgs false

set_option maxRecDepth 1000000 in
set_option maxHeartbeats 25600000 in
theorem keptTurn (w : World) (W H b o n c : Nat) (ks S LB : List Int) (hR : RM w W H n ks b o) (nv s tt : Int) (Wd Hd : Nat → Nat) (Ls : Nat → List Int) (hO : OfK 57 3 W H n ks S LB s tt Wd Hd Ls) (k : Nat) (hk : k = 1) (B8 g5 : Nat) (wr : World)
    (hKp : Kp w wr [(B8, (.cells #[.int .i64 W, .int .i64 H, .slice (some ⟨g5, 0, none⟩) n n] 54 (0, 0))), (w.heap.size, (.cells #[.int .i64 W, .int .i64 H, .slice (some ⟨b, o, none⟩) n c] 48 (0, 0)))]) (hRS : RM wr W H n S g5 0) (Q : Exit → Act → World → Prop) (u3 u4 u7 u9 u10 u11 u12 u13 u16 u17 u18 u19 u20 u21 u22 u23 u24 u25 u26 u27 u28 u29 u30 u31 u32 u33 u34 u35 u36 u37 u38 u39 u40 u41 u42 u43 u44 u45 u46 u47 u48 u49 u50 u51 u52 u53 u54 u55 u56 u57 u58 u59 u60 u61 u62 u63 u64 u65 u66 u67 u68 u69 u70 u71 u72 u73 u74 u75 u76 u77 u78 u79 u80 u81 u82 u83 u84 u87 u88 u89 u90 u91 u92 u93 u94 u95 u96 u97 u98 u99 u100 u101 u102 u103 u104 u105 u106 u107 u108 u109 u110 u111 u112 u113 u114 u115 u116 u117 u118 u119 u120 u121 u122 u123 u124 u125 u126 u127 u128 u129 u130 u131 u132 u133 u134 u135 u136 u137 u138 u139 u140 u141 u142 u143 u144 u145 u146 u147 u148 u149 u150 u151 u152 u153 u154 u155 u156 u157 u158 u159 u160 u161 u162 u163 u164 u165 u166 u167 u168 u169 u170 u171 u172 u173 u174 u175 u176 : Value)
    (hQ : ∀ (w' : World) (v4 v14 v15 v16 v17 v18 v19 v20 v21 v22 v23 v24 v25 v87 v88 v89 v90 v91 v92 v93 v94 v95 v96 v97 v98 v99 v100 v101 v102 v103 v104 v105 v106 v107 v108 v109 v110 v111 v112 v113 v114 v115 v116 v117 v118 v119 v120 v121 v122 v123 v124 v125 v126 v127 v128 v129 v130 v131 v132 v133 v134 v135 v136 v137 v138 v139 v140 v141 v142 v143 v144 v145 v146 v147 v148 v149 v150 v151 v152 v153 v154 v155 v156 v157 v158 v159 v160 v161 v162 v163 v164 v165 v166 v167 v168 v169 v170 v171 v172 v173 v174 v175 : Value), Kp w w' [(B8, (.cells #[.int .i64 W, .int .i64 H, .slice (some ⟨g5, 0, none⟩) n n] 54 (0, 0))), (w.heap.size, (.cells #[.int .i64 W, .int .i64 H, .slice (some ⟨b, o, none⟩) n c] 48 (0, 0)))] → RM w' W H n S g5 0 → Q .normal ⟨#[.agg #[.int .i64 (W : Nat), .int .i64 (H : Nat), .slice (some ⟨b, o, none⟩) n c], .int .u8 nv, .pointer (some ⟨w.heap.size, 0, none⟩), u3, v4, .int .i64 s, .int .i64 tt, u7, .pointer (some ⟨B8, 0, none⟩), u9, u10, u11, u12, u13, v14, v15, v16, v17, v18, v19, v20, v21, v22, v23, v24, v25, u26, u27, u28, u29, u30, u31, u32, u33, u34, u35, u36, u37, u38, u39, u40, u41, u42, u43, u44, u45, u46, u47, u48, u49, u50, u51, u52, u53, u54, u55, u56, u57, u58, u59, u60, u61, u62, u63, u64, u65, u66, u67, u68, u69, u70, u71, u72, u73, u74, u75, u76, u77, u78, u79, u80, u81, u82, u83, u84, (.agg #[.func (.func 56) #[] #[], .func (.func 57) #[] #[]]), .int .i64 (k : Nat), v87, v88, v89, v90, v91, v92, v93, v94, v95, v96, v97, v98, v99, v100, v101, v102, v103, v104, v105, v106, v107, v108, v109, v110, v111, v112, v113, v114, v115, v116, v117, v118, v119, v120, v121, v122, v123, v124, v125, v126, v127, v128, v129, v130, v131, v132, v133, v134, v135, v136, v137, v138, v139, v140, v141, v142, v143, v144, v145, v146, v147, v148, v149, v150, v151, v152, v153, v154, v155, v156, v157, v158, v159, v160, v161, v162, v163, v164, v165, v166, v167, v168, v169, v170, v171, v172, v173, v174, v175, u176], []⟩ w') :
    Code.wp Tryz.prog (keptOf 15) Q ⟨#[.agg #[.int .i64 (W : Nat), .int .i64 (H : Nat), .slice (some ⟨b, o, none⟩) n c], .int .u8 nv, .pointer (some ⟨w.heap.size, 0, none⟩), u3, u4, .int .i64 s, .int .i64 tt, u7, .pointer (some ⟨B8, 0, none⟩), u9, u10, u11, u12, u13, .int .i64 (k : Nat), .func (.func 57) #[] #[], u16, u17, u18, u19, u20, u21, u22, u23, u24, u25, u26, u27, u28, u29, u30, u31, u32, u33, u34, u35, u36, u37, u38, u39, u40, u41, u42, u43, u44, u45, u46, u47, u48, u49, u50, u51, u52, u53, u54, u55, u56, u57, u58, u59, u60, u61, u62, u63, u64, u65, u66, u67, u68, u69, u70, u71, u72, u73, u74, u75, u76, u77, u78, u79, u80, u81, u82, u83, u84, (.agg #[.func (.func 56) #[] #[], .func (.func 57) #[] #[]]), .int .i64 (k : Nat), u87, u88, u89, u90, u91, u92, u93, u94, u95, u96, u97, u98, u99, u100, u101, u102, u103, u104, u105, u106, u107, u108, u109, u110, u111, u112, u113, u114, u115, u116, u117, u118, u119, u120, u121, u122, u123, u124, u125, u126, u127, u128, u129, u130, u131, u132, u133, u134, u135, u136, u137, u138, u139, u140, u141, u142, u143, u144, u145, u146, u147, u148, u149, u150, u151, u152, u153, u154, u155, u156, u157, u158, u159, u160, u161, u162, u163, u164, u165, u166, u167, u168, u169, u170, u171, u172, u173, u174, u175, u176], []⟩ wr := by
  conv => arg 2; whnf
  dsimp only
  have KO : Hid (∀ w1 : World, Below w.heap.size w w1 → Calls Tryz.prog 38 #[.agg #[.int .i64 W, .int .i64 H, .slice (some ⟨b, o, none⟩) n c]] w1 fun e w' =>
      ∃ g c', e = .returned (.agg #[.int .i64 W, .int .i64 H, .slice (some ⟨g, 0, none⟩) n c']) ∧ RM w' W H n ks g 0 ∧ Below w1.heap.size w1 w') := Lib.hid fun w1 h => rm_own (hR.kept h) c
  have HO := Lib.hid hO
  have HR := Lib.hid hR
  have HQ := Lib.hid hQ
  have HK := Lib.hid hKp
  have HS := Lib.hid hRS
  have hidx : ∀ w1 : World, (Instr.index 152 (.agg #[.int .i64 1, .int .i64 3]) (.int .i64 (k : Int))).run Tryz.prog w1 = .ok (.int .i64 3) w1 := fun w1 => by subst hk; kernel_rfl
  have HKK := Lib.hid hk
  have eTT : (tt != tt) = false := by simp
  clear hO hR hQ hKp hRS hk
  obtain ⟨x0, x1, x2⟩ := row_cells (HK.out.2 _ (.tail _ (.head _)))
  go_upto_region 16 with (first
    | (go_at_call 38; with_reducible refine (KO.out _ (Kp.below HK.out)).mono ?_; rintro e w14 ⟨g14, c14, rfl, hm, hb⟩;
       have K14 := Lib.hid (HK.out.call hb); have R14 := Lib.hid hm; have S14 := Lib.hid (HS.out.kept hb); clear hb hm)
    | (go_at_call 57; (refine Calls.mono (HO.out.first _ g14 c14 R14.out) ?_); rintro e w15 ⟨g16, rfl, hm, hb⟩;
       have L15 := Lib.hid (K14.out.call hb); have K15 := Lib.hid ((K14.out.call hb).alloc (.cells #[.int .i64 0, .int .i64 0, .slice none 0 0] 54));
       have K16 := Lib.hid ((K14.out.call hb).stored #[.int .i64 0, .int .i64 0, .slice none 0 0] #[.int .i64 (Wd 1 : Nat), .int .i64 (Hd 1 : Nat), .slice (some ⟨g16, 0, none⟩) n n] 54);
       have R16 := Lib.hid (hm.kept ((Kp.none w15).stored #[.int .i64 0, .int .i64 0, .slice none 0 0] #[.int .i64 (Wd 1 : Nat), .int .i64 (Hd 1 : Nat), .slice (some ⟨g16, 0, none⟩) n n] 54).1);
       have S16 := Lib.hid ((S14.out.kept hb).kept ((Kp.none w15).stored #[.int .i64 0, .int .i64 0, .slice none 0 0] #[.int .i64 (Wd 1 : Nat), .int .i64 (Hd 1 : Nat), .slice (some ⟨g16, 0, none⟩) n n] 54).1); clear hb hm)
    | (refine wpList_store_row rfl 54 (.tmp 16) (.tmp 95) rfl w15.heap.size rfl #[.int .i64 (Wd 1 : Nat), .int .i64 (Hd 1 : Nat), .slice (some ⟨g16, 0, none⟩) n n] rfl 54 #[.int .i64 0, .int .i64 0, .slice none 0 0] (K15.out.2 _ (.head _)) (by rfl) (by kernel_rfl) (by simp [Value.oneCell']) ?_))
  obtain ⟨W16, hW16⟩ : ∃ W16, (w15.alloc (.cells #[.int .i64 0, .int .i64 0, .slice none 0 0] 54)).setRow w15.heap.size #[.int .i64 (Wd 1 : Nat), .int .i64 (Hd 1 : Nat), .slice (some ⟨g16, 0, none⟩) n n] = W16 := ⟨_, rfl⟩
  obtain ⟨B16, hB16⟩ : ∃ B16, w15.heap.size = B16 := ⟨_, rfl⟩
  have k16 := K16.out
  have qR16 := R16.out
  have qS16 := S16.out
  rw [hW16] at k16 qR16 qS16 ⊢
  rw [hB16] at k16 ⊢
  have HK16 := Lib.hid k16
  have HR16 := Lib.hid qR16
  have HS16 := Lib.hid qS16
  have l16a : B8 < B16 := by rw [← hB16]; exact lt_of_blk (L15.out.2 _ (.head _))
  have l16b : w.heap.size < B16 := by rw [← hB16]; exact lt_of_blk (L15.out.2 _ (.tail _ (.head _)))
  clear L15 hW16 hB16 k16 qR16 qS16
  clear x0 x1 x2 K14 R14 S14 K15 K16 R16 S16 HK HS
  obtain ⟨x0, x1, x2⟩ := row_cells (HK16.out.2 _ (.tail _ (.head _)))
  go_upto_region 17 with (first
    | (go_at_call 97; with_reducible refine (told_any _ _ _ _ _ _).mono ?_; rintro e w17 ⟨rfl, hb⟩;
       have K17 := Lib.hid (HK16.out.call hb); have R17 := Lib.hid (HR16.out.kept hb); have S17 := Lib.hid (HS16.out.kept hb); clear hb)
    | (go_at_call 38; (refine Calls.mono (rm_own S17.out n) ?_); rintro e w18 ⟨g17, c17, rfl, hm, hb⟩;
       have K18 := Lib.hid (K17.out.call hb); have R18 := Lib.hid (R17.out.kept hb); have S18 := Lib.hid (S17.out.kept hb); have M18 := Lib.hid hm; clear hb hm)
    | (go_at_call 57; (refine Calls.mono (HO.out.sp _ g17 c17 M18.out) ?_); rintro e w19 ⟨g18, rfl, hm, hb⟩;
       have K19 := Lib.hid ((K18.out.call hb).alloc (.cells #[.int .i64 0, .int .i64 0, .slice none 0 0] 54));
       have K20 := Lib.hid ((K18.out.call hb).stored #[.int .i64 0, .int .i64 0, .slice none 0 0] #[.int .i64 (Wd 1 : Nat), .int .i64 (Hd 1 : Nat), .slice (some ⟨g18, 0, none⟩) n n] 54);
       have R20 := Lib.hid ((R18.out.kept hb).kept ((Kp.none w19).stored #[.int .i64 0, .int .i64 0, .slice none 0 0] #[.int .i64 (Wd 1 : Nat), .int .i64 (Hd 1 : Nat), .slice (some ⟨g18, 0, none⟩) n n] 54).1);
       have S20 := Lib.hid ((S18.out.kept hb).kept ((Kp.none w19).stored #[.int .i64 0, .int .i64 0, .slice none 0 0] #[.int .i64 (Wd 1 : Nat), .int .i64 (Hd 1 : Nat), .slice (some ⟨g18, 0, none⟩) n n] 54).1);
       have M20 := Lib.hid (hm.kept ((Kp.none w19).stored #[.int .i64 0, .int .i64 0, .slice none 0 0] #[.int .i64 (Wd 1 : Nat), .int .i64 (Hd 1 : Nat), .slice (some ⟨g18, 0, none⟩) n n] 54).1); clear hb hm)
    | (refine wpList_store_row rfl 54 (.tmp 18) (.tmp 103) rfl w19.heap.size rfl #[.int .i64 (Wd 1 : Nat), .int .i64 (Hd 1 : Nat), .slice (some ⟨g18, 0, none⟩) n n] rfl 54 #[.int .i64 0, .int .i64 0, .slice none 0 0] (K19.out.2 _ (.head _)) (by rfl) (by kernel_rfl) (by simp [Value.oneCell']) ?_))
  obtain ⟨W18, hW18⟩ : ∃ W18, (w19.alloc (.cells #[.int .i64 0, .int .i64 0, .slice none 0 0] 54)).setRow w19.heap.size #[.int .i64 (Wd 1 : Nat), .int .i64 (Hd 1 : Nat), .slice (some ⟨g18, 0, none⟩) n n] = W18 := ⟨_, rfl⟩
  obtain ⟨B18, hB18⟩ : ∃ B18, w19.heap.size = B18 := ⟨_, rfl⟩
  have k18 := K20.out
  have qR20 := R20.out
  have qS20 := S20.out
  have qM20 := M20.out
  rw [hW18] at k18 qR20 qS20 qM20 ⊢
  rw [hB18] at k18 ⊢
  have HK18 := Lib.hid k18
  have HR20 := Lib.hid qR20
  have HS20 := Lib.hid qS20
  have HM20 := Lib.hid qM20
  clear hW18 hB18 k18 qR20 qS20 qM20
  clear x0 x1 x2 K17 R17 S17 K18 R18 S18 M18 K19 K20 R20 S20 M20 HK16 HR16 HS16
  obtain ⟨x0, x1, x2⟩ := row_cells (HK18.out.2 _ (.tail _ (.head _)))
  go_upto_region 19 with (first
    | (go_at_call 97; with_reducible refine (told_any _ _ _ _ _ _).mono ?_; rintro e w21 ⟨rfl, hb⟩;
       have K21 := Lib.hid (HK18.out.call hb); have R21 := Lib.hid (HR20.out.kept hb); have S21 := Lib.hid (HS20.out.kept hb); have M21 := Lib.hid (HM20.out.kept hb); clear hb)
    | (go_at_call 41; (refine Calls.mono (rm_check R21.out n) ?_); rintro e w22 ⟨rfl, hb⟩;
       have K22 := Lib.hid (K21.out.call hb); have R22 := Lib.hid (R21.out.kept hb); have S22 := Lib.hid (S21.out.kept hb); have M22 := Lib.hid (M21.out.kept hb); clear hb;
       obtain ⟨y0, y1, y2⟩ := row_cells (K22.out.2 _ (.tail _ (.head _)))))
  clear x0 x1 x2 K21 R21 S21 M21 HK18 HR20 HS20 HM20
  go_upto_region 20 with (first
    | (go_at_call 97; with_reducible refine (told_any _ _ _ _ _ _).mono ?_; rintro e w23 ⟨rfl, hb⟩;
       have K23 := Lib.hid (K22.out.call hb); have R23 := Lib.hid (R22.out.kept hb); have S23 := Lib.hid (S22.out.kept hb); have M23 := Lib.hid (M22.out.kept hb); clear hb)
    | (go_at_call 38; (refine Calls.mono (rm_own R23.out n) ?_); rintro e w24 ⟨g23, c23, rfl, hm, hb⟩;
       have K24 := Lib.hid (K23.out.call hb); have R24 := Lib.hid (R23.out.kept hb); have S24 := Lib.hid (S23.out.kept hb); have M24 := Lib.hid (M23.out.kept hb); have N24 := Lib.hid hm; clear hb hm)
    | (go_at_call 63; (refine Calls.mono (HO.out.spread _ g23 c23 N24.out) ?_); rintro e w25 ⟨g20, rfl, hm, hb⟩;
       have K25 := Lib.hid ((K24.out.call hb).alloc (.cells #[.int .i64 0, .int .i64 0, .slice none 0 0] 54));
       have K26 := Lib.hid ((K24.out.call hb).stored #[.int .i64 0, .int .i64 0, .slice none 0 0] #[.int .i64 (Wd 1 : Nat), .int .i64 (Hd 1 : Nat), .slice (some ⟨g20, 0, none⟩) n n] 54);
       have R26 := Lib.hid ((R24.out.kept hb).kept ((Kp.none w25).stored #[.int .i64 0, .int .i64 0, .slice none 0 0] #[.int .i64 (Wd 1 : Nat), .int .i64 (Hd 1 : Nat), .slice (some ⟨g20, 0, none⟩) n n] 54).1);
       have S26 := Lib.hid ((S24.out.kept hb).kept ((Kp.none w25).stored #[.int .i64 0, .int .i64 0, .slice none 0 0] #[.int .i64 (Wd 1 : Nat), .int .i64 (Hd 1 : Nat), .slice (some ⟨g20, 0, none⟩) n n] 54).1);
       have M26 := Lib.hid ((M24.out.kept hb).kept ((Kp.none w25).stored #[.int .i64 0, .int .i64 0, .slice none 0 0] #[.int .i64 (Wd 1 : Nat), .int .i64 (Hd 1 : Nat), .slice (some ⟨g20, 0, none⟩) n n] 54).1);
       have N26 := Lib.hid (hm.kept ((Kp.none w25).stored #[.int .i64 0, .int .i64 0, .slice none 0 0] #[.int .i64 (Wd 1 : Nat), .int .i64 (Hd 1 : Nat), .slice (some ⟨g20, 0, none⟩) n n] 54).1); clear hb hm)
    | (refine wpList_store_row rfl 54 (.tmp 20) (.tmp 121) rfl w25.heap.size rfl #[.int .i64 (Wd 1 : Nat), .int .i64 (Hd 1 : Nat), .slice (some ⟨g20, 0, none⟩) n n] rfl 54 #[.int .i64 0, .int .i64 0, .slice none 0 0] (K25.out.2 _ (.head _)) (by rfl) (by kernel_rfl) (by simp [Value.oneCell']) ?_))
  obtain ⟨W20, hW20⟩ : ∃ W20, (w25.alloc (.cells #[.int .i64 0, .int .i64 0, .slice none 0 0] 54)).setRow w25.heap.size #[.int .i64 (Wd 1 : Nat), .int .i64 (Hd 1 : Nat), .slice (some ⟨g20, 0, none⟩) n n] = W20 := ⟨_, rfl⟩
  obtain ⟨B20, hB20⟩ : ∃ B20, w25.heap.size = B20 := ⟨_, rfl⟩
  have k20 := K26.out
  have qR26 := R26.out
  have qS26 := S26.out
  have qM26 := M26.out
  have qN26 := N26.out
  rw [hW20] at k20 qR26 qS26 qM26 qN26 ⊢
  rw [hB20] at k20 ⊢
  have HK20 := Lib.hid k20
  have HR26 := Lib.hid qR26
  have HS26 := Lib.hid qS26
  have HM26 := Lib.hid qM26
  have HN26 := Lib.hid qN26
  clear hW20 hB20 k20 qR26 qS26 qM26 qN26
  clear y0 y1 y2 K22 R22 S22 M22 K23 R23 S23 M23 K24 R24 S24 M24 N24 K25 K26 R26 S26 M26 N26
  obtain ⟨x0, x1, x2⟩ := row_cells (HK20.out.2 _ (.tail _ (.tail _ (.head _))))
  go_upto_region 21 with (first
    | (go_at_call 97; with_reducible refine (told_any _ _ _ _ _ _).mono ?_; rintro e w27 ⟨rfl, hb⟩;
       have K27 := Lib.hid (HK20.out.call hb); have R27 := Lib.hid (HR26.out.kept hb); have S27 := Lib.hid (HS26.out.kept hb); have M27 := Lib.hid (HM26.out.kept hb); have N27 := Lib.hid (HN26.out.kept hb); clear hb)
    | (go_at_call 38; (refine Calls.mono (rm_own R27.out n) ?_); rintro e w28 ⟨g27, c27, rfl, hm, hb⟩;
       have K28 := Lib.hid (K27.out.call hb); have R28 := Lib.hid (R27.out.kept hb); have S28 := Lib.hid (S27.out.kept hb); have M28 := Lib.hid (M27.out.kept hb); have N28 := Lib.hid (N27.out.kept hb); have O28 := Lib.hid hm; clear hb hm)
    | (go_at_call 39; (refine Calls.mono (show Calls _ _ _ _ _ from by have k := rm_total O28.out c27; rw [HO.out.sum] at k; exact k) ?_); rintro e w29 ⟨rfl, hb⟩;
       have K29 := Lib.hid (K28.out.call hb); have R29 := Lib.hid (R28.out.kept hb); have S29 := Lib.hid (S28.out.kept hb); have M29 := Lib.hid (M28.out.kept hb); have N29 := Lib.hid (N28.out.kept hb); clear hb))
  clear x0 x1 x2 K27 R27 S27 M27 N27 K28 R28 S28 M28 N28 O28 HK20 HR26 HS26 HM26 HN26
  obtain ⟨a0, a1, a2⟩ := row_cells (K29.out.2 _ (.head _))
  obtain ⟨d0, d1, d2⟩ := row_cells (K29.out.2 _ (.tail _ (.head _)))
  have l20 : B20 < w29.heap.size := lt_of_blk (K29.out.2 _ (.head _))
  have l18 : B18 < w29.heap.size := lt_of_blk (K29.out.2 _ (.tail _ (.head _)))
  have hB : Blw w29.heap.size w29 w29 := show Below _ _ _ from Below.refl _ _
  have hB' : Blw w29.heap.size w29 w29.drew := show Below _ _ _ from (Below.refl w29.heap.size w29).drew
  have KT : Hid (∀ (w1 : World) (x y g' : Nat), Blw w29.heap.size w29 w1 → Calls Tryz.prog 97 #[.agg #[.int .i64 x, .int .i64 y, .slice (some ⟨g', 0, none⟩) n n]] w1 fun e w' => e = .returned (.agg #[.int .i64 x, .int .i64 y, .slice (some ⟨g', 0, none⟩) n n]) ∧ Blw w29.heap.size w29 w') := Lib.hid fun w1 x y g' h =>
    (told_any x y _ n n w1).mono fun e w' ⟨h1, h2⟩ => ⟨h1, Below.trans h (h2.mono (Below.size h))⟩
  have KE : Hid (∀ w1 : World, Blw w29.heap.size w29 w1 → Calls Tryz.prog 98 #[.agg #[.int .i64 (Wd 1), .int .i64 (Hd 1), .slice (some ⟨g20, 0, none⟩) n n], .agg #[.int .i64 (Wd 1), .int .i64 (Hd 1), .slice (some ⟨g18, 0, none⟩) n n]] w1 fun e w' => e = .returned (.bool true) ∧ Blw w29.heap.size w29 w') := Lib.hid fun w1 h =>
    (rm_same (N29.out.kept h) (M29.out.kept h) n n).mono fun e w' ⟨h1, h2⟩ => ⟨h1, Below.trans h (h2.mono (Below.size h))⟩
  go_cut [146] from 130 to 146 (fun s146 wc => s146 = .bool false ∧ Blw w29.heap.size w29 wc)
  case first =>
    go_region_held3 (fun w' => w'.cell? ⟨B20, 0, none⟩ = some (.int .i64 (Wd 1)) ∧ w'.cell? ⟨B20, 1, none⟩ = some (.int .i64 (Hd 1)) ∧ w'.cell? ⟨B20, 2, none⟩ = some (.slice (some ⟨g20, 0, none⟩) n n) ∧
        w'.cell? ⟨B18, 0, none⟩ = some (.int .i64 (Wd 1)) ∧ w'.cell? ⟨B18, 1, none⟩ = some (.int .i64 (Hd 1)) ∧ w'.cell? ⟨B18, 2, none⟩ = some (.slice (some ⟨g18, 0, none⟩) n n) ∧ Blw w29.heap.size w29 w')
      (first
        | (go_split_ands; refine ⟨?_, ?_, ?_, ?_, ?_, ?_, ?_⟩ <;> with_reducible assumption)
        | (go_split_ands; refine ⟨?_, ?_, ?_, ?_, ?_, ?_, ?_⟩ <;> first | (with_reducible assumption) | (rw [Below.cell (w := w29) (by assumption : Blw w29.heap.size w29 _) (by assumption)]; assumption))
        | (go_keep; done))
      (first
        | (go_at_call 97; with_reducible refine (KT.out _ _ _ _ (by assumption)).mono ?_; rintro e w30 ⟨rfl, hb30⟩)
        | (go_at_call 98; with_reducible refine (KE.out _ (by assumption)).mono ?_; rintro e w31 ⟨rfl, hb31⟩))
    all_goals
      go_wp2_with fail
      go_meet
      exact ⟨rfl, by assumption⟩
  case rest =>
    rename_i hK
    obtain ⟨rfl, hb31⟩ := hcut
    refine hK _ _ ?_
    clear hK
    have k31 := (K29.out.call hb31).sub (m := [(B16, .cells #[.int .i64 (Wd 1 : Nat), .int .i64 (Hd 1 : Nat), .slice (some ⟨g16, 0, none⟩) n n] 54 (0, 0)), (B8, (.cells #[.int .i64 W, .int .i64 H, .slice (some ⟨g5, 0, none⟩) n n] 54 (0, 0))), (w.heap.size, (.cells #[.int .i64 W, .int .i64 H, .slice (some ⟨b, o, none⟩) n c] 48 (0, 0)))]) (fun p hp => by
      rcases List.mem_cons.1 hp with rfl | hp
      · exact .tail _ (.tail _ (.head _))
      · exact .tail _ (.tail _ (.tail _ hp)))
    have K31 := Lib.hid k31
    have R31 := Lib.hid (R29.out.kept hb31)
    have S31 := Lib.hid (S29.out.kept hb31)
    clear k31 hb31 K29 R29 S29 M29 N29 KT KE hB hB' l18 l20 a0 a1 a2 d0 d1 d2
    go_wp2_with fail
    go_loopw [150] (fun iv wx => ∃ j ga : Nat, j ≤ 3 ∧ iv = .int .i64 j ∧ Kp w wx [(B16, .cells #[.int .i64 (Wd (j + 1) : Nat), .int .i64 (Hd (j + 1) : Nat), .slice (some ⟨ga, 0, none⟩) n n] 54 (0, 0)), (B8, (.cells #[.int .i64 W, .int .i64 H, .slice (some ⟨g5, 0, none⟩) n n] 54 (0, 0))), (w.heap.size, (.cells #[.int .i64 W, .int .i64 H, .slice (some ⟨b, o, none⟩) n c] 48 (0, 0)))] ∧ RM wx (Wd (j + 1)) (Hd (j + 1)) n (Ls (j + 1)) ga 0 ∧ RM wx W H n S g5 0) (fun iv _ => 3 - (intOf iv).toNat)
    case atStart => exact ⟨0, g16, Nat.zero_le _, rfl, K31.out, R31.out, S31.out⟩
    case round =>
      obtain ⟨j, ga, hj, rfl, hkp, hra, hrs⟩ := hrel
      have J0 := Lib.hid hkp
      have A0 := Lib.hid hra
      have S0 := Lib.hid hrs
      clear hkp hra hrs K31 R31 S31
      obtain ⟨x0, x1, x2⟩ := row_cells (J0.out.2 _ (.head _))
      by_cases hlt : j < 3
      · go_upto_region 28 with (first
          | (go_at_call 97; with_reducible refine (told_any (Wd (j + 1)) (Hd (j + 1)) _ _ _ _).mono ?_; rintro e w32 ⟨rfl, hb⟩;
             have J1 := Lib.hid (J0.out.call hb); have A1 := Lib.hid (A0.out.kept hb); have S1 := Lib.hid (S0.out.kept hb); clear hb)
          | (go_at_call 38; (refine Calls.mono (rm_own A1.out n) ?_); rintro e w33 ⟨g33, c33, rfl, hm, hb⟩;
             have J2 := Lib.hid (J1.out.call hb); have S2 := Lib.hid (S1.out.kept hb); have A2 := Lib.hid hm; clear hb hm)
          | (go_at_call 57; (refine Calls.mono (HO.out.next (j + 1) (by omega) (by omega) _ g33 c33 A2.out) ?_); rintro e w34 ⟨g34, rfl, hm, hb⟩;
             have J3 := Lib.hid ((J2.out.call hb).alloc (.cells #[.int .i64 0, .int .i64 0, .slice none 0 0] 54));
             have J4 := Lib.hid ((J2.out.call hb).stored #[.int .i64 0, .int .i64 0, .slice none 0 0] #[.int .i64 (Wd (j + 1 + 1) : Nat), .int .i64 (Hd (j + 1 + 1) : Nat), .slice (some ⟨g34, 0, none⟩) n n] 54);
             have A4 := Lib.hid (hm.kept ((Kp.none w34).stored #[.int .i64 0, .int .i64 0, .slice none 0 0] #[.int .i64 (Wd (j + 1 + 1) : Nat), .int .i64 (Hd (j + 1 + 1) : Nat), .slice (some ⟨g34, 0, none⟩) n n] 54).1);
             have S4 := Lib.hid ((S2.out.kept hb).kept ((Kp.none w34).stored #[.int .i64 0, .int .i64 0, .slice none 0 0] #[.int .i64 (Wd (j + 1 + 1) : Nat), .int .i64 (Hd (j + 1 + 1) : Nat), .slice (some ⟨g34, 0, none⟩) n n] 54).1);
             have hx4 := row_cells (J4.out.2 _ (.head _)); obtain ⟨y0, y1, y2⟩ := hx4; clear hb hm)
          | (refine wpList_store_row rfl 54 (.tmp 24) (.tmp 158) rfl w34.heap.size rfl #[.int .i64 (Wd (j + 1 + 1) : Nat), .int .i64 (Hd (j + 1 + 1) : Nat), .slice (some ⟨g34, 0, none⟩) n n] rfl 54 #[.int .i64 0, .int .i64 0, .slice none 0 0] (J3.out.2 _ (.head _)) (by rfl) (by kernel_rfl) (by simp [Value.oneCell']) ?_)
          | (go_at_call 97; with_reducible refine (told_any (Wd (j + 1 + 1)) (Hd (j + 1 + 1)) _ _ _ _).mono ?_; rintro e w35 ⟨rfl, hb⟩;
             have J5 := Lib.hid (J4.out.call hb); have A5 := Lib.hid (A4.out.kept hb); have S5 := Lib.hid (S4.out.kept hb); clear hb)
          | (go_at_call 41; (refine Calls.mono (rm_check A5.out n) ?_); rintro e w36 ⟨rfl, hb⟩;
             have J6 := Lib.hid (J5.out.call hb); have A6 := Lib.hid (A5.out.kept hb); have S6 := Lib.hid (S5.out.kept hb); clear hb;
             obtain ⟨v0, v1, v2⟩ := row_cells (J6.out.2 _ (.head _))))
        go_wp2_with (refine wpList_store_row rfl 54 (.tmp 16) (.tmp 168) rfl B16 rfl #[.int .i64 (Wd (j + 1 + 1) : Nat), .int .i64 (Hd (j + 1 + 1) : Nat), .slice (some ⟨g34, 0, none⟩) n n] rfl 54 #[.int .i64 (Wd (j + 1) : Nat), .int .i64 (Hd (j + 1) : Nat), .slice (some ⟨ga, 0, none⟩) n n] (J6.out.2 _ (.tail _ (.head _))) (by rfl) (by kernel_rfl) (by simp [Value.oneCell']) ?_)
        have hne := RM.ne A6.out (J6.out.2 _ (.tail _ (.head _)))
        have hne5 := RM.ne S6.out (J6.out.2 _ (.tail _ (.head _)))
        have ob := OnlyBlk.setRow w36 B16 #[.int .i64 (Wd (j + 1 + 1) : Nat), .int .i64 (Hd (j + 1 + 1) : Nat), .slice (some ⟨g34, 0, none⟩) n n]
        have fA := RM.other A6.out (ob.1.block _ A6.out.1 (fun e => hne (Option.some.inj e))) ob.1.size
        have fS := RM.other S6.out (ob.1.block _ S6.out.1 (fun e => hne5 (Option.some.inj e))) ob.1.size
        have fK := Kp.setHead (J6.out.sub (m := [(B16, .cells #[.int .i64 (Wd (j + 1) : Nat), .int .i64 (Hd (j + 1) : Nat), .slice (some ⟨ga, 0, none⟩) n n] 54 (0, 0)), (B8, (.cells #[.int .i64 W, .int .i64 H, .slice (some ⟨g5, 0, none⟩) n n] 54 (0, 0))), (w.heap.size, (.cells #[.int .i64 W, .int .i64 H, .slice (some ⟨b, o, none⟩) n c] 48 (0, 0)))]) (fun p hp => .tail _ hp)) #[.int .i64 (Wd (j + 1 + 1) : Nat), .int .i64 (Hd (j + 1 + 1) : Nat), .slice (some ⟨g34, 0, none⟩) n n] (Nat.le_of_lt l16b) (fun p hp => by
          rcases List.mem_cons.1 hp with rfl | hp
          · exact Nat.ne_of_lt l16a
          · rcases List.mem_cons.1 hp with rfl | hp
            · exact Nat.ne_of_lt l16b
            · nomatch hp)
        have FA := Lib.hid fA
        have FS := Lib.hid fS
        have FK := Lib.hid fK
        clear fA fS fK ob hne hne5 v0 v1 v2
        go_roundw
        case rel => exact ⟨j + 1, g34, by omega, by go_num, FK.out, FA.out, FS.out⟩
        case measure => simp [intOf]; omega
      · obtain rfl : j = 3 := by omega
        obtain ⟨e1, e2, e3⟩ := HO.out.back
        have ja := J0.out
        have aa := A0.out
        rw [e1, e2] at ja
        rw [e1, e2, e3] at aa
        have JA := Lib.hid ja
        have AA := Lib.hid aa
        clear x0 x1 x2 e1 e2 e3
        obtain ⟨x0, x1, x2⟩ := row_cells (ja.2 _ (.head _))
        obtain ⟨y0, y1, y2⟩ := row_cells (ja.2 _ (.tail _ (.tail _ (.head _))))
        have l16 : B16 < wr.heap.size := lt_of_blk (ja.2 _ (.head _))
        have lw : w.heap.size < wr.heap.size := lt_of_blk (ja.2 _ (.tail _ (.tail _ (.head _))))
        clear ja aa J0 A0
        have hB : Blw wr.heap.size wr wr := show Below _ _ _ from Below.refl _ _
        have hB' : Blw wr.heap.size wr wr.drew := show Below _ _ _ from (Below.refl wr.heap.size wr).drew
        have KT : Hid (∀ (w1 : World) (x y g' : Nat), Blw wr.heap.size wr w1 → Calls Tryz.prog 97 #[.agg #[.int .i64 x, .int .i64 y, .slice (some ⟨g', 0, none⟩) n n]] w1 fun e w' => e = .returned (.agg #[.int .i64 x, .int .i64 y, .slice (some ⟨g', 0, none⟩) n n]) ∧ Blw wr.heap.size wr w') := Lib.hid fun w1 x y g' h =>
          (told_any x y _ n n w1).mono fun e w' ⟨h1, h2⟩ => ⟨h1, Below.trans h (h2.mono (Below.size h))⟩
        have KE : Hid (∀ w1 : World, Blw wr.heap.size wr w1 → Calls Tryz.prog 98 #[.agg #[.int .i64 W, .int .i64 H, .slice (some ⟨ga, 0, none⟩) n n], .agg #[.int .i64 W, .int .i64 H, .slice (some ⟨b, o, none⟩) n c]] w1 fun e w' => e = .returned (.bool true) ∧ Blw wr.heap.size wr w') := Lib.hid fun w1 h =>
          (rm_same (AA.out.kept h) (HR.out.kept (JA.out.1.trans (Below.mono h JA.out.1.size))) n c).mono fun e w' ⟨h1, h2⟩ => ⟨h1, Below.trans h (h2.mono (Below.size h))⟩
        go_upto_region 30 with fail
        go_cut [174] from 170 to 174 (fun s174 wc => s174 = .bool false ∧ Blw wr.heap.size wr wc)
        case first =>
          go_region_held3 (fun w' => w'.cell? ⟨B16, 0, none⟩ = some (.int .i64 (W : Nat)) ∧ w'.cell? ⟨B16, 1, none⟩ = some (.int .i64 (H : Nat)) ∧ w'.cell? ⟨B16, 2, none⟩ = some (.slice (some ⟨ga, 0, none⟩) n n) ∧
              w'.cell? ⟨w.heap.size, 0, none⟩ = some (.int .i64 (W : Nat)) ∧ w'.cell? ⟨w.heap.size, 1, none⟩ = some (.int .i64 (H : Nat)) ∧ w'.cell? ⟨w.heap.size, 2, none⟩ = some (.slice (some ⟨b, o, none⟩) n c) ∧ Blw wr.heap.size wr w')
            (first
              | (go_split_ands; refine ⟨?_, ?_, ?_, ?_, ?_, ?_, ?_⟩ <;> with_reducible assumption)
              | (go_split_ands; refine ⟨?_, ?_, ?_, ?_, ?_, ?_, ?_⟩ <;> first | (with_reducible assumption) | (rw [Below.cell (w := wr) (by assumption : Blw wr.heap.size wr _) (by assumption)]; assumption))
              | (go_keep; done))
            (first
              | (go_at_call 97; with_reducible refine (KT.out _ _ _ _ (by assumption)).mono ?_; rintro e w40 ⟨rfl, hb40⟩)
              | (go_at_call 98; with_reducible refine (KE.out _ (by assumption)).mono ?_; rintro e w41 ⟨rfl, hb41⟩))
          all_goals
            go_wp2_with fail
            go_meet
            exact ⟨rfl, by assumption⟩
        case rest =>
          rename_i hK
          obtain ⟨rfl, hb41⟩ := hcut
          refine hK _ _ ?_
          clear hK
          have kz := (JA.out.call hb41).sub (m := [(B8, (.cells #[.int .i64 W, .int .i64 H, .slice (some ⟨g5, 0, none⟩) n n] 54 (0, 0))), (w.heap.size, (.cells #[.int .i64 W, .int .i64 H, .slice (some ⟨b, o, none⟩) n c] 48 (0, 0)))]) (fun p hp => .tail _ hp)
          have KZ := Lib.hid kz
          have SZ := Lib.hid (S0.out.kept hb41)
          clear kz hb41 KT KE hB hB' x0 x1 x2 y0 y1 y2
          go_wp2_with fail
          exact HQ.out _ _ _ _ _ _ _ _ _ _ _ _ _ _ _ _ _ _ _ _ _ _ _ _ _ _ _ _ _ _ _ _ _ _ _ _ _ _ _ _ _ _ _ _ _ _ _ _ _ _ _ _ _ _ _ _ _ _ _ _ _ _ _ _ _ _ _ _ _ _ _ _ _ _ _ _ _ _ _ _ _ _ _ _ _ _ _ _ _ _ _ _ _ _ _ _ _ _ _ _ _ _ _ KZ.out SZ.out

end Go.Proofs.YtfdkmmllemkogaaGreatDoor

/-
  The walk of LightKept: what comes ahead of its loop.
-/
namespace Go.Proofs.YtfdkmmllemkogaaGreatDoor
open Go.RowKit Go.Shelf
set_option linter.unusedVariables false
set_option linter.unusedSimpArgs false

set_option maxRecDepth 1000000 in
set_option maxHeartbeats 12800000 in
theorem kept_walk (w : World) (W H b o n c : Nat) (ks : List Int) (hR : RM w W H n ks b o) (nv s : Int) (hs0 : 0 ≤ s) (hs4 : s ≤ 4) (hnv0 : 0 ≤ nv) (hnv1 : nv ≤ 255) (hs : nv % 5 = s)
    (S : List Int) (hS : S = roundsTo W H s ks (gridPlaces W (H * W))) (hSm : ∀ j, j < n → (S[j]?.getD 0).natAbs ≤ 16384) (hT : S.sum = ks.sum) (hZ : roundsTo W H 0 ks (gridPlaces W (H * W)) = ks) (LFlip LTurn : List Int) (WF HF WT HT' : Nat → Nat) (SF ST : Nat → List Int) (hOF : OfK 56 1 W H n ks S LFlip s ks.sum WF HF SF) (hOT : OfK 57 3 W H n ks S LTurn s ks.sum WT HT' ST)
    (hsm : ∀ w1 : World, Below w.heap.size w w1 → Calls Tryz.prog 96 #[.agg #[.int .i64 W, .int .i64 H, .slice (some ⟨b, o, none⟩) n c], .float .f32 1137180672] w1 fun e w' => e = .returned (.bool true) ∧ Below w1.heap.size w1 w') (ht : TabAt w) :
    Calls Tryz.prog 14 #[.agg #[.int .i64 W, .int .i64 H, .slice (some ⟨b, o, none⟩) n c], .int .u8 nv] w (TruePost w) := by
  have KW : Hid (∀ w1 : World, Below w.heap.size w w1 → Calls Tryz.prog 19 #[] w1 fun e w' => e = .returned (.bool true) ∧ Below w.heap.size w w') :=
    Lib.hid fun w1 h => (awake_any w1 (ht.on h)).mono fun e w' ⟨he, hb⟩ => ⟨he, h.trans (hb.mono h.size)⟩
  have KS := Lib.hid hsm
  have KO : Hid (∀ w1 : World, Below w.heap.size w w1 → Calls Tryz.prog 38 #[.agg #[.int .i64 W, .int .i64 H, .slice (some ⟨b, o, none⟩) n c]] w1 fun e w' =>
      ∃ g c', e = .returned (.agg #[.int .i64 W, .int .i64 H, .slice (some ⟨g, 0, none⟩) n c']) ∧ RM w' W H n ks g 0 ∧ Below w1.heap.size w1 w') := Lib.hid fun w1 h => rm_own (hR.kept h) c
  have KP : Hid (∀ (w1 : World) (g c' : Nat), RM w1 W H n ks g 0 → GivesMap 63 #[.agg #[.int .i64 W, .int .i64 H, .slice (some ⟨g, 0, none⟩) n c'], .int .i64 s] w1 W H n S) := Lib.hid fun w1 g c' h => by
    rw [hS]; exact rm_spread h c' s hs0 hs4 (by rw [← hS]; exact hSm)
  have KZ : Hid (∀ (w1 : World) (g c' : Nat), RM w1 W H n ks g 0 → GivesMap 63 #[.agg #[.int .i64 W, .int .i64 H, .slice (some ⟨g, 0, none⟩) n c'], .int .i64 0] w1 W H n ks) := Lib.hid fun w1 g c' h => by
    have k := rm_spread h c' 0 (by omega) (by omega) (by
      rw [hZ]
      obtain ⟨_, xs, h2⟩ := h
      exact h2.sizes)
    rw [hZ] at k
    exact k
  have HR := Lib.hid hR
  have hm5 : nv.tmod 5 = s := by rw [Int.tmod_eq_emod_of_nonneg hnv0]; exact hs
  have wnv : IntKind.i64.wrap nv = nv := IntWalk.i64_in _ ⟨by omega, by omega⟩
  obtain ⟨tt, htt⟩ : ∃ tt, ks.sum = tt := ⟨_, rfl⟩
  rw [htt] at hOF hOT
  have HOFlip := Lib.hid hOF
  have HOTurn := Lib.hid hOT
  have HTT := Lib.hid htt
  have HT := Lib.hid hT
  obtain ⟨W0, hW0⟩ : ∃ W0, w.alloc (.cells #[.int .i64 W, .int .i64 H, .slice (some ⟨b, o, none⟩) n c] 48) = W0 := ⟨_, rfl⟩
  have K0 : Kp w W0 [(w.heap.size, .cells #[.int .i64 W, .int .i64 H, .slice (some ⟨b, o, none⟩) n c] 48)] := by
    rw [← hW0]; exact (Kp.none w).alloc _
  have HK0 := Lib.hid K0
  obtain ⟨z0, z1, z2⟩ := row_cells (HK0.out.2 _ (.head _))
  have i5 : ¬ ((5 : Int) = 0) := by decide
  clear hsm hR K0 hS hSm hT hZ ht htt hOF hOT
  go_enter Tryz.func14, Tryz.ntmps14
  go_upto_region 1 with fail
  try rw [hW0]
  clear hW0
  go_upto_region 5 with (first
    | (go_at_call 96; with_reducible refine (KS.out _ (Kp.below HK0.out)).mono ?_; rintro e w1 ⟨rfl, hb1⟩;
       have K1 := Lib.hid (HK0.out.call hb1); clear hb1; obtain ⟨y0, y1, y2⟩ := row_cells (K1.out.2 _ (.head _)))
    | (go_at_call 38; with_reducible refine (KO.out _ (Kp.below K1.out)).mono ?_; rintro e w2 ⟨g2, c2, rfl, hm2, hb2⟩;
       have K2 := Lib.hid (K1.out.call hb2); have R2 := Lib.hid hm2; clear hb2 hm2)
    | (go_at_call 39; (refine Calls.mono (show Calls _ _ _ _ _ from by have k := rm_total R2.out c2; rw [HTT.out] at k; exact k) ?_); rintro e w3 ⟨rfl, hb3⟩;
       have K3 := Lib.hid (K2.out.call hb3); clear hb3; obtain ⟨x0, x1, x2⟩ := row_cells (K3.out.2 _ (.head _))))
  clear y0 y1 y2 z0 z1 z2 K1 K2 KS HK0 R2
  go_upto_region 6 with (first
    | (go_at_call 38; with_reducible refine (KO.out _ (Kp.below K3.out)).mono ?_; rintro e w4 ⟨g4, c4, rfl, hm4, hb4⟩;
       have K4 := Lib.hid (K3.out.call hb4); have R4 := Lib.hid hm4; clear hb4 hm4)
    | (go_at_call 63; (refine Calls.mono (KP.out _ g4 c4 R4.out) ?_); rintro e w5 ⟨g5, rfl, hm5, hb5⟩;
       have K5 := Lib.hid ((K4.out.call hb5).alloc (.cells #[.int .i64 0, .int .i64 0, .slice none 0 0] 54));
       have K6 := Lib.hid ((K4.out.call hb5).stored #[.int .i64 0, .int .i64 0, .slice none 0 0] #[.int .i64 W, .int .i64 H, .slice (some ⟨g5, 0, none⟩) n n] 54);
       have R6 := Lib.hid (hm5.kept ((Kp.none w5).stored #[.int .i64 0, .int .i64 0, .slice none 0 0] #[.int .i64 W, .int .i64 H, .slice (some ⟨g5, 0, none⟩) n n] 54).1); clear hb5 hm5)
    | (refine wpList_store_row rfl 54 (.tmp 8) (.tmp 44) rfl w5.heap.size rfl #[.int .i64 W, .int .i64 H, .slice (some ⟨g5, 0, none⟩) n n] rfl 54 #[.int .i64 0, .int .i64 0, .slice none 0 0] (K5.out.2 _ (.head _)) (by rfl) (by kernel_rfl) (by simp [Value.oneCell']) ?_))
  obtain ⟨W6, hW6⟩ : ∃ W6, (w5.alloc (.cells #[.int .i64 0, .int .i64 0, .slice none 0 0] 54)).setRow w5.heap.size #[.int .i64 W, .int .i64 H, .slice (some ⟨g5, 0, none⟩) n n] = W6 := ⟨_, rfl⟩
  obtain ⟨B8, hB8⟩ : ∃ B8, w5.heap.size = B8 := ⟨_, rfl⟩
  have k6 := K6.out
  have r6 := R6.out
  rw [hW6] at k6 r6 ⊢
  rw [hB8] at k6 ⊢
  have HK6 := Lib.hid k6
  have HR6 := Lib.hid r6
  obtain ⟨y0, y1, y2⟩ := row_cells (k6.2 _ (.tail _ (.head _)))
  clear hW6 hB8 k6 r6 K3 K4 K5 K6 R4 R6 KP x0 x1 x2
  go_upto_region 7 with (first
    | (go_at_call 38; with_reducible refine (KO.out _ (Kp.below HK6.out)).mono ?_; rintro e w7 ⟨g7, c7, rfl, hm7, hb7⟩;
       have K7 := Lib.hid (HK6.out.call hb7); have R7 := Lib.hid hm7; have S7 := Lib.hid (HR6.out.kept hb7); clear hb7 hm7)
    | (go_at_call 63; (refine Calls.mono (KZ.out _ g7 c7 R7.out) ?_); rintro e w8 ⟨g8, rfl, hm8, hb8⟩;
       have K8 := Lib.hid ((K7.out.call hb8).alloc (.cells #[.int .i64 0, .int .i64 0, .slice none 0 0] 54));
       have K9 := Lib.hid ((K7.out.call hb8).stored #[.int .i64 0, .int .i64 0, .slice none 0 0] #[.int .i64 W, .int .i64 H, .slice (some ⟨g8, 0, none⟩) n n] 54);
       have R9 := Lib.hid (hm8.kept ((Kp.none w8).stored #[.int .i64 0, .int .i64 0, .slice none 0 0] #[.int .i64 W, .int .i64 H, .slice (some ⟨g8, 0, none⟩) n n] 54).1);
       have S9 := Lib.hid ((S7.out.kept hb8).kept ((Kp.none w8).stored #[.int .i64 0, .int .i64 0, .slice none 0 0] #[.int .i64 W, .int .i64 H, .slice (some ⟨g8, 0, none⟩) n n] 54).1); clear hb8 hm8)
    | (refine wpList_store_row rfl 54 (.tmp 10) (.tmp 50) rfl w8.heap.size rfl #[.int .i64 W, .int .i64 H, .slice (some ⟨g8, 0, none⟩) n n] rfl 54 #[.int .i64 0, .int .i64 0, .slice none 0 0] (K8.out.2 _ (.head _)) (by rfl) (by kernel_rfl) (by simp [Value.oneCell']) ?_))
  obtain ⟨W9, hW9⟩ : ∃ W9, (w8.alloc (.cells #[.int .i64 0, .int .i64 0, .slice none 0 0] 54)).setRow w8.heap.size #[.int .i64 W, .int .i64 H, .slice (some ⟨g8, 0, none⟩) n n] = W9 := ⟨_, rfl⟩
  obtain ⟨B10, hB10⟩ : ∃ B10, w8.heap.size = B10 := ⟨_, rfl⟩
  have k9 := K9.out
  have r9 := R9.out
  have s9 := S9.out
  rw [hW9] at k9 r9 s9 ⊢
  rw [hB10] at k9 ⊢
  have HK9 := Lib.hid k9
  have HR9 := Lib.hid r9
  have HS9 := Lib.hid s9
  obtain ⟨a0, a1, a2⟩ := row_cells (k9.2 _ (.tail _ (.tail _ (.head _))))
  obtain ⟨b0, b1, b2⟩ := row_cells (k9.2 _ (.tail _ (.head _)))
  obtain ⟨d0, d1, d2⟩ := row_cells (k9.2 _ (.head _))
  have l8 : B8 < W9.heap.size := lt_of_blk (k9.2 _ (.tail _ (.head _)))
  have l10 : B10 < W9.heap.size := lt_of_blk (k9.2 _ (.head _))
  have l2 : w.heap.size < W9.heap.size := lt_of_blk (k9.2 _ (.tail _ (.tail _ (.head _))))
  have hB : Blw W9.heap.size W9 W9 := show Below _ _ _ from Below.refl _ _
  have hB' : Blw W9.heap.size W9 W9.drew := show Below _ _ _ from (Below.refl W9.heap.size W9).drew
  have KT : Hid (∀ (w1 : World) (x y g' : Nat), Blw W9.heap.size W9 w1 → Calls Tryz.prog 97 #[.agg #[.int .i64 x, .int .i64 y, .slice (some ⟨g', 0, none⟩) n n]] w1 fun e w' => e = .returned (.agg #[.int .i64 x, .int .i64 y, .slice (some ⟨g', 0, none⟩) n n]) ∧ Blw W9.heap.size W9 w') := Lib.hid fun w1 x y g' h =>
    (told_any x y _ n n w1).mono fun e w' ⟨h1, h2⟩ => ⟨h1, Below.trans h (h2.mono (Below.size h))⟩
  have KC : Hid (∀ w1 : World, Blw W9.heap.size W9 w1 → Calls Tryz.prog 41 #[.agg #[.int .i64 W, .int .i64 H, .slice (some ⟨g5, 0, none⟩) n n]] w1 fun e w' => e = .returned (.int .i64 0) ∧ Blw W9.heap.size W9 w') := Lib.hid fun w1 h =>
    (rm_check (HS9.out.kept h) n).mono fun e w' ⟨h1, h2⟩ => ⟨h1, Below.trans h (h2.mono (Below.size h))⟩
  have KE : Hid (∀ w1 : World, Blw W9.heap.size W9 w1 → Calls Tryz.prog 98 #[.agg #[.int .i64 W, .int .i64 H, .slice (some ⟨g8, 0, none⟩) n n], .agg #[.int .i64 W, .int .i64 H, .slice (some ⟨b, o, none⟩) n c]] w1 fun e w' => e = .returned (.bool true) ∧ Blw W9.heap.size W9 w') := Lib.hid fun w1 h =>
    (rm_same (HR9.out.kept h) (HR.out.kept (HK9.out.1.trans (Below.mono h HK9.out.1.size))) n c).mono fun e w' ⟨h1, h2⟩ => ⟨h1, Below.trans h (h2.mono (Below.size h))⟩
  clear hW9 hB10 k9 r9 s9 K7 K8 K9 R7 R9 S7 S9 KZ y0 y1 y2
  go_cut [70] (fun s70 wc => s70 = .bool false ∧ Blw W9.heap.size W9 wc)
  case first =>
    go_region_held3 (fun w' => w'.cell? ⟨w.heap.size, 0, none⟩ = some (.int .i64 W) ∧ w'.cell? ⟨w.heap.size, 1, none⟩ = some (.int .i64 H) ∧ w'.cell? ⟨w.heap.size, 2, none⟩ = some (.slice (some ⟨b, o, none⟩) n c) ∧
        w'.cell? ⟨B8, 0, none⟩ = some (.int .i64 W) ∧ w'.cell? ⟨B8, 1, none⟩ = some (.int .i64 H) ∧ w'.cell? ⟨B8, 2, none⟩ = some (.slice (some ⟨g5, 0, none⟩) n n) ∧
        w'.cell? ⟨B10, 0, none⟩ = some (.int .i64 W) ∧ w'.cell? ⟨B10, 1, none⟩ = some (.int .i64 H) ∧ w'.cell? ⟨B10, 2, none⟩ = some (.slice (some ⟨g8, 0, none⟩) n n) ∧ Blw W9.heap.size W9 w')
      (first
        | (go_split_ands; refine ⟨?_, ?_, ?_, ?_, ?_, ?_, ?_, ?_, ?_, ?_⟩ <;> with_reducible assumption)
        | (go_split_ands; refine ⟨?_, ?_, ?_, ?_, ?_, ?_, ?_, ?_, ?_, ?_⟩ <;> first | (with_reducible assumption) | (rw [Below.cell (w := W9) (by assumption : Blw W9.heap.size W9 _) (by assumption)]; assumption))
        | (go_keep; done))
      (first
        | (go_at_call 97; with_reducible refine (KT.out _ _ _ _ (by assumption)).mono ?_; rintro e w10 ⟨rfl, hb10⟩)
        | (go_at_call 41; with_reducible refine (KC.out _ (by assumption)).mono ?_; rintro e w11 ⟨rfl, hb11⟩)
        | (go_at_call 98; with_reducible refine (KE.out _ (by assumption)).mono ?_; rintro e w12 ⟨rfl, hb12⟩))
    all_goals
      go_wp2_with fail
      go_meet
      exact ⟨rfl, by assumption⟩
  case rest =>
    obtain ⟨rfl, hb12⟩ := hcut
    have HB12 := Lib.hid hb12
    have k12 : Kp w wc [(B8, (.cells #[.int .i64 W, .int .i64 H, .slice (some ⟨g5, 0, none⟩) n n] 54 (0, 0))), (w.heap.size, (.cells #[.int .i64 W, .int .i64 H, .slice (some ⟨b, o, none⟩) n c] 48 (0, 0)))] :=
      ⟨HK9.out.1.trans (Below.mono hb12 HK9.out.1.size), fun p hp => by
        rcases List.mem_cons.1 hp with rfl | hp
        · exact (Below.block hb12 _ l8).trans (HK9.out.2 _ (.tail _ (.head _)))
        · rcases List.mem_cons.1 hp with rfl | hp
          · exact (Below.block hb12 _ l2).trans (HK9.out.2 _ (.tail _ (.tail _ (.head _))))
          · nomatch hp⟩
    have HK12 := Lib.hid k12
    have HS12 := Lib.hid (HS9.out.kept hb12)
    obtain ⟨x0, x1, x2⟩ := row_cells (k12.2 _ (.head _))
    clear hb12 k12 HB12 HK9 HS9 HR9 KT KC KE hB hB' l2 l8 l10 a0 a1 a2 b0 b1 b2 d0 d1 d2
    have eTT : (tt != tt) = false := by simp
    go_upto_region 12 with (first
      | (go_at_call 97; with_reducible refine (told_any _ _ _ _ _ _).mono ?_; rintro e w12 ⟨rfl, hb⟩;
         have K13 := Lib.hid (HK12.out.call hb); have S13 := Lib.hid (HS12.out.kept hb); clear hb)
      | (go_at_call 38; (refine Calls.mono (rm_own S13.out n) ?_); rintro e w13 ⟨g13, c13, rfl, hm, hb⟩;
         have K14 := Lib.hid (K13.out.call hb); have S14 := Lib.hid (S13.out.kept hb); have M14 := Lib.hid hm; clear hb hm)
      | (go_at_call 39; (refine Calls.mono (show Calls _ _ _ _ _ from by have k := rm_total M14.out c13; rw [HT.out, HTT.out] at k; exact k) ?_); rintro e w14 ⟨rfl, hb⟩;
         have K15 := Lib.hid (K14.out.call hb); have S15 := Lib.hid (S14.out.kept hb); clear hb))
    clear x0 x1 x2 HK12 HS12 K13 S13 K14 S14 M14
    go_wp2_with fail
    go_loopw [86] (fun iv wr => ∃ k : Nat, k ≤ 2 ∧ iv = .int .i64 k ∧ Kp w wr [(B8, (.cells #[.int .i64 W, .int .i64 H, .slice (some ⟨g5, 0, none⟩) n n] 54 (0, 0))), (w.heap.size, (.cells #[.int .i64 W, .int .i64 H, .slice (some ⟨b, o, none⟩) n c] 48 (0, 0)))] ∧ RM wr W H n S g5 0) (fun iv _ => 2 - (intOf iv).toNat)
    case atStart => exact ⟨0, Nat.zero_le _, rfl, K15.out, S15.out⟩
    case round =>
      obtain ⟨k, hk, rfl, hkp, hrm⟩ := hrel
      have HK := Lib.hid hkp
      have HS := Lib.hid hrm
      clear hkp hrm K15 S15
      by_cases hlt : k < 2
      · rcases (show k = 0 ∨ k = 1 by omega) with hk0 | hk1
        · have hidx : ∀ w1 : World, (Instr.index 155 (.agg #[.func (.func 56) #[] #[], .func (.func 57) #[] #[]]) (.int .i64 (k : Int))).run Tryz.prog w1 = .ok (.func (.func 56) #[] #[]) w1 := fun w1 => by subst hk0; kernel_rfl
          have HKK := Lib.hid hk0
          clear hk0
          go_upto_region 14 with fail
          go_cut [14, 15] (fun s14 s15 wx => s14 = .int .i64 k ∧ s15 = .func (.func 56) #[] #[] ∧ wr = wx)
          case first =>
            go_wp2_with fail
            go_meet
            exact ⟨rfl, rfl, rfl⟩
          case rest =>
            rename_i hK
            obtain ⟨rfl, rfl, rfl⟩ := hcut
            refine hK _ _ ?_
            clear hK hidx
            refine keptFlip w W H b o n c ks S LFlip HR.out nv s tt _ _ _ HOFlip.out k HKK.out B8 g5 wr HK.out HS.out _ _ _ _ _ _ _ _ _ _ _ _ _ _ _ _ _ _ _ _ _ _ _ _ _ _ _ _ _ _ _ _ _ _ _ _ _ _ _ _ _ _ _ _ _ _ _ _ _ _ _ _ _ _ _ _ _ _ _ _ _ _ _ _ _ _ _ _ _ _ _ _ _ _ _ _ _ _ _ _ _ _ _ _ _ _ _ _ _ _ _ _ _ _ _ _ _ _ _ _ _ _ _ _ _ _ _ _ _ _ _ _ _ _ _ _ _ _ _ _ _ _ _ _ _ _ _ _ _ _ _ _ _ _ _ _ _ _ _ _ _ _ _ _ _ _ _ _ _ _ _ _ _ _ _ _ _ _ _ _ _ _ _ _ _ _ _ _ ?_
            intro w' v4 v14 v15 v16 v17 v18 v19 v20 v21 v22 v23 v24 v25 v87 v88 v89 v90 v91 v92 v93 v94 v95 v96 v97 v98 v99 v100 v101 v102 v103 v104 v105 v106 v107 v108 v109 v110 v111 v112 v113 v114 v115 v116 v117 v118 v119 v120 v121 v122 v123 v124 v125 v126 v127 v128 v129 v130 v131 v132 v133 v134 v135 v136 v137 v138 v139 v140 v141 v142 v143 v144 v145 v146 v147 v148 v149 v150 v151 v152 v153 v154 v155 v156 v157 v158 v159 v160 v161 v162 v163 v164 v165 v166 v167 v168 v169 v170 v171 v172 v173 v174 v175 hk' hs'
            have FK := Lib.hid hk'
            have FS := Lib.hid hs'
            clear hk' hs'
            go_wp2_with fail
            go_roundw
            case rel => first | exact ⟨k + 1, by omega, by go_num, FK.out, FS.out⟩ | ((repeat apply Exists.intro); exact ⟨⟨k + 1, by omega, by go_num, FK.out, FS.out⟩, rfl⟩)
            case measure => simp [intOf]; omega
        · have hidx : ∀ w1 : World, (Instr.index 155 (.agg #[.func (.func 56) #[] #[], .func (.func 57) #[] #[]]) (.int .i64 (k : Int))).run Tryz.prog w1 = .ok (.func (.func 57) #[] #[]) w1 := fun w1 => by subst hk1; kernel_rfl
          have HKK := Lib.hid hk1
          clear hk1
          go_upto_region 14 with fail
          go_cut [14, 15] (fun s14 s15 wx => s14 = .int .i64 k ∧ s15 = .func (.func 57) #[] #[] ∧ wr = wx)
          case first =>
            go_wp2_with fail
            go_meet
            exact ⟨rfl, rfl, rfl⟩
          case rest =>
            rename_i hK
            obtain ⟨rfl, rfl, rfl⟩ := hcut
            refine hK _ _ ?_
            clear hK hidx
            refine keptTurn w W H b o n c ks S LTurn HR.out nv s tt _ _ _ HOTurn.out k HKK.out B8 g5 wr HK.out HS.out _ _ _ _ _ _ _ _ _ _ _ _ _ _ _ _ _ _ _ _ _ _ _ _ _ _ _ _ _ _ _ _ _ _ _ _ _ _ _ _ _ _ _ _ _ _ _ _ _ _ _ _ _ _ _ _ _ _ _ _ _ _ _ _ _ _ _ _ _ _ _ _ _ _ _ _ _ _ _ _ _ _ _ _ _ _ _ _ _ _ _ _ _ _ _ _ _ _ _ _ _ _ _ _ _ _ _ _ _ _ _ _ _ _ _ _ _ _ _ _ _ _ _ _ _ _ _ _ _ _ _ _ _ _ _ _ _ _ _ _ _ _ _ _ _ _ _ _ _ _ _ _ _ _ _ _ _ _ _ _ _ _ _ _ _ _ _ _ ?_
            intro w' v4 v14 v15 v16 v17 v18 v19 v20 v21 v22 v23 v24 v25 v87 v88 v89 v90 v91 v92 v93 v94 v95 v96 v97 v98 v99 v100 v101 v102 v103 v104 v105 v106 v107 v108 v109 v110 v111 v112 v113 v114 v115 v116 v117 v118 v119 v120 v121 v122 v123 v124 v125 v126 v127 v128 v129 v130 v131 v132 v133 v134 v135 v136 v137 v138 v139 v140 v141 v142 v143 v144 v145 v146 v147 v148 v149 v150 v151 v152 v153 v154 v155 v156 v157 v158 v159 v160 v161 v162 v163 v164 v165 v166 v167 v168 v169 v170 v171 v172 v173 v174 v175 hk' hs'
            have FK := Lib.hid hk'
            have FS := Lib.hid hs'
            clear hk' hs'
            go_wp2_with fail
            go_roundw
            case rel => first | exact ⟨k + 1, by omega, by go_num, FK.out, FS.out⟩ | ((repeat apply Exists.intro); exact ⟨⟨k + 1, by omega, by go_num, FK.out, FS.out⟩, rfl⟩)
            case measure => simp [intOf]; omega
      · obtain rfl : k = 2 := by omega
        go_wp2_with (go_at_call 19; with_reducible refine (KW.out _ (Kp.below HK.out)).mono ?_; rintro e w16 ⟨rfl, hb16⟩)
        go_ret
        exact ⟨rfl, hb16⟩
end Go.Proofs.YtfdkmmllemkogaaGreatDoor

/-
  LightKept returns true for all arguments.
-/
namespace Go.Proofs.YtfdkmmllemkogaaGreatDoor
open Go.ChangeShapes Go.WideShapes Go.ChangeAt Go.RowKit Go.Joins Go.Deep
set_option linter.unusedVariables false
set_option linter.unusedSimpArgs false
set_option maxRecDepth 100000

theorem openByte {H : Type} {enc : TypeId × Value → H} {W : World} {b0 : Nat} {v : Value} {d : DataW H} {p : List MemPlace}
    (hv : Value.okWide Tryz.prog W .any b0 5 v) (h : DataW.Trod enc Tryz.prog W 0 (fun _ => true) true 5 v d p) : ∃ z : Int, v = .int .u8 z ∧ 0 ≤ z ∧ z ≤ 255 := by
  obtain ⟨z, rfl⟩ := okWide_int Tryz.underlying5 hv
  obtain ⟨fuel, hf⟩ := h
  simp only [Value.cells] at hf
  obtain ⟨X, e0, _, hw⟩ := DataW.trod_int Tryz.underlying5 hf
  have e0' : (Value.int .u8 z) = .int .u8 X := by simpa using e0
  have e1 : IntKind.u8.min = 0 := by rfl
  have e2 : IntKind.u8.max = 255 := by rfl
  simp only [Lit.wf, Bool.and_eq_true, decide_eq_true_eq, e1, e2] at hw
  cases e0'
  exact ⟨z, rfl, hw.1, hw.2⟩

theorem get_small {l : List Int} {n M : Nat} (h : ∀ j, j < n → (l[j]?.getD 0).natAbs ≤ M) (hl : l.length = n) (i : Nat) : (l[i]?.getD 0).natAbs ≤ M := by
  by_cases hi : i < n
  · exact h i hi
  · rw [List.getElem?_eq_none (by omega)]; exact Nat.zero_le _
theorem flipK_small {W n M : Nat} {l : List Int} (h : ∀ j, j < n → (l[j]?.getD 0).natAbs ≤ M) (hl : l.length = n) : ∀ j, j < n → ((flipK W n l)[j]?.getD 0).natAbs ≤ M := fun j hj => by
  unfold flipK; rw [List.getElem?_map, List.getElem?_range hj]; exact get_small h hl _
theorem turnK_small {W H n M : Nat} {l : List Int} (h : ∀ j, j < n → (l[j]?.getD 0).natAbs ≤ M) (hl : l.length = n) : ∀ j, j < n → ((turnK W H n l)[j]?.getD 0).natAbs ≤ M := fun j hj => by
  unfold turnK; rw [List.getElem?_map, List.getElem?_range hj]; exact get_small h hl _

theorem ofFlip {W H n : Nat} {ks S : List Int} {s : Int} (hn : H * W = n) (hk : ks.length = n) (h0 : 0 ≤ s) (h4 : s ≤ 4) (hS : S = roundsTo W H s ks (gridPlaces W (H * W))) (hSm : ∀ j, j < n → (S[j]?.getD 0).natAbs ≤ 16384) :
    OfK 56 1 W H n ks S (flipK W n S) s ks.sum (fun _ => W) (fun _ => H) (fun i => if i = 1 then flipK W n ks else ks) := by
  subst hn
  have hSl : S.length = H * W := by rw [hS]; exact spread_len W H s ks hk
  refine ⟨fun w1 g c' h => rm_flipped h c', fun w1 g c' h => rm_flipped h c', fun i h1 h2 w1 g c' h => ?_, fun w1 g c' h => ?_, flip_sum W H ks hk, rfl, rfl, rfl⟩
  · obtain rfl : i = 1 := by omega
    have k := rm_flipped h c'
    rw [if_pos rfl, flip_flip W H ks hk] at k
    exact k
  · have e : roundsTo W H s (flipK W (H * W) ks) (gridPlaces W (H * W)) = flipK W (H * W) S := by rw [hS]; exact (flip_spread W H s ks hk).symm
    have h' : RM w1 W H (H * W) (flipK W (H * W) ks) g 0 := h
    have k := rm_spread h' c' s h0 h4 (by rw [e]; exact flipK_small hSm hSl)
    rw [e] at k
    exact k

theorem ofTurn {W H n : Nat} {ks S : List Int} {s : Int} (hn : H * W = n) (hk : ks.length = n) (h0 : 0 ≤ s) (h4 : s ≤ 4) (hS : S = roundsTo W H s ks (gridPlaces W (H * W))) (hSm : ∀ j, j < n → (S[j]?.getD 0).natAbs ≤ 16384) :
    OfK 57 3 W H n ks S (turnK W H n S) s ks.sum (fun i => if i % 2 = 0 then W else H) (fun i => if i % 2 = 0 then H else W)
      (fun i => if i = 1 then turnK W H n ks else if i = 2 then turnK H W n (turnK W H n ks) else if i = 3 then turnK W H n (turnK H W n (turnK W H n ks)) else ks) := by
  subst hn
  have hSl : S.length = H * W := by rw [hS]; exact spread_len W H s ks hk
  have h4t := turn_four W H ks hk
  rw [Nat.mul_comm W H] at h4t
  refine ⟨fun w1 g c' h => rm_turned h c', fun w1 g c' h => rm_turned h c', fun i h1 h2 w1 g c' h => ?_, fun w1 g c' h => ?_, turn_sum W H ks hk, rfl, rfl, rfl⟩
  · rcases (show i = 1 ∨ i = 2 ∨ i = 3 by omega) with rfl | rfl | rfl
    · have h' : RM w1 H W (H * W) (turnK W H (H * W) ks) g 0 := h
      exact rm_turned h' c'
    · have h' : RM w1 W H (H * W) (turnK H W (H * W) (turnK W H (H * W) ks)) g 0 := h
      exact rm_turned h' c'
    · have h' : RM w1 H W (H * W) (turnK W H (H * W) (turnK H W (H * W) (turnK W H (H * W) ks))) g 0 := h
      have k := rm_turned h' c'
      rw [h4t] at k
      exact k
  · have e : roundsTo H W s (turnK W H (H * W) ks) (gridPlaces H (W * H)) = turnK W H (H * W) S := by rw [hS]; exact (turn_spread W H s ks hk).symm
    have h' : RM w1 H W (H * W) (turnK W H (H * W) ks) g 0 := h
    have k := rm_spread h' c' s h0 h4 (by rw [e]; exact turnK_small hSm hSl)
    rw [e] at k
    exact k

set_option maxHeartbeats 3200000 in
theorem kept_all (w : World) (W H : Int) (a : Option Addr) (n c : Nat) (xs : List Nat) (nv : Int) (hv0 : 0 ≤ nv) (hv1 : nv ≤ 255) (ht : TabAt w) (hM : AnyMap w a n c xs) :
    Calls Tryz.prog 14 #[.agg #[.int .i64 W, .int .i64 H, .slice a n c], .int .u8 nv] w (TruePost w) := by
  have KS : ∀ w1 : World, Below w.heap.size w w1 → Calls Tryz.prog 96 #[.agg #[.int .i64 W, .int .i64 H, .slice a n c], .float .f32 1137180672] w1 fun e w' => e = .returned (.bool (smallB W H n xs 6400)) ∧ Below w1.heap.size w1 w' := fun w1 h =>
    small_all 1137180672 3284664320 6400 smp400 smpN400 neg400 W H a n c xs w1 (hM.below h (Nat.le_refl _))
  by_cases hb : smallB W H n xs 6400 = true
  · rw [hb] at KS
    obtain ⟨h0, h1, h2⟩ := of_decide_eq_true hb
    obtain ⟨Wn, Hn, b, o, rfl, rfl, rfl, hR⟩ := rm_of_any hM h0
    have hl := hR.len
    have ha := hR.area
    have hK : ∀ j, j < n → ((xs.map kOf)[j]?.getD 0).natAbs ≤ 6400 := fun j hj => by
      rw [List.getElem?_map, List.getElem?_eq_getElem (by have := hM.len; omega)]
      have h := h2 j hj
      rw [List.getElem?_eq_getElem (by have := hM.len; omega)] at h
      exact h
    obtain ⟨s, hs⟩ : ∃ s, nv % 5 = s := ⟨_, rfl⟩
    have hs0 : 0 ≤ s := by omega
    have hs4 : s ≤ 4 := by omega
    obtain ⟨ks, hks⟩ : ∃ ks, xs.map kOf = ks := ⟨_, rfl⟩
    rw [hks] at hR hK hl
    have hkl : ks.length = Hn * Wn := by omega
    have hSm : ∀ j, j < n → ((roundsTo Wn Hn s ks (gridPlaces Wn (Hn * Wn)))[j]?.getD 0).natAbs ≤ 16384 := fun j hj => by
      have hW : 0 < Wn := by
        rcases Nat.eq_zero_or_pos Wn with h | h
        · rw [h, Nat.mul_zero] at ha; omega
        · exact h
      have h := spread_small Wn Hn s hs0 hs4 ks hkl (fun x y hx hy => get_small hK hl _) (X := j % Wn) (Y := j / Wn) (Nat.mod_lt _ hW) ((Nat.div_lt_iff_lt_mul hW).2 (by omega))
      unfold cellK at h
      rwa [Nat.mul_comm (j / Wn) Wn, Nat.div_add_mod] at h
    exact kept_walk w Wn Hn b o n c ks hR nv s hs0 hs4 hv0 hv1 hs _ rfl hSm (spread_sum Wn Hn s ks hkl) (spread_none Wn Hn ks hkl) _ _ _ _ _ _ _ _ (ofFlip ha hl hs0 hs4 rfl hSm) (ofTurn ha hl hs0 hs4 rfl hSm) KS ht
  · rw [Bool.eq_false_iff.2 hb] at KS
    have KW : Hid (∀ w1 : World, Below w.heap.size w w1 → Calls Tryz.prog 19 #[] w1 fun e w' => e = .returned (.bool true) ∧ Below w.heap.size w w') :=
      Lib.hid fun w1 h => (awake_any w1 (ht.on h)).mono fun e w' ⟨he, hb⟩ => ⟨he, h.trans (hb.mono h.size)⟩
    have HS := Lib.hid KS
    have hB0 : Below w.heap.size w (w.alloc (.cells #[.int .i64 W, .int .i64 H, .slice a n c] 48)) := (Below.refl _ w).alloc (Nat.le_refl _) _
    have HB0 := Lib.hid hB0
    clear hB0 KS hb hM ht
    go_enter Tryz.func14, Tryz.ntmps14
    go_wp2_with (first
      | (go_at_call 96; refine (HS.out _ HB0.out).mono ?_; rintro e w1 ⟨rfl, hb1⟩; have HB1 := Lib.hid (HB0.out.trans (hb1.mono HB0.out.size)); clear hb1)
      | (go_at_call 19; refine (KW.out _ HB1.out).mono ?_; rintro e w2 ⟨rfl, hb2⟩))
    go_ret
    exact ⟨rfl, hb2⟩
end Go.Proofs.YtfdkmmllemkogaaGreatDoor
