/-
  Plain mathematics of spreading: neighbours, what each place gives; no program.
-/
import Derived.RowKit
namespace Go.Proofs.YtpmjiifdnnhecaaGreatDoor
open Go.RowKit

/-- The four neighbours' distances, in their order. -/
def dirsL : List (Int × Int) := [(-1, 0), (1, 0), (0, -1), (0, 1)]
def insideB (W H : Nat) (q : Int × Int) : Bool := decide (0 ≤ q.1) && (decide (q.1 < W) && (decide (0 ≤ q.2) && decide (q.2 < H)))
/-- The neighbours of a place, of the first k distances. -/
def nbrsTo (W H : Nat) (x y : Int) (k : Nat) : List (Int × Int) := ((dirsL.take k).map (fun d => (x + d.1, y + d.2))).filter (insideB W H)
theorem nbrsTo_succ (W H : Nat) (x y : Int) (k : Nat) (hk : k < 4) : nbrsTo W H x y (k + 1) = if insideB W H (x + (dirsL[k]?.getD (0, 0)).1, y + (dirsL[k]?.getD (0, 0)).2) = true then nbrsTo W H x y k ++ [(x + (dirsL[k]?.getD (0, 0)).1, y + (dirsL[k]?.getD (0, 0)).2)] else nbrsTo W H x y k := by
  have hl : k < dirsL.length := hk
  rw [nbrsTo, List.take_succ_eq_append_getElem hl, List.getElem?_eq_getElem hl]
  simp only [nbrsTo, List.map_append, List.filter_append, List.map_cons, List.map_nil, List.filter_cons, List.filter_nil, Option.getD_some]
  split <;> simp
theorem nbrsTo_len (W H : Nat) (x y : Int) (k : Nat) : (nbrsTo W H x y k).length ≤ 4 := by
  refine Nat.le_trans (List.length_filter_le _ _) ?_
  simp [dirsL]; omega
theorem nbrs_in {W H : Nat} {x y : Int} {k : Nat} {q : Int × Int} (h : q ∈ nbrsTo W H x y k) : 0 ≤ q.1 ∧ q.1 < W ∧ 0 ≤ q.2 ∧ q.2 < H := by
  have := (List.mem_filter.1 h).2
  simpa [insideB] using this
/-- The index of a place. -/
def idx (W : Nat) (q : Int × Int) : Nat := (q.2 * W + q.1).toNat
def addAt (cs : List Int) (j : Nat) (d : Int) : List Int := cs.set j (cs[j]?.getD 0 + d)
/-- What a place gives to one neighbour. -/
def give1 (W j : Nat) (gift : Int) (cs : List Int) (q : Int × Int) : List Int := addAt (addAt cs j (-gift)) (idx W q) gift
def giveTo (W j : Nat) (gift : Int) (qs : List (Int × Int)) (cs : List Int) : List Int := qs.foldl (give1 W j gift) cs
theorem give_len (W j : Nat) (gift : Int) (qs : List (Int × Int)) : ∀ cs : List Int, (giveTo W j gift qs cs).length = cs.length := by
  induction qs with
  | nil => intro cs; rfl
  | cons q qs ih => intro cs; show (giveTo W j gift qs (give1 W j gift cs q)).length = _; rw [ih]; simp [give1, addAt]
/-- A place's round. -/
def round1 (W H : Nat) (share : Int) (ks : List Int) (cs : List Int) (p : Nat × Nat) : List Int :=
  giveTo W (p.2 * W + p.1) (ks[p.2 * W + p.1]?.getD 0 * share / 16) (nbrsTo W H p.1 p.2 4) cs
def roundsTo (W H : Nat) (share : Int) (ks : List Int) (ps : List (Nat × Nat)) : List Int := ps.foldl (round1 W H share ks) ks
theorem roundsTo_snoc (W H : Nat) (share : Int) (ks : List Int) (ps : List (Nat × Nat)) (p : Nat × Nat) : roundsTo W H share ks (ps ++ [p]) = round1 W H share ks (roundsTo W H share ks ps) p := by
  simp [roundsTo]
theorem roundsTo_len (W H : Nat) (share : Int) (ks : List Int) (ps : List (Nat × Nat)) : (roundsTo W H share ks ps).length = ks.length := by
  suffices ∀ cs : List Int, (ps.foldl (round1 W H share ks) cs).length = cs.length from this ks
  induction ps with
  | nil => intro cs; rfl
  | cons p ps ih => intro cs; rw [List.foldl_cons, ih]; exact give_len _ _ _ _ _
/-- No integer of a list is greater than a bound. -/
def Within (cs : List Int) (M : Nat) : Prop := ∀ j : Nat, ((cs[j]?.getD 0 : Int)).natAbs ≤ M
theorem Within.add {cs : List Int} {M G : Nat} (h : Within cs M) (j : Nat) (d : Int) (hd : d.natAbs ≤ G) : Within (addAt cs j d) (M + G) := fun i => by
  unfold addAt
  rw [List.getElem?_set]
  split
  · split
    · rename_i h1 h2; have := h j; simp only [Option.getD_some]; omega
    · simp
  · exact Nat.le_trans (h i) (by omega)
theorem Within.give {W j : Nat} {gift : Int} {G : Nat} (hg : gift.natAbs ≤ G) (qs : List (Int × Int)) : ∀ {cs : List Int} {M : Nat}, Within cs M → Within (giveTo W j gift qs cs) (M + 2 * G * qs.length) := by
  induction qs with
  | nil => intro cs M h; simpa [giveTo] using h
  | cons q qs ih =>
    intro cs M h
    have h1 : Within (give1 W j gift cs q) (M + G + G) := (h.add j (-gift) (by omega)).add _ gift hg
    have h2 := ih h1
    have e : M + G + G + 2 * G * qs.length = M + 2 * G * (q :: qs).length := by rw [List.length_cons, Nat.mul_succ]; omega
    rw [e] at h2; exact h2
theorem Within.mono {cs : List Int} {M N : Nat} (h : Within cs M) (hn : M ≤ N) : Within cs N := fun j => Nat.le_trans (h j) hn
theorem gift_bd {k share : Int} (hk : k.natAbs ≤ 16384) (h0 : 0 ≤ share) (h1 : share ≤ 4) : (k * share / 16).natAbs ≤ 4097 ∧ -65536 ≤ k * share ∧ k * share ≤ 65536 := by
  have a : k * share ≤ 16384 * 4 := by
    rcases (show share = 0 ∨ share = 1 ∨ share = 2 ∨ share = 3 ∨ share = 4 by omega) with h | h | h | h | h <;> subst h <;> omega
  have b : -(16384 * 4) ≤ k * share := by
    rcases (show share = 0 ∨ share = 1 ∨ share = 2 ∨ share = 3 ∨ share = 4 by omega) with h | h | h | h | h <;> subst h <;> omega
  omega
theorem roundsTo_bd {W H : Nat} {share : Int} {ks : List Int} (hk : Within ks 16384) (h0 : 0 ≤ share) (h1 : share ≤ 4) (ps : List (Nat × Nat)) : Within (roundsTo W H share ks ps) (16384 + 32776 * ps.length) := by
  suffices ∀ (cs : List Int) (M : Nat), Within cs M → Within (ps.foldl (round1 W H share ks) cs) (M + 32776 * ps.length) from this ks _ hk
  induction ps with
  | nil => intro cs M h; simpa using h
  | cons p ps ih =>
    intro cs M h
    have h2 : Within (round1 W H share ks cs p) (M + 32776) := (h.give (gift_bd (hk _) h0 h1).1 _).mono (by have := nbrsTo_len W H p.1 p.2 4; have e : 2 * 4097 * (nbrsTo W H p.1 p.2 4).length ≤ 2 * 4097 * 4 := Nat.mul_le_mul (Nat.le_refl _) this; omega)
    have h3 := ih _ _ h2
    rw [List.foldl_cons]
    exact h3.mono (by rw [List.length_cons, Nat.mul_succ]; omega)
end Go.Proofs.YtpmjiifdnnhecaaGreatDoor

/-
  Plain mathematics of spreading: what each cell has behind all rounds; sums over a grid.
-/

namespace Go.Proofs.YtpmjiifdnnhecaaGreatDoor
open Go.RowKit
set_option linter.unusedVariables false

/-! ### Sums -/
def sumTo : Nat → (Nat → Int) → Int
  | 0, _ => 0
  | n + 1, f => sumTo n f + f n
theorem sumTo_congr {n : Nat} {f g : Nat → Int} (h : ∀ i, i < n → f i = g i) : sumTo n f = sumTo n g := by
  induction n with
  | zero => rfl
  | succ n ih => simp only [sumTo]; rw [ih fun i hi => h i (by omega), h n (by omega)]
theorem sumTo_add (n : Nat) (f g : Nat → Int) : sumTo n (fun i => f i + g i) = sumTo n f + sumTo n g := by
  induction n with
  | zero => rfl
  | succ n ih => simp only [sumTo]; rw [ih]; omega
theorem sumTo_zero (n : Nat) : sumTo n (fun _ => 0) = 0 := by
  induction n with
  | zero => rfl
  | succ n ih => simp only [sumTo]; rw [ih]; rfl
theorem sumTo_comm (n m : Nat) (f : Nat → Nat → Int) : sumTo n (fun i => sumTo m (fun j => f i j)) = sumTo m (fun j => sumTo n (fun i => f i j)) := by
  induction n with
  | zero => simp only [sumTo]; rw [sumTo_zero]
  | succ n ih => simp only [sumTo]; rw [ih, ← sumTo_add]
theorem sumTo_first (n : Nat) (f : Nat → Int) : sumTo (n + 1) f = f 0 + sumTo n (fun i => f (i + 1)) := by
  induction n with
  | zero => simp [sumTo]
  | succ n ih => rw [sumTo, ih]; simp only [sumTo]; omega
theorem sumTo_rev (n : Nat) (f : Nat → Int) : sumTo n (fun i => f (n - 1 - i)) = sumTo n f := by
  induction n with
  | zero => rfl
  | succ n ih =>
    rw [sumTo_first]
    have e : sumTo n (fun i => f (n + 1 - 1 - (i + 1))) = sumTo n (fun i => f (n - 1 - i)) := sumTo_congr fun i hi => by congr 1; omega
    rw [e, ih]
    simp only [sumTo]
    have : n + 1 - 1 - 0 = n := by omega
    rw [this]; omega
theorem sumTo_split (n m : Nat) (f : Nat → Int) : sumTo (n + m) f = sumTo n f + sumTo m (fun i => f (n + i)) := by
  induction m with
  | zero => simp [sumTo]
  | succ m ih => rw [← Nat.add_assoc]; simp only [sumTo]; rw [ih]; omega
theorem sumTo_grid (H W : Nat) (f : Nat → Int) : sumTo (H * W) f = sumTo H (fun y => sumTo W (fun x => f (y * W + x))) := by
  induction H with
  | zero => simp [sumTo]
  | succ H ih => rw [Nat.succ_mul, sumTo_split, ih]; simp only [sumTo]
theorem sumTo_one (n a : Nat) (c : Nat → Int) : sumTo n (fun i => if i = a then c i else 0) = if a < n then c a else 0 := by
  induction n with
  | zero => simp [sumTo]
  | succ n ih =>
    simp only [sumTo]
    rw [ih]
    by_cases h : n = a
    · subst h; simp
    · rw [if_neg h]
      by_cases h2 : a < n
      · rw [if_pos h2, if_pos (by omega)]; omega
      · rw [if_neg h2, if_neg (by omega)]; omega
theorem sum_range (n : Nat) (f : Nat → Int) : ((List.range n).map f).sum = sumTo n f := by
  induction n with
  | zero => rfl
  | succ n ih => rw [List.range_succ, List.map_append, List.sum_append, ih]; simp [sumTo]
theorem sum_get (ks : List Int) : ks.sum = sumTo ks.length (fun j => ks[j]?.getD 0) := by
  have h : (List.range ks.length).map (fun j => ks[j]?.getD 0) = ks := by
    refine List.ext_getElem (by simp) fun i h1 h2 => ?_
    simp [h2]
  rw [← sum_range, h]

/-! ### What each round adds -/
theorem addAt_get (cs : List Int) (j : Nat) (d : Int) (hj : j < cs.length) (i : Nat) : (addAt cs j d)[i]?.getD 0 = cs[i]?.getD 0 + if i = j then d else 0 := by
  unfold addAt
  rw [List.getElem?_set]
  by_cases h : j = i
  · subst h; rw [if_pos rfl, if_pos hj, if_pos rfl]; rfl
  · rw [if_neg h, if_neg (fun e => h e.symm)]; omega
theorem addAt_len (cs : List Int) (j : Nat) (d : Int) : (addAt cs j d).length = cs.length := by simp [addAt]
/-- What one neighbour turns at the index i. -/
def turn1 (W j : Nat) (g : Int) (i : Nat) (q : Int × Int) : Int := (if i = j then -g else 0) + (if i = idx W q then g else 0)
theorem giveTo_get (W j : Nat) (g : Int) (i : Nat) : ∀ (qs : List (Int × Int)) (cs : List Int), j < cs.length → (∀ q ∈ qs, idx W q < cs.length) → (giveTo W j g qs cs)[i]?.getD 0 = cs[i]?.getD 0 + (qs.map (turn1 W j g i)).sum
  | [], cs, _, _ => by simp [giveTo]
  | q :: qs, cs, hj, hq => by
    have h1 : (give1 W j g cs q).length = cs.length := by simp [give1, addAt_len]
    have ih := giveTo_get W j g i qs (give1 W j g cs q) (by rw [h1]; exact hj) (fun p hp => by rw [h1]; exact hq p (by simp [hp]))
    show (giveTo W j g qs (give1 W j g cs q))[i]?.getD 0 = _
    rw [ih]
    unfold give1
    rw [addAt_get _ _ _ (by rw [addAt_len]; exact hq q (by simp)), addAt_get _ _ _ hj]
    simp only [List.map_cons, List.sum_cons, turn1]
    omega
theorem giveTo_sum (W j : Nat) (g : Int) : ∀ (qs : List (Int × Int)) (cs : List Int), j < cs.length → (∀ q ∈ qs, idx W q < cs.length) → (giveTo W j g qs cs).sum = cs.sum
  | [], cs, _, _ => rfl
  | q :: qs, cs, hj, hq => by
    have h1 : (give1 W j g cs q).length = cs.length := by simp [give1, addAt_len]
    have ih := giveTo_sum W j g qs (give1 W j g cs q) (by rw [h1]; exact hj) (fun p hp => by rw [h1]; exact hq p (by simp [hp]))
    show (giveTo W j g qs (give1 W j g cs q)).sum = _
    rw [ih]
    have hs : ∀ (cs : List Int) (j : Nat) (d : Int), j < cs.length → (addAt cs j d).sum = cs.sum + d := by
      intro cs j d hj
      rw [sum_get, sum_get cs, addAt_len, sumTo_congr (g := fun i => cs[i]?.getD 0 + if i = j then d else 0) (fun i hi => addAt_get cs j d hj i), sumTo_add, sumTo_one _ j (fun _ => d), if_pos hj]
    unfold give1
    rw [hs _ _ _ (by rw [addAt_len]; exact hq q (by simp)), hs _ _ _ hj]
    omega
end Go.Proofs.YtpmjiifdnnhecaaGreatDoor

/-
  Plain mathematics of spreading: the cell of each place behind all rounds, in closed form.
-/

namespace Go.Proofs.YtpmjiifdnnhecaaGreatDoor
open Go.RowKit
set_option linter.unusedVariables false

theorem sum_filter {α : Type} (p : α → Bool) (f : α → Int) (l : List α) : ((l.filter p).map f).sum = (l.map (fun a => if p a then f a else 0)).sum := by
  induction l with
  | nil => rfl
  | cons a l ih =>
    rw [List.filter_cons]
    by_cases h : p a = true
    · rw [if_pos h]; simp only [List.map_cons, List.sum_cons, ih, if_pos h]
    · rw [if_neg h]; simp only [List.map_cons, List.sum_cons, ih, if_neg h]; omega

def giftOf (W : Nat) (s : Int) (ks : List Int) (p : Nat × Nat) : Int := ks[p.2 * W + p.1]?.getD 0 * s / 16
def turnsAt (W H : Nat) (s : Int) (ks : List Int) (i : Nat) (p : Nat × Nat) : Int := ((nbrsTo W H p.1 p.2 4).map (turn1 W (p.2 * W + p.1) (giftOf W s ks p) i)).sum
theorem idx_in {W H : Nat} {q : Int × Int} (h : 0 ≤ q.1 ∧ q.1 < W ∧ 0 ≤ q.2 ∧ q.2 < H) : idx W q < H * W := by
  obtain ⟨h1, h2, h3, h4⟩ := h
  obtain ⟨x, hx⟩ := Int.eq_ofNat_of_zero_le h1
  obtain ⟨y, hy⟩ := Int.eq_ofNat_of_zero_le h3
  have hx' : x < W := by omega
  have hy' : y < H := by omega
  unfold idx
  rw [hx, hy]
  have h5 : (y + 1) * W ≤ H * W := Nat.mul_le_mul_right W (by omega)
  rw [Nat.succ_mul] at h5
  have e : (y : Int) * (W : Int) + (x : Int) = ((y * W + x : Nat) : Int) := by push_cast; rfl
  rw [e, Int.toNat_natCast]
  omega
theorem place_in {W H x y : Nat} (hx : x < W) (hy : y < H) : y * W + x < H * W := by
  have h5 : (y + 1) * W ≤ H * W := Nat.mul_le_mul_right W (by omega)
  rw [Nat.succ_mul] at h5
  omega
theorem rounds_get (W H : Nat) (s : Int) (ks : List Int) (hk : ks.length = H * W) (i : Nat) (ps : List (Nat × Nat)) (hp : ∀ p ∈ ps, p.1 < W ∧ p.2 < H) :
    (roundsTo W H s ks ps)[i]?.getD 0 = ks[i]?.getD 0 + (ps.map (turnsAt W H s ks i)).sum := by
  suffices h : ∀ cs : List Int, cs.length = H * W → (ps.foldl (round1 W H s ks) cs)[i]?.getD 0 = cs[i]?.getD 0 + (ps.map (turnsAt W H s ks i)).sum from h ks hk
  clear hk
  induction ps with
  | nil => intro cs _; simp
  | cons p ps ih =>
    intro cs hc
    have hin := hp p (by simp)
    have h1 : (round1 W H s ks cs p).length = H * W := by unfold round1; rw [give_len]; exact hc
    rw [List.foldl_cons, ih (fun q hq => hp q (by simp [hq])) _ h1]
    unfold round1
    rw [giveTo_get _ _ _ _ _ _ (by rw [hc]; exact place_in hin.1 hin.2) (fun q hq => by rw [hc]; exact idx_in (nbrs_in hq))]
    simp only [List.map_cons, List.sum_cons, turnsAt, giftOf]
    omega
theorem rounds_sum (W H : Nat) (s : Int) (ks : List Int) (hk : ks.length = H * W) (ps : List (Nat × Nat)) (hp : ∀ p ∈ ps, p.1 < W ∧ p.2 < H) : (roundsTo W H s ks ps).sum = ks.sum := by
  suffices h : ∀ cs : List Int, cs.length = H * W → (ps.foldl (round1 W H s ks) cs).sum = cs.sum from h ks hk
  clear hk
  induction ps with
  | nil => intro cs _; rfl
  | cons p ps ih =>
    intro cs hc
    have hin := hp p (by simp)
    have h1 : (round1 W H s ks cs p).length = H * W := by unfold round1; rw [give_len]; exact hc
    rw [List.foldl_cons, ih (fun q hq => hp q (by simp [hq])) _ h1]
    unfold round1
    exact giveTo_sum _ _ _ _ _ (by rw [hc]; exact place_in hin.1 hin.2) (fun q hq => by rw [hc]; exact idx_in (nbrs_in hq))

/-- The cell of a place. -/
def cellK (W : Nat) (ks : List Int) (x y : Nat) : Int := ks[y * W + x]?.getD 0
def gK (W : Nat) (s : Int) (ks : List Int) (x y : Nat) : Int := cellK W ks x y * s / 16
/-- What a place has behind all rounds. -/
def spAt (W H : Nat) (g : Nat → Nat → Int) (X Y : Nat) : Int :=
  ((if 1 ≤ X then -g X Y else 0) + (if X + 1 < W then g (X + 1) Y else 0)) + ((if X + 1 < W then -g X Y else 0) + (if 1 ≤ X then g (X - 1) Y else 0)) +
  ((if 1 ≤ Y then -g X Y else 0) + (if Y + 1 < H then g X (Y + 1) else 0)) + ((if Y + 1 < H then -g X Y else 0) + (if 1 ≤ Y then g X (Y - 1) else 0))

theorem idx_eq {W x y X Y : Nat} (hx : x < W) (hX : X < W) : Y * W + X = y * W + x ↔ x = X ∧ y = Y := by
  constructor
  · intro h
    have h1 : (Y * W + X) % W = X := by rw [Nat.mul_comm, Nat.mul_add_mod]; exact Nat.mod_eq_of_lt hX
    have h2 : (y * W + x) % W = x := by rw [Nat.mul_comm, Nat.mul_add_mod]; exact Nat.mod_eq_of_lt hx
    have h3 : (Y * W + X) / W = Y := by rw [Nat.mul_comm, Nat.mul_add_div (by omega), Nat.div_eq_of_lt hX]; rfl
    have h4 : (y * W + x) / W = y := by rw [Nat.mul_comm, Nat.mul_add_div (by omega), Nat.div_eq_of_lt hx]; rfl
    rw [h] at h1 h3
    exact ⟨by omega, by omega⟩
  · rintro ⟨rfl, rfl⟩; rfl
/-- An indicator of one place, summed over the grid. -/
theorem sum_place (W H a b : Nat) (c : Nat → Nat → Int) : sumTo H (fun y => sumTo W (fun x => if x = a ∧ y = b then c x y else 0)) = if a < W ∧ b < H then c a b else 0 := by
  have h1 : ∀ y, sumTo W (fun x => if x = a ∧ y = b then c x y else 0) = if y = b then (if a < W then c a y else 0) else 0 := fun y => by
    by_cases h : y = b
    · simp only [h, and_true, if_true]; exact sumTo_one W a (fun x => c x b)
    · simp only [h, and_false, if_false]; exact sumTo_zero W
  rw [sumTo_congr (fun y _ => h1 y), sumTo_one H b (fun y => if a < W then c a y else 0)]
  by_cases ha : a < W <;> by_cases hb : b < H <;> simp [ha, hb]

/-- One direction's part. -/
def partD (W H : Nat) (g : Int) (i x y : Nat) (d : Int × Int) : Int := if insideB W H ((x : Int) + d.1, (y : Int) + d.2) = true then turn1 W (y * W + x) g i ((x : Int) + d.1, (y : Int) + d.2) else 0
theorem turnsAt_parts (W H : Nat) (s : Int) (ks : List Int) (i x y : Nat) :
    turnsAt W H s ks i (x, y) = partD W H (gK W s ks x y) i x y (-1, 0) + partD W H (gK W s ks x y) i x y (1, 0) + (partD W H (gK W s ks x y) i x y (0, -1) + partD W H (gK W s ks x y) i x y (0, 1)) := by
  unfold turnsAt nbrsTo
  rw [sum_filter]
  simp only [dirsL, List.take, List.map_cons, List.map_nil, List.sum_cons, List.sum_nil]
  show partD W H (gK W s ks x y) i x y (-1, 0) + (partD W H (gK W s ks x y) i x y (1, 0) + (partD W H (gK W s ks x y) i x y (0, -1) + (partD W H (gK W s ks x y) i x y (0, 1) + 0))) = _
  omega

theorem idx_nat (W x y : Nat) : idx W ((x : Int), (y : Int)) = y * W + x := by
  unfold idx
  have e : (y : Int) * (W : Int) + (x : Int) = ((y * W + x : Nat) : Int) := by push_cast; rfl
  show ((y : Int) * (W : Int) + (x : Int)).toNat = _
  rw [e]; omega
theorem inside_nat (W H x y : Nat) : insideB W H ((x : Int), (y : Int)) = decide (x < W ∧ y < H) := by
  rw [Bool.eq_iff_iff]; simp [insideB]

theorem part_left {W H X Y x y : Nat} (hX : X < W) (hx : x < W) (hy : y < H) (g : Int) :
    partD W H g (Y * W + X) x y (-1, 0) = (if x = X ∧ y = Y then (if 1 ≤ X then -g else 0) else 0) + (if x = X + 1 ∧ y = Y then g else 0) := by
  unfold partD
  cases x with
  | zero =>
    have h : insideB W H (((0 : Nat) : Int) + -1, (y : Int) + 0) = false := by simp [insideB]
    rw [h]
    by_cases h1 : 0 = X ∧ y = Y
    · obtain ⟨rfl, rfl⟩ := h1; simp
    · simp [h1]
  | succ x =>
    have e : (((x + 1 : Nat) : Int) + -1, (y : Int) + 0) = ((x : Int), (y : Int)) := by ext <;> simp <;> omega
    rw [e, inside_nat, turn1, idx_nat]
    have h1 : x < W ∧ y < H := ⟨by omega, hy⟩
    simp only [h1, and_self, decide_true, if_true, idx_eq hx hX, idx_eq h1.1 hX]
    congr 1
    · by_cases h : x + 1 = X ∧ y = Y
      · rw [if_pos h, if_pos h, if_pos (by omega)]
      · rw [if_neg h, if_neg h]
    · simp only [Nat.add_right_cancel_iff]
theorem part_right {W H X Y x y : Nat} (hX : X < W) (hx : x < W) (hy : y < H) (g : Int) :
    partD W H g (Y * W + X) x y (1, 0) = (if x = X ∧ y = Y then (if X + 1 < W then -g else 0) else 0) + (if x = X - 1 ∧ y = Y then (if 1 ≤ X then g else 0) else 0) := by
  unfold partD
  have e : ((x : Int) + 1, (y : Int) + 0) = (((x + 1 : Nat) : Int), (y : Int)) := by ext <;> simp
  show (if insideB W H ((x : Int) + 1, (y : Int) + 0) = true then turn1 W (y * W + x) g (Y * W + X) ((x : Int) + 1, (y : Int) + 0) else 0) = _
  rw [e, inside_nat, turn1, idx_nat]
  by_cases h1 : x + 1 < W
  · have h2 : x + 1 < W ∧ y < H := ⟨h1, hy⟩
    simp only [h2, and_self, decide_true, if_true, idx_eq hx hX, idx_eq h1 hX]
    congr 1
    · by_cases h : x = X ∧ y = Y
      · rw [if_pos h, if_pos h, if_pos (by omega)]
      · rw [if_neg h, if_neg h]
    · by_cases h : x + 1 = X ∧ y = Y
      · rw [if_pos h, if_pos ⟨by omega, h.2⟩, if_pos (by omega)]
      · rw [if_neg h]
        by_cases h3 : x = X - 1 ∧ y = Y
        · rw [if_pos h3, if_neg (by omega)]
        · rw [if_neg h3]
  · have h2 : ¬ (x + 1 < W ∧ y < H) := fun h => h1 h.1
    simp only [h2, decide_false, Bool.false_eq_true, if_false]
    by_cases h : x = X ∧ y = Y
    · rw [if_pos h, if_neg (by omega)]
      by_cases h3 : x = X - 1 ∧ y = Y
      · rw [if_pos h3, if_neg (by omega)]; rfl
      · rw [if_neg h3]; rfl
    · rw [if_neg h]
      by_cases h3 : x = X - 1 ∧ y = Y
      · rw [if_pos h3, if_neg (by omega)]; rfl
      · rw [if_neg h3]; rfl
theorem part_up {W H X Y x y : Nat} (hX : X < W) (hx : x < W) (hy : y < H) (g : Int) :
    partD W H g (Y * W + X) x y (0, -1) = (if x = X ∧ y = Y then (if 1 ≤ Y then -g else 0) else 0) + (if x = X ∧ y = Y + 1 then g else 0) := by
  unfold partD
  cases y with
  | zero =>
    have h : insideB W H ((x : Int) + 0, ((0 : Nat) : Int) + -1) = false := by simp [insideB]
    rw [h]
    by_cases h1 : x = X ∧ 0 = Y
    · obtain ⟨rfl, rfl⟩ := h1; simp
    · simp [h1]
  | succ y =>
    have e : ((x : Int) + 0, ((y + 1 : Nat) : Int) + -1) = ((x : Int), (y : Int)) := by ext <;> simp <;> omega
    rw [e, inside_nat, turn1, idx_nat]
    have h1 : x < W ∧ y < H := ⟨hx, by omega⟩
    simp only [h1, and_self, decide_true, if_true, idx_eq hx hX]
    congr 1
    · by_cases h : x = X ∧ y + 1 = Y
      · rw [if_pos h, if_pos h, if_pos (by omega)]
      · rw [if_neg h, if_neg h]
    · simp only [Nat.add_right_cancel_iff]
theorem part_down {W H X Y x y : Nat} (hX : X < W) (hx : x < W) (hy : y < H) (hY : Y < H) (g : Int) :
    partD W H g (Y * W + X) x y (0, 1) = (if x = X ∧ y = Y then (if Y + 1 < H then -g else 0) else 0) + (if x = X ∧ y = Y - 1 then (if 1 ≤ Y then g else 0) else 0) := by
  unfold partD
  have e : ((x : Int) + 0, (y : Int) + 1) = ((x : Int), ((y + 1 : Nat) : Int)) := by ext <;> simp
  show (if insideB W H ((x : Int) + 0, (y : Int) + 1) = true then turn1 W (y * W + x) g (Y * W + X) ((x : Int) + 0, (y : Int) + 1) else 0) = _
  rw [e, inside_nat, turn1, idx_nat]
  by_cases h1 : y + 1 < H
  · have h2 : x < W ∧ y + 1 < H := ⟨hx, h1⟩
    simp only [h2, and_self, decide_true, if_true, idx_eq hx hX]
    congr 1
    · by_cases h : x = X ∧ y = Y
      · rw [if_pos h, if_pos h, if_pos (by omega)]
      · rw [if_neg h, if_neg h]
    · by_cases h : x = X ∧ y + 1 = Y
      · rw [if_pos h, if_pos ⟨h.1, by omega⟩, if_pos (by omega)]
      · rw [if_neg h]
        by_cases h3 : x = X ∧ y = Y - 1
        · rw [if_pos h3, if_neg (by omega)]
        · rw [if_neg h3]
  · have h2 : ¬ (x < W ∧ y + 1 < H) := fun h => h1 h.2
    simp only [h2, decide_false, Bool.false_eq_true, if_false]
    by_cases h : x = X ∧ y = Y
    · rw [if_pos h, if_neg (by omega)]
      by_cases h3 : x = X ∧ y = Y - 1
      · rw [if_pos h3, if_neg (by omega)]; rfl
      · rw [if_neg h3]; rfl
    · rw [if_neg h]
      by_cases h3 : x = X ∧ y = Y - 1
      · rw [if_pos h3, if_neg (by omega)]; rfl
      · rw [if_neg h3]; rfl
end Go.Proofs.YtpmjiifdnnhecaaGreatDoor

/-
  Plain mathematics of maps: spreading in closed form; flips, turns and spreading commute, and keep sums.
-/

namespace Go.Proofs.YtpmjiifdnnhecaaGreatDoor
open Go.RowKit
set_option linter.unusedVariables false

def sum2 (W H : Nat) (f : Nat → Nat → Int) : Int := sumTo H (fun y => sumTo W (fun x => f x y))
theorem sum2_congr {W H : Nat} {f g : Nat → Nat → Int} (h : ∀ x y, x < W → y < H → f x y = g x y) : sum2 W H f = sum2 W H g :=
  sumTo_congr fun y hy => sumTo_congr fun x hx => h x y hx hy
theorem sum2_add (W H : Nat) (f g : Nat → Nat → Int) : sum2 W H (fun x y => f x y + g x y) = sum2 W H f + sum2 W H g := by
  unfold sum2
  rw [← sumTo_add]
  exact sumTo_congr fun y _ => sumTo_add W _ _
theorem sum2_place (W H a b : Nat) (c : Nat → Nat → Int) : sum2 W H (fun x y => if x = a ∧ y = b then c x y else 0) = if a < W ∧ b < H then c a b else 0 := sum_place W H a b c

def gridPlaces (W m : Nat) : List (Nat × Nat) := (List.range m).map (fun i => (i % W, i / W))
theorem mod_of {W x y : Nat} (hx : x < W) : (y * W + x) % W = x := by rw [Nat.mul_comm, Nat.mul_add_mod]; exact Nat.mod_eq_of_lt hx
theorem div_of {W x y : Nat} (hx : x < W) : (y * W + x) / W = y := by rw [Nat.mul_comm, Nat.mul_add_div (by omega), Nat.div_eq_of_lt hx]; rfl

theorem spread_at (W H : Nat) (s : Int) (ks : List Int) (hk : ks.length = H * W) (X Y : Nat) (hX : X < W) (hY : Y < H) :
    cellK W (roundsTo W H s ks (gridPlaces W (H * W))) X Y = cellK W ks X Y + spAt W H (gK W s ks) X Y := by
  have hp : ∀ p ∈ gridPlaces W (H * W), p.1 < W ∧ p.2 < H := fun p hp => by
    obtain ⟨i, hi, rfl⟩ := List.mem_map.1 hp
    exact ⟨Nat.mod_lt _ (by omega), (Nat.div_lt_iff_lt_mul (by omega)).2 (by simpa using hi)⟩
  show (roundsTo W H s ks (gridPlaces W (H * W)))[Y * W + X]?.getD 0 = _
  rw [rounds_get W H s ks hk _ _ hp]
  show cellK W ks X Y + _ = _
  congr 1
  unfold gridPlaces
  rw [List.map_map]
  show ((List.range (H * W)).map (fun i => turnsAt W H s ks (Y * W + X) (i % W, i / W))).sum = _
  rw [sum_range, sumTo_grid]
  show sum2 W H (fun x y => turnsAt W H s ks (Y * W + X) ((y * W + x) % W, (y * W + x) / W)) = _
  have e : ∀ x y, x < W → y < H → turnsAt W H s ks (Y * W + X) ((y * W + x) % W, (y * W + x) / W) =
      ((if x = X ∧ y = Y then (if 1 ≤ X then -gK W s ks x y else 0) else 0) + (if x = X + 1 ∧ y = Y then gK W s ks x y else 0)) +
      ((if x = X ∧ y = Y then (if X + 1 < W then -gK W s ks x y else 0) else 0) + (if x = X - 1 ∧ y = Y then (if 1 ≤ X then gK W s ks x y else 0) else 0)) +
      (((if x = X ∧ y = Y then (if 1 ≤ Y then -gK W s ks x y else 0) else 0) + (if x = X ∧ y = Y + 1 then gK W s ks x y else 0)) +
      ((if x = X ∧ y = Y then (if Y + 1 < H then -gK W s ks x y else 0) else 0) + (if x = X ∧ y = Y - 1 then (if 1 ≤ Y then gK W s ks x y else 0) else 0))) := fun x y hx hy => by
    rw [mod_of hx, div_of hx, turnsAt_parts, part_left hX hx hy, part_right hX hx hy, part_up hX hx hy, part_down hX hx hy hY]
  rw [sum2_congr e]
  simp only [sum2_add]
  rw [sum2_place W H X Y (fun x y => if 1 ≤ X then -gK W s ks x y else 0), sum2_place W H (X + 1) Y (fun x y => gK W s ks x y),
    sum2_place W H X Y (fun x y => if X + 1 < W then -gK W s ks x y else 0), sum2_place W H (X - 1) Y (fun x y => if 1 ≤ X then gK W s ks x y else 0),
    sum2_place W H X Y (fun x y => if 1 ≤ Y then -gK W s ks x y else 0), sum2_place W H X (Y + 1) (fun x y => gK W s ks x y),
    sum2_place W H X Y (fun x y => if Y + 1 < H then -gK W s ks x y else 0), sum2_place W H X (Y - 1) (fun x y => if 1 ≤ Y then gK W s ks x y else 0)]
  have h1 : X - 1 < W ∧ Y < H := ⟨by omega, hY⟩
  have h2 : X < W ∧ Y - 1 < H := ⟨hX, by omega⟩
  simp only [hX, hY, and_self, if_true, h1, h2, and_true, true_and]
  unfold spAt
  omega

/-- Two rows of cells with the same cells. -/
theorem cells_ext {W H : Nat} {l m : List Int} (hl : l.length = H * W) (hm : m.length = H * W) (h : ∀ x y, x < W → y < H → cellK W l x y = cellK W m x y) : l = m := by
  refine List.ext_getElem (by omega) fun i h1 h2 => ?_
  have hW : 0 < W := by
    rcases Nat.eq_zero_or_pos W with h0 | h0
    · rw [h0, Nat.mul_zero] at hl; omega
    · exact h0
  have h3 := h (i % W) (i / W) (Nat.mod_lt _ hW) ((Nat.div_lt_iff_lt_mul hW).2 (by omega))
  unfold cellK at h3
  rw [Nat.mul_comm (i / W) W, Nat.div_add_mod, List.getElem?_eq_getElem h1, List.getElem?_eq_getElem h2] at h3
  exact h3
theorem spread_len (W H : Nat) (s : Int) (ks : List Int) (hk : ks.length = H * W) : (roundsTo W H s ks (gridPlaces W (H * W))).length = H * W := by
  rw [roundsTo_len]; exact hk

def turnK (W H n : Nat) (ks : List Int) : List Int := (List.range n).map (fun j => ks[(H - 1 - j % H) * W + j / H]?.getD 0)
theorem turnK_len (W H n : Nat) (ks : List Int) : (turnK W H n ks).length = n := by simp [turnK]
/-- x is below the height, y below the width: a turned map's own columns and rows. -/
theorem turnK_at {W H : Nat} (ks : List Int) {x y : Nat} (hx : x < H) (hy : y < W) : cellK H (turnK W H (H * W) ks) x y = cellK W ks y (H - 1 - x) := by
  unfold cellK turnK
  rw [List.getElem?_map, List.getElem?_range (by have h := place_in (W := H) (H := W) hx hy; rw [Nat.mul_comm W H] at h; exact h)]
  show ks[(H - 1 - (y * H + x) % H) * W + (y * H + x) / H]?.getD 0 = _
  rw [mod_of hx, div_of hx]

theorem turn_turn (W H : Nat) (ks : List Int) {x y : Nat} (hx : x < W) (hy : y < H) : cellK W (turnK H W (W * H) (turnK W H (H * W) ks)) x y = cellK W ks (W - 1 - x) (H - 1 - y) := by
  rw [turnK_at _ hx hy, turnK_at _ hy (by omega)]
theorem turn_four (W H : Nat) (ks : List Int) (hk : ks.length = H * W) : turnK H W (W * H) (turnK W H (H * W) (turnK H W (W * H) (turnK W H (H * W) ks))) = ks :=
  cells_ext (by rw [turnK_len, Nat.mul_comm]) hk fun x y hx hy => by
    rw [turn_turn _ _ _ hx hy, turn_turn _ _ _ (by omega) (by omega)]
    congr 1 <;> omega

theorem sum_cells (W H : Nat) (ks : List Int) (hk : ks.length = H * W) : ks.sum = sum2 W H (cellK W ks) := by
  rw [sum_get, hk, sumTo_grid]; rfl
theorem turn_sum (W H : Nat) (ks : List Int) (hk : ks.length = H * W) : (turnK W H (H * W) ks).sum = ks.sum := by
  rw [sum_cells H W _ (by rw [turnK_len, Nat.mul_comm]), sum_cells W H ks hk, sum2_congr (fun x y hx hy => turnK_at ks hx hy)]
  unfold sum2
  rw [sumTo_comm H W]
  rw [sumTo_congr (fun y hy => rfl : ∀ y, y < W → sumTo H (fun x => cellK W ks y (H - 1 - x)) = sumTo H (fun x => cellK W ks y (H - 1 - x)))]
  exact sumTo_congr fun y _ => sumTo_rev H (fun x => cellK W ks y x)
theorem spread_sum (W H : Nat) (s : Int) (ks : List Int) (hk : ks.length = H * W) : (roundsTo W H s ks (gridPlaces W (H * W))).sum = ks.sum := by
  refine rounds_sum W H s ks hk _ fun p hp => ?_
  obtain ⟨i, hi, rfl⟩ := List.mem_map.1 hp
  have hi' : i < H * W := by simpa using hi
  have hW : 0 < W := by
    rcases Nat.eq_zero_or_pos W with h0 | h0
    · rw [h0] at hi'; omega
    · exact h0
  exact ⟨Nat.mod_lt _ hW, (Nat.div_lt_iff_lt_mul hW).2 hi'⟩

theorem gK_turn {W H : Nat} (s : Int) (ks : List Int) {x y : Nat} (hx : x < H) (hy : y < W) : gK H s (turnK W H (H * W) ks) x y = gK W s ks y (H - 1 - x) := by
  unfold gK; rw [turnK_at _ hx hy]
theorem spAt_turn (W H : Nat) (g f : Nat → Nat → Int) (h : ∀ x y, x < H → y < W → f x y = g y (H - 1 - x)) {X Y : Nat} (hX : X < H) (hY : Y < W) : spAt H W f X Y = spAt W H g Y (H - 1 - X) := by
  have h0 := h X Y hX hY
  have a1 : (if X + 1 < H then f (X + 1) Y else 0) = (if 1 ≤ H - 1 - X then g Y (H - 1 - X - 1) else 0) := by
    by_cases c : X + 1 < H
    · rw [if_pos c, if_pos (by omega), h _ _ c hY]; first | (congr 1; omega; done) | congr 1
    · rw [if_neg c, if_neg (by omega)]
  have a2 : (if 1 ≤ X then f (X - 1) Y else 0) = (if H - 1 - X + 1 < H then g Y (H - 1 - X + 1) else 0) := by
    by_cases c : 1 ≤ X
    · rw [if_pos c, if_pos (by omega), h _ _ (by omega) hY]; first | (congr 1; omega; done) | congr 1
    · rw [if_neg c, if_neg (by omega)]
  have a3 : (if Y + 1 < W then f X (Y + 1) else 0) = (if Y + 1 < W then g (Y + 1) (H - 1 - X) else 0) := by
    by_cases c : Y + 1 < W
    · rw [if_pos c, if_pos c, h _ _ hX c]
    · rw [if_neg c, if_neg c]
  have a4 : (if 1 ≤ Y then f X (Y - 1) else 0) = (if 1 ≤ Y then g (Y - 1) (H - 1 - X) else 0) := by
    by_cases c : 1 ≤ Y
    · rw [if_pos c, if_pos c, h _ _ hX (by omega)]
    · rw [if_neg c, if_neg c]
  have b1 : (if 1 ≤ X then -f X Y else 0) = (if H - 1 - X + 1 < H then -g Y (H - 1 - X) else 0) := by
    rw [h0]
    by_cases c : 1 ≤ X
    · rw [if_pos c, if_pos (by omega)]
    · rw [if_neg c, if_neg (by omega)]
  have b2 : (if X + 1 < H then -f X Y else 0) = (if 1 ≤ H - 1 - X then -g Y (H - 1 - X) else 0) := by
    rw [h0]
    by_cases c : X + 1 < H
    · rw [if_pos c, if_pos (by omega)]
    · rw [if_neg c, if_neg (by omega)]
  unfold spAt
  rw [a1, a2, a3, a4, b1, b2, h0]
  omega

theorem turn_spread (W H : Nat) (s : Int) (ks : List Int) (hk : ks.length = H * W) :
    turnK W H (H * W) (roundsTo W H s ks (gridPlaces W (H * W))) = roundsTo H W s (turnK W H (H * W) ks) (gridPlaces H (W * H)) :=
  cells_ext (W := H) (H := W) (by rw [turnK_len, Nat.mul_comm]) (spread_len H W s _ (by rw [turnK_len, Nat.mul_comm])) fun x y hx hy => by
    rw [turnK_at _ hx hy, spread_at W H s ks hk _ _ hy (by omega), spread_at H W s _ (by rw [turnK_len, Nat.mul_comm]) _ _ hx hy, turnK_at _ hx hy,
      spAt_turn W H (gK W s ks) _ (fun x y h1 h2 => gK_turn s ks h1 h2) hx hy]
/-- Cells up to 400 are spread to cells that are those of samples. -/
theorem spread_small (W H : Nat) (s : Int) (h0 : 0 ≤ s) (h4 : s ≤ 4) (ks : List Int) (hk : ks.length = H * W) (hb : ∀ x y, x < W → y < H → (cellK W ks x y).natAbs ≤ 6400) {X Y : Nat} (hX : X < W) (hY : Y < H) :
    (cellK W (roundsTo W H s ks (gridPlaces W (H * W))) X Y).natAbs ≤ 16384 := by
  rw [spread_at W H s ks hk _ _ hX hY]
  have hg : ∀ x y, x < W → y < H → -1600 ≤ gK W s ks x y ∧ gK W s ks x y ≤ 1600 := fun x y hx hy => by
    have := hb x y hx hy
    unfold gK
    rcases (show s = 0 ∨ s = 1 ∨ s = 2 ∨ s = 3 ∨ s = 4 by omega) with h | h | h | h | h <;> subst h <;> omega
  have e1 : -1600 ≤ (if X + 1 < W then gK W s ks (X + 1) Y else 0) ∧ (if X + 1 < W then gK W s ks (X + 1) Y else 0) ≤ 1600 := by
    split
    · exact hg _ _ (by assumption) hY
    · omega
  have e2 : -1600 ≤ (if 1 ≤ X then gK W s ks (X - 1) Y else 0) ∧ (if 1 ≤ X then gK W s ks (X - 1) Y else 0) ≤ 1600 := by
    split
    · exact hg _ _ (by omega) hY
    · omega
  have e3 : -1600 ≤ (if Y + 1 < H then gK W s ks X (Y + 1) else 0) ∧ (if Y + 1 < H then gK W s ks X (Y + 1) else 0) ≤ 1600 := by
    split
    · exact hg _ _ hX (by assumption)
    · omega
  have e4 : -1600 ≤ (if 1 ≤ Y then gK W s ks X (Y - 1) else 0) ∧ (if 1 ≤ Y then gK W s ks X (Y - 1) else 0) ≤ 1600 := by
    split
    · exact hg _ _ hX (by omega)
    · omega
  have hK := hb X Y hX hY
  unfold spAt
  generalize (if X + 1 < W then gK W s ks (X + 1) Y else 0) = p1 at e1 ⊢
  generalize (if 1 ≤ X then gK W s ks (X - 1) Y else 0) = p2 at e2 ⊢
  generalize (if Y + 1 < H then gK W s ks X (Y + 1) else 0) = p3 at e3 ⊢
  generalize (if 1 ≤ Y then gK W s ks X (Y - 1) else 0) = p4 at e4 ⊢
  have eg : gK W s ks X Y = cellK W ks X Y * s / 16 := rfl
  rw [eg]
  generalize cellK W ks X Y = k at hK ⊢
  rcases (show s = 0 ∨ s = 1 ∨ s = 2 ∨ s = 3 ∨ s = 4 by omega) with h | h | h | h | h <;> subst h <;> (repeat' split) <;> omega
end Go.Proofs.YtpmjiifdnnhecaaGreatDoor
