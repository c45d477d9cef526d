/-
  Plain mathematics of spreading: neighbours, what each place gives; no program.
-/
import Derived.RowKit
namespace Go.Proofs.Ytfdkmmllemkogaa
open Go.RowKit

/-- The four neighbours' distances, in their order. -/
def dirsL : List (Int × Int) := [(-1, 0), (1, 0), (0, -1), (0, 1)]
def insideB (W H : Nat) (q : Int × Int) : Bool := decide (0 ≤ q.1) && (decide (q.1 < W) && (decide (0 ≤ q.2) && decide (q.2 < H)))
/-- The neighbours of a place, of the first k distances. -/
def nbrsTo (W H : Nat) (x y : Int) (k : Nat) : List (Int × Int) := ((dirsL.take k).map (fun d => (x + d.1, y + d.2))).filter (insideB W H)
theorem nbrsTo_succ (W H : Nat) (x y : Int) (k : Nat) (hk : k < 4) : nbrsTo W H x y (k + 1) = if insideB W H (x + (dirsL[k]?.getD (0, 0)).1, y + (dirsL[k]?.getD (0, 0)).2) = true then nbrsTo W H x y k ++ [(x + (dirsL[k]?.getD (0, 0)).1, y + (dirsL[k]?.getD (0, 0)).2)] else nbrsTo W H x y k := by
  have hl : k < dirsL.length := hk
  rw [nbrsTo, List.take_succ_eq_append_getElem hl, List.getElem?_eq_getElem hl]
  simp only [nbrsTo, List.map_append, List.filter_append, List.map_cons, List.map_nil, List.filter_cons, List.filter_nil, Option.getD_some]
  split <;> simp
theorem nbrsTo_len (W H : Nat) (x y : Int) (k : Nat) : (nbrsTo W H x y k).length ≤ 4 := by
  refine Nat.le_trans (List.length_filter_le _ _) ?_
  simp [dirsL]; omega
theorem nbrs_in {W H : Nat} {x y : Int} {k : Nat} {q : Int × Int} (h : q ∈ nbrsTo W H x y k) : 0 ≤ q.1 ∧ q.1 < W ∧ 0 ≤ q.2 ∧ q.2 < H := by
  have := (List.mem_filter.1 h).2
  simpa [insideB] using this
/-- The index of a place. -/
def idx (W : Nat) (q : Int × Int) : Nat := (q.2 * W + q.1).toNat
def addAt (cs : List Int) (j : Nat) (d : Int) : List Int := cs.set j (cs[j]?.getD 0 + d)
/-- What a place gives to one neighbour. -/
def give1 (W j : Nat) (gift : Int) (cs : List Int) (q : Int × Int) : List Int := addAt (addAt cs j (-gift)) (idx W q) gift
def giveTo (W j : Nat) (gift : Int) (qs : List (Int × Int)) (cs : List Int) : List Int := qs.foldl (give1 W j gift) cs
theorem give_len (W j : Nat) (gift : Int) (qs : List (Int × Int)) : ∀ cs : List Int, (giveTo W j gift qs cs).length = cs.length := by
  induction qs with
  | nil => intro cs; rfl
  | cons q qs ih => intro cs; show (giveTo W j gift qs (give1 W j gift cs q)).length = _; rw [ih]; simp [give1, addAt]
/-- A place's round. -/
def round1 (W H : Nat) (share : Int) (ks : List Int) (cs : List Int) (p : Nat × Nat) : List Int :=
  giveTo W (p.2 * W + p.1) (ks[p.2 * W + p.1]?.getD 0 * share / 16) (nbrsTo W H p.1 p.2 4) cs
def roundsTo (W H : Nat) (share : Int) (ks : List Int) (ps : List (Nat × Nat)) : List Int := ps.foldl (round1 W H share ks) ks
theorem roundsTo_snoc (W H : Nat) (share : Int) (ks : List Int) (ps : List (Nat × Nat)) (p : Nat × Nat) : roundsTo W H share ks (ps ++ [p]) = round1 W H share ks (roundsTo W H share ks ps) p := by
  simp [roundsTo]
theorem roundsTo_len (W H : Nat) (share : Int) (ks : List Int) (ps : List (Nat × Nat)) : (roundsTo W H share ks ps).length = ks.length := by
  suffices ∀ cs : List Int, (ps.foldl (round1 W H share ks) cs).length = cs.length from this ks
  induction ps with
  | nil => intro cs; rfl
  | cons p ps ih => intro cs; rw [List.foldl_cons, ih]; exact give_len _ _ _ _ _
/-- No integer of a list is greater than a bound. -/
def Within (cs : List Int) (M : Nat) : Prop := ∀ j : Nat, ((cs[j]?.getD 0 : Int)).natAbs ≤ M
theorem Within.add {cs : List Int} {M G : Nat} (h : Within cs M) (j : Nat) (d : Int) (hd : d.natAbs ≤ G) : Within (addAt cs j d) (M + G) := fun i => by
  unfold addAt
  rw [List.getElem?_set]
  split
  · split
    · rename_i h1 h2; have := h j; simp only [Option.getD_some]; omega
    · simp
  · exact Nat.le_trans (h i) (by omega)
theorem Within.give {W j : Nat} {gift : Int} {G : Nat} (hg : gift.natAbs ≤ G) (qs : List (Int × Int)) : ∀ {cs : List Int} {M : Nat}, Within cs M → Within (giveTo W j gift qs cs) (M + 2 * G * qs.length) := by
  induction qs with
  | nil => intro cs M h; simpa [giveTo] using h
  | cons q qs ih =>
    intro cs M h
    have h1 : Within (give1 W j gift cs q) (M + G + G) := (h.add j (-gift) (by omega)).add _ gift hg
    have h2 := ih h1
    have e : M + G + G + 2 * G * qs.length = M + 2 * G * (q :: qs).length := by rw [List.length_cons, Nat.mul_succ]; omega
    rw [e] at h2; exact h2
theorem Within.mono {cs : List Int} {M N : Nat} (h : Within cs M) (hn : M ≤ N) : Within cs N := fun j => Nat.le_trans (h j) hn
theorem gift_bd {k share : Int} (hk : k.natAbs ≤ 16384) (h0 : 0 ≤ share) (h1 : share ≤ 4) : (k * share / 16).natAbs ≤ 4097 ∧ -65536 ≤ k * share ∧ k * share ≤ 65536 := by
  have a : k * share ≤ 16384 * 4 := by
    rcases (show share = 0 ∨ share = 1 ∨ share = 2 ∨ share = 3 ∨ share = 4 by omega) with h | h | h | h | h <;> subst h <;> omega
  have b : -(16384 * 4) ≤ k * share := by
    rcases (show share = 0 ∨ share = 1 ∨ share = 2 ∨ share = 3 ∨ share = 4 by omega) with h | h | h | h | h <;> subst h <;> omega
  omega
theorem roundsTo_bd {W H : Nat} {share : Int} {ks : List Int} (hk : Within ks 16384) (h0 : 0 ≤ share) (h1 : share ≤ 4) (ps : List (Nat × Nat)) : Within (roundsTo W H share ks ps) (16384 + 32776 * ps.length) := by
  suffices ∀ (cs : List Int) (M : Nat), Within cs M → Within (ps.foldl (round1 W H share ks) cs) (M + 32776 * ps.length) from this ks _ hk
  induction ps with
  | nil => intro cs M h; simpa using h
  | cons p ps ih =>
    intro cs M h
    have h2 : Within (round1 W H share ks cs p) (M + 32776) := (h.give (gift_bd (hk _) h0 h1).1 _).mono (by have := nbrsTo_len W H p.1 p.2 4; have e : 2 * 4097 * (nbrsTo W H p.1 p.2 4).length ≤ 2 * 4097 * 4 := Nat.mul_le_mul (Nat.le_refl _) this; omega)
    have h3 := ih _ _ h2
    rw [List.foldl_cons]
    exact h3.mono (by rw [List.length_cons, Nat.mul_succ]; omega)
end Go.Proofs.Ytfdkmmllemkogaa
