/-
  Contracts of Turned's literal and of Turned for a right map: the map that is turned to the right.
-/
import Derived.Test.YtfdkmmllemkogaaGreatDoorOXf
import Derived.Test.YtfdkmmllemkogaaGreatDoorOWv
import Derived.RowKit
import Derived.Test.YtfdkmmllemkogaaGreatDoorOWf
import Derived.Test.YtfdkmmllemkogaaGreatDoorOWk
namespace Go.Proofs.YtfdkmmllemkogaaGreatDoor
open Go.RowKit
set_option linter.unusedVariables false

set_option maxRecDepth 100000 in
set_option maxHeartbeats 3200000 in
theorem turned1_any (W H X Y : Nat) (g n c g7 : Nat) (v : Int) (hW : W ≤ 64) (hH : H ≤ 64) (hX : X < H) (hY : Y < W) (w : World)
    (hn : (H - 1 - X) * W + Y < n) (g7l : g7 < w.heap.size) (gl : g < w.heap.size) (hA : GridAt w g7 W H g n c)
    (hc : w.cell? ⟨g, (H - 1 - X) * W + Y, none⟩ = some (.int .i64 v)) :
    Calls Tryz.prog 139 #[.agg #[.int .i64 X, .int .i64 Y], .pointer (some ⟨g7, 0, none⟩)] w fun e w' => e = .returned (.int .i64 v) ∧ Below w.heap.size w w' := by
  obtain ⟨a0, a1, a2⟩ := hA
  have m1 : (H - 1 - X) * W ≤ 64 * 64 := Nat.mul_le_mul (by omega) hW
  have eZ : ((H : Int) - 1 - (X : Int)) = ((H - 1 - X : Nat) : Int) := by omega
  have e2 : ((H : Int) - 1 - (X : Int)) * (W : Int) = (((H - 1 - X) * W : Nat) : Int) := by rw [eZ]; push_cast; rfl
  have e1 : (((H : Int) - 1 - (X : Int)) * (W : Int) + (Y : Int)).toNat = (H - 1 - X) * W + Y := by rw [e2]; omega
  have K : ∀ w1 : World, Below w.heap.size w w1 → Calls Tryz.prog 126 #[.agg #[.int .i64 W, .int .i64 H, .slice (some ⟨g, 0, none⟩) n c], .agg #[.int .i64 Y, .int .i64 ((H : Int) - 1 - (X : Int))]] w1 fun e w' => e = .returned (.int .i64 v) ∧ Below w1.heap.size w1 w' := fun w1 h => by
    have hs := h.size
    exact at_any W H Y ((H : Int) - 1 - (X : Int)) g n c v (by omega) (by omega) (by omega) (by rw [e2]; omega) w1 (by rw [e2]; omega) (by omega) (by rw [e1]; exact (h.cell (p := ⟨g, _, none⟩) gl).trans hc)
  have HK := Lib.hid K
  have n0 := World.new_ne w _ a0
  have i1 : (H : Int) ≤ 64 := by omega
  have i2 : (X : Int) < (H : Int) := by omega
  clear K e1 e2 eZ hc
  go_enter Tryz.func139, Tryz.ntmps139
  go_wp2_with (go_at_call 126; refine (HK.out _ ((Below.refl _ w).alloc (Nat.le_refl _) _)).mono ?_; rintro e w' ⟨rfl, hb1⟩)
  go_ret
  exact ⟨rfl, ((Below.refl _ w).alloc (Nat.le_refl _) _).trans (hb1.mono (by simp))⟩

set_option maxRecDepth 100000 in
set_option maxHeartbeats 3200000 in
theorem turned_any (W H : Nat) (b o n c : Nat) (xs : List Nat) (ks : List Int) (w : World) (hA : RightMap w W H b o n xs ks) (hb : b < w.heap.size) :
    Calls Tryz.prog 57 #[.agg #[.int .i64 W, .int .i64 H, .slice (some ⟨b, o, none⟩) n c]] w fun e w' =>
      ∃ g, e = .returned (.tuple #[.agg #[.int .i64 H, .int .i64 W, .slice (some ⟨g, 0, none⟩) n n], .int .i64 0]) ∧ g < w'.heap.size ∧
        (∀ j, j < n → w'.cell? ⟨g, j, none⟩ = some (.float .f32 (smpOf (ks[(H - 1 - j % H) * W + j / H]?.getD 0)))) ∧ Below w.heap.size w w' := by
  obtain ⟨W0, hW0⟩ : ∃ W0, (w.alloc (.cells #[.int .i64 W, .int .i64 H, .slice (some ⟨b, o, none⟩) n c] 54)).alloc (.cells #[.int .i64 0, .int .i64 0, .slice none 0 0] 54) = W0 := ⟨_, rfl⟩
  have hB0 : Below w.heap.size w W0 := by rw [← hW0]; exact ((Below.refl _ w).alloc (Nat.le_refl _) _).alloc (by simp) _
  have hS0 : W0.heap.size = w.heap.size + 2 := by rw [← hW0]; simp
  have a0 : W0.cell? ⟨w.heap.size, 0, none⟩ = some (.int .i64 W) := by rw [← hW0]; simp [go_sem]
  have a1 : W0.cell? ⟨w.heap.size, 1, none⟩ = some (.int .i64 H) := by rw [← hW0]; simp [go_sem]
  have a2 : W0.cell? ⟨w.heap.size, 2, none⟩ = some (.slice (some ⟨b, o, none⟩) n c) := by rw [← hW0]; simp [go_sem]
  have z0 : W0.cell? ⟨w.heap.size + 1, 0, none⟩ = some (.int .i64 0) := by rw [← hW0]; simp [go_sem]
  have z1 : W0.cell? ⟨w.heap.size + 1, 1, none⟩ = some (.int .i64 0) := by rw [← hW0]; simp [go_sem]
  have z2 : W0.cell? ⟨w.heap.size + 1, 2, none⟩ = some (.slice none 0 0) := by rw [← hW0]; simp [go_sem]
  have zf : ∀ j, W0.frozen? ⟨w.heap.size + 1, j, none⟩ = false := fun j => by rw [← hW0]; simp [go_sem]
  have K1 := Lib.hid (checkMap_any W H b o n c xs ks W0 (hA.below hB0 hb) (by omega))
  have K2 : Hid (∀ w1 : World, Below W0.heap.size W0 w1 → Calls Tryz.prog 123 #[.agg #[.int .i64 W, .int .i64 H, .slice (some ⟨b, o, none⟩) n c]] w1 fun e w' =>
      ∃ g, e = .returned (.agg #[.int .i64 W, .int .i64 H, .slice (some ⟨g, 0, none⟩) n n]) ∧ w1.heap.size ≤ g ∧ RowAt w' g n ks ∧ Below w1.heap.size w1 w') := Lib.hid (fun w1 h => by
    have h1 := h.size
    have h2 := hB0.trans (h.mono (by omega))
    exact grid_row W H b o n c xs ks w1 (hA.below h2 hb).toWords (by omega))
  have HB0 := Lib.hid hB0
  have HS0 := Lib.hid hS0
  have HRA := Lib.hid hA
  clear hA hB0
  go_enter Tryz.func57, Tryz.ntmps57
  go_wp2_with (first
    | ((go_at_call 47; refine K1.out.mono ?_; rintro e w1 ⟨rfl, hb1⟩
        have hs1 := hb1.size
        have a0' := (hb1.cell (p := ⟨w.heap.size, 0, none⟩) (by show w.heap.size < _; omega)).trans a0
        have a1' := (hb1.cell (p := ⟨w.heap.size, 1, none⟩) (by show w.heap.size < _; omega)).trans a1
        have a2' := (hb1.cell (p := ⟨w.heap.size, 2, none⟩) (by show w.heap.size < _; omega)).trans a2
        have K3 := Lib.hid (K2.out w1 hb1)))
    | ((go_at_call 123; refine K3.out.mono ?_; rintro e w2 ⟨ga, rfl, hga, hRA, hb2⟩
        have hs2 := hb2.size
        have hRA2 := hRA.below ((Below.refl _ w2).alloc (Nat.le_refl _) (.cells #[.int .i64 W, .int .i64 H, .slice (some ⟨ga, 0, none⟩) n n] 188)) hRA.lt
        obtain ⟨W3, hW3⟩ : ∃ W3, w2.alloc (.cells #[.int .i64 W, .int .i64 H, .slice (some ⟨ga, 0, none⟩) n n] 188) = W3 := ⟨_, rfl⟩
        have hS3 : W3.heap.size = w2.heap.size + 1 := by rw [← hW3]; simp
        have hB3 : Below W0.heap.size W0 W3 := by rw [← hW3]; exact (hb1.trans (hb2.mono hs1)).alloc (by omega) _
        have hG3 : GridAt W3 w2.heap.size W H ga n n := by rw [← hW3]; exact ⟨by simp [go_sem], by simp [go_sem], by simp [go_sem]⟩
        rw [hW3] at hRA2
        have z0' := (hB3.cell (p := ⟨w.heap.size + 1, 0, none⟩) (by show w.heap.size + 1 < _; omega)).trans z0
        have z1' := (hB3.cell (p := ⟨w.heap.size + 1, 1, none⟩) (by show w.heap.size + 1 < _; omega)).trans z1
        have z2' := (hB3.cell (p := ⟨w.heap.size + 1, 2, none⟩) (by show w.heap.size + 1 < _; omega)).trans z2
        have zf' : ∀ j, W3.frozen? ⟨w.heap.size + 1, j, none⟩ = false := fun j => (hB3.frozen (p := ⟨w.heap.size + 1, j, none⟩) (by show w.heap.size + 1 < _; omega)).trans (zf j)
        have hN : W * H = n := by have := HRA.out.area; exact_mod_cast this
        have KP := Lib.hid (callsIn_wide.1 (painted_turned H W (by have := HRA.out.hei; omega) (by have := HRA.out.wid; omega) w2.heap.size W3 (fun p => ks[(H - 1 - p.1) * W + p.2]?.getD 0) (fun p => by
            by_cases hj : (H - 1 - p.1) * W + p.2 < n
            · exact HRA.out.sizes _ hj
            · rw [List.getElem?_eq_none (by rw [HRA.out.lenk]; omega)]; simp) (fun p W1 hp h1 => by
          have hlt : (H - 1 - p.1) * W + p.2 < n := idx_lt (p := (p.2, H - 1 - p.1)) hp.2 (by omega) hN
          have hW := HRA.out.wid
          have hH := HRA.out.hei
          have hsz := h1.size
          have hR1 := hRA2.below h1 hRA2.lt
          exact turned1_any W H p.1 p.2 ga n n w2.heap.size _ (by omega) (by omega) hp.1 hp.2 W1 hlt (by omega) hR1.lt (hG3.below h1 (by omega)) (hR1.cells _ hlt))))
        have gg0 := hG3.c0
        have gg1 := hG3.c1
        have HZ := Lib.hid zf'
        have HB3 := Lib.hid hB3
        have HN := Lib.hid hN
        clear hRA hRA2 a0 a1 a2 a0' a1' a2' z0 z1 z2 zf zf' hB3 hN hb1 hb2 hG3))
    | ((go_at_call 132; refine KP.out.mono ?_; rintro e w5 ⟨g, rfl, hown5, hb5⟩
        have s0 : w5.cell? ⟨w.heap.size + 1, 0, none⟩ = some (.int .i64 0) := (hb5.cell (p := ⟨w.heap.size + 1, 0, none⟩) (by show w.heap.size + 1 < _; omega)).trans z0'
        have s1 : w5.cell? ⟨w.heap.size + 1, 1, none⟩ = some (.int .i64 0) := (hb5.cell (p := ⟨w.heap.size + 1, 1, none⟩) (by show w.heap.size + 1 < _; omega)).trans z1'
        have s2 : w5.cell? ⟨w.heap.size + 1, 2, none⟩ = some (.slice none 0 0) := (hb5.cell (p := ⟨w.heap.size + 1, 2, none⟩) (by show w.heap.size + 1 < _; omega)).trans z2'
        have f0 : w5.frozen? ⟨w.heap.size + 1, 0, none⟩ = false := (hb5.frozen (p := ⟨w.heap.size + 1, 0, none⟩) (by show w.heap.size + 1 < _; omega)).trans (HZ.out 0)
        have f1 : w5.frozen? ⟨w.heap.size + 1, 1, none⟩ = false := (hb5.frozen (p := ⟨w.heap.size + 1, 1, none⟩) (by show w.heap.size + 1 < _; omega)).trans (HZ.out 1)
        have f2 : w5.frozen? ⟨w.heap.size + 1, 2, none⟩ = false := (hb5.frozen (p := ⟨w.heap.size + 1, 2, none⟩) (by show w.heap.size + 1 < _; omega)).trans (HZ.out 2))))
  have hN := HN.out
  have hsz5 := hb5.size
  have hg5 : W3.heap.size ≤ g ∧ g < w5.heap.size := hown5.lt g rfl
  rw [Nat.mul_comm H W, hN] at hown5
  refine bodyPost_ret (v := .tuple #[.agg #[.int .i64 H, .int .i64 W, .slice (some ⟨g, 0, none⟩) n n], .int .i64 0]) (by simp [results, Tryz.results57, go_sem, s0, s1, s2, Nat.mul_comm H W, hN]) rfl ⟨g, rfl, ?_, ?_, ?_⟩
  · simp; omega
  · intro j hj
    refine owns_cell (ownsRow_setCell_below (ownsRow_setCell_below (ownsRow_setCell_below hown5 (by dsimp only; omega) _) (by dsimp only; omega) _) (by dsimp only; omega) _) ?_
    rw [List.getElem?_map, placesTo_get H n j hj, Option.map_some]
  · exact (((HB0.out.trans (HB3.out.mono (by omega))).trans (hb5.mono (by omega))).setCell (p := ⟨w.heap.size + 1, 0, none⟩) (by dsimp only; omega) _ |>.setCell (p := ⟨w.heap.size + 1, 1, none⟩) (by dsimp only; omega) _).setCell (p := ⟨w.heap.size + 1, 2, none⟩) (by dsimp only; omega) _
end Go.Proofs.YtfdkmmllemkogaaGreatDoor

/-
  Plain mathematics of spreading: neighbours, what each place gives; no program.
-/
namespace Go.Proofs.YtfdkmmllemkogaaGreatDoor
open Go.RowKit

/-- The four neighbours' distances, in their order. -/
def dirsL : List (Int × Int) := [(-1, 0), (1, 0), (0, -1), (0, 1)]
def insideB (W H : Nat) (q : Int × Int) : Bool := decide (0 ≤ q.1) && (decide (q.1 < W) && (decide (0 ≤ q.2) && decide (q.2 < H)))
/-- The neighbours of a place, of the first k distances. -/
def nbrsTo (W H : Nat) (x y : Int) (k : Nat) : List (Int × Int) := ((dirsL.take k).map (fun d => (x + d.1, y + d.2))).filter (insideB W H)
theorem nbrsTo_succ (W H : Nat) (x y : Int) (k : Nat) (hk : k < 4) : nbrsTo W H x y (k + 1) = if insideB W H (x + (dirsL[k]?.getD (0, 0)).1, y + (dirsL[k]?.getD (0, 0)).2) = true then nbrsTo W H x y k ++ [(x + (dirsL[k]?.getD (0, 0)).1, y + (dirsL[k]?.getD (0, 0)).2)] else nbrsTo W H x y k := by
  have hl : k < dirsL.length := hk
  rw [nbrsTo, List.take_succ_eq_append_getElem hl, List.getElem?_eq_getElem hl]
  simp only [nbrsTo, List.map_append, List.filter_append, List.map_cons, List.map_nil, List.filter_cons, List.filter_nil, Option.getD_some]
  split <;> simp
theorem nbrsTo_len (W H : Nat) (x y : Int) (k : Nat) : (nbrsTo W H x y k).length ≤ 4 := by
  refine Nat.le_trans (List.length_filter_le _ _) ?_
  simp [dirsL]; omega
theorem nbrs_in {W H : Nat} {x y : Int} {k : Nat} {q : Int × Int} (h : q ∈ nbrsTo W H x y k) : 0 ≤ q.1 ∧ q.1 < W ∧ 0 ≤ q.2 ∧ q.2 < H := by
  have := (List.mem_filter.1 h).2
  simpa [insideB] using this
/-- The index of a place. -/
def idx (W : Nat) (q : Int × Int) : Nat := (q.2 * W + q.1).toNat
def addAt (cs : List Int) (j : Nat) (d : Int) : List Int := cs.set j (cs[j]?.getD 0 + d)
/-- What a place gives to one neighbour. -/
def give1 (W j : Nat) (gift : Int) (cs : List Int) (q : Int × Int) : List Int := addAt (addAt cs j (-gift)) (idx W q) gift
def giveTo (W j : Nat) (gift : Int) (qs : List (Int × Int)) (cs : List Int) : List Int := qs.foldl (give1 W j gift) cs
theorem give_len (W j : Nat) (gift : Int) (qs : List (Int × Int)) : ∀ cs : List Int, (giveTo W j gift qs cs).length = cs.length := by
  induction qs with
  | nil => intro cs; rfl
  | cons q qs ih => intro cs; show (giveTo W j gift qs (give1 W j gift cs q)).length = _; rw [ih]; simp [give1, addAt]
/-- A place's round. -/
def round1 (W H : Nat) (share : Int) (ks : List Int) (cs : List Int) (p : Nat × Nat) : List Int :=
  giveTo W (p.2 * W + p.1) (ks[p.2 * W + p.1]?.getD 0 * share / 16) (nbrsTo W H p.1 p.2 4) cs
def roundsTo (W H : Nat) (share : Int) (ks : List Int) (ps : List (Nat × Nat)) : List Int := ps.foldl (round1 W H share ks) ks
theorem roundsTo_snoc (W H : Nat) (share : Int) (ks : List Int) (ps : List (Nat × Nat)) (p : Nat × Nat) : roundsTo W H share ks (ps ++ [p]) = round1 W H share ks (roundsTo W H share ks ps) p := by
  simp [roundsTo]
theorem roundsTo_len (W H : Nat) (share : Int) (ks : List Int) (ps : List (Nat × Nat)) : (roundsTo W H share ks ps).length = ks.length := by
  suffices ∀ cs : List Int, (ps.foldl (round1 W H share ks) cs).length = cs.length from this ks
  induction ps with
  | nil => intro cs; rfl
  | cons p ps ih => intro cs; rw [List.foldl_cons, ih]; exact give_len _ _ _ _ _
/-- No integer of a list is greater than a bound. -/
def Within (cs : List Int) (M : Nat) : Prop := ∀ j : Nat, ((cs[j]?.getD 0 : Int)).natAbs ≤ M
theorem Within.add {cs : List Int} {M G : Nat} (h : Within cs M) (j : Nat) (d : Int) (hd : d.natAbs ≤ G) : Within (addAt cs j d) (M + G) := fun i => by
  unfold addAt
  rw [List.getElem?_set]
  split
  · split
    · rename_i h1 h2; have := h j; simp only [Option.getD_some]; omega
    · simp
  · exact Nat.le_trans (h i) (by omega)
theorem Within.give {W j : Nat} {gift : Int} {G : Nat} (hg : gift.natAbs ≤ G) (qs : List (Int × Int)) : ∀ {cs : List Int} {M : Nat}, Within cs M → Within (giveTo W j gift qs cs) (M + 2 * G * qs.length) := by
  induction qs with
  | nil => intro cs M h; simpa [giveTo] using h
  | cons q qs ih =>
    intro cs M h
    have h1 : Within (give1 W j gift cs q) (M + G + G) := (h.add j (-gift) (by omega)).add _ gift hg
    have h2 := ih h1
    have e : M + G + G + 2 * G * qs.length = M + 2 * G * (q :: qs).length := by rw [List.length_cons, Nat.mul_succ]; omega
    rw [e] at h2; exact h2
theorem Within.mono {cs : List Int} {M N : Nat} (h : Within cs M) (hn : M ≤ N) : Within cs N := fun j => Nat.le_trans (h j) hn
theorem gift_bd {k share : Int} (hk : k.natAbs ≤ 16384) (h0 : 0 ≤ share) (h1 : share ≤ 4) : (k * share / 16).natAbs ≤ 4097 ∧ -65536 ≤ k * share ∧ k * share ≤ 65536 := by
  have a : k * share ≤ 16384 * 4 := by
    rcases (show share = 0 ∨ share = 1 ∨ share = 2 ∨ share = 3 ∨ share = 4 by omega) with h | h | h | h | h <;> subst h <;> omega
  have b : -(16384 * 4) ≤ k * share := by
    rcases (show share = 0 ∨ share = 1 ∨ share = 2 ∨ share = 3 ∨ share = 4 by omega) with h | h | h | h | h <;> subst h <;> omega
  omega
theorem roundsTo_bd {W H : Nat} {share : Int} {ks : List Int} (hk : Within ks 16384) (h0 : 0 ≤ share) (h1 : share ≤ 4) (ps : List (Nat × Nat)) : Within (roundsTo W H share ks ps) (16384 + 32776 * ps.length) := by
  suffices ∀ (cs : List Int) (M : Nat), Within cs M → Within (ps.foldl (round1 W H share ks) cs) (M + 32776 * ps.length) from this ks _ hk
  induction ps with
  | nil => intro cs M h; simpa using h
  | cons p ps ih =>
    intro cs M h
    have h2 : Within (round1 W H share ks cs p) (M + 32776) := (h.give (gift_bd (hk _) h0 h1).1 _).mono (by have := nbrsTo_len W H p.1 p.2 4; have e : 2 * 4097 * (nbrsTo W H p.1 p.2 4).length ≤ 2 * 4097 * 4 := Nat.mul_le_mul (Nat.le_refl _) this; omega)
    have h3 := ih _ _ h2
    rw [List.foldl_cons]
    exact h3.mono (by rw [List.length_cons, Nat.mul_succ]; omega)
end Go.Proofs.YtfdkmmllemkogaaGreatDoor

/-
  Contracts of has, neighbours and slices.Clone at integers.
-/
namespace Go.Proofs.YtfdkmmllemkogaaGreatDoor
open Go.RowKit
set_option linter.unusedVariables false

set_option maxHeartbeats 1600000 in
theorem isPlace_any (W H : Nat) (X Y : Int) (w : World) :
    Calls Tryz.prog 201 #[.agg #[.int .i64 X, .int .i64 Y], .int .i64 W, .int .i64 H] w fun e w' => e = .returned (.bool (insideB W H (X, Y))) ∧ Below w.heap.size w w' := by
  by_cases h1 : 0 ≤ X
  · by_cases h2 : X < W
    · by_cases h3 : 0 ≤ Y
      · by_cases h4 : Y < H
        · have e : insideB W H (X, Y) = true := by simp [insideB, h1, h2, h3, h4]
          rw [e]; clear e
          go_enter Tryz.func201, Tryz.ntmps201
          go_wp2
          go_ret
          exact ⟨rfl, (Below.refl _ _).alloc (Nat.le_refl _) _⟩
        · have e : insideB W H (X, Y) = false := by simp [insideB, h1, h2, h3, h4]
          rw [e]; clear e
          have d4 : decide (Y < H) = false := by simpa using h4
          go_enter Tryz.func201, Tryz.ntmps201
          go_wp2
          go_ret
          exact ⟨rfl, (Below.refl _ _).alloc (Nat.le_refl _) _⟩
      · have e : insideB W H (X, Y) = false := by simp [insideB, h1, h2, h3]
        rw [e]; clear e
        have d3 : decide (0 ≤ Y) = false := by simpa using h3
        go_enter Tryz.func201, Tryz.ntmps201
        go_wp2
        go_ret
        exact ⟨rfl, (Below.refl _ _).alloc (Nat.le_refl _) _⟩
    · have e : insideB W H (X, Y) = false := by simp [insideB, h1, h2]
      rw [e]; clear e
      have d2 : decide (X < W) = false := by simpa using h2
      go_enter Tryz.func201, Tryz.ntmps201
      go_wp2
      go_ret
      exact ⟨rfl, (Below.refl _ _).alloc (Nat.le_refl _) _⟩
  · have e : insideB W H (X, Y) = false := by simp [insideB, h1]
    rw [e]; clear e
    have d1 : decide (0 ≤ X) = false := by simpa using h1
    go_enter Tryz.func201, Tryz.ntmps201
    go_wp2
    go_ret
    exact ⟨rfl, (Below.refl _ _).alloc (Nat.le_refl _) _⟩

set_option maxHeartbeats 1600000 in
theorem has_any (W H : Nat) (X Y : Int) (a : Option Addr) (n c : Nat) (w : World) :
    Calls Tryz.prog 124 #[.agg #[.int .i64 W, .int .i64 H, .slice a n c], .agg #[.int .i64 X, .int .i64 Y]] w fun e w' => e = .returned (.bool (insideB W H (X, Y))) ∧ Below w.heap.size w w' := by
  have K := Lib.hid (fun w1 => isPlace_any W H X Y w1)
  generalize insideB W H (X, Y) = r at K ⊢
  go_enter Tryz.func124, Tryz.ntmps124
  go_wp2_with (go_at_call 201; refine (K.out _).mono ?_; rintro e w' ⟨rfl, hb⟩)
  go_ret
  exact ⟨rfl, (((Below.refl _ _).alloc (Nat.le_refl _) _).alloc (by simp) _).trans (hb.mono (by simp; omega))⟩

/-! ### Points -/
def Far (a : Int) : Prop := -1099511627776 ≤ a ∧ a ≤ 1099511627776
set_option maxHeartbeats 1600000 in
theorem plus_any (a b c d : Int) (ha : Far a) (hb : Far b) (hc : Far c) (hd : Far d) (w : World) :
    Calls Tryz.prog 134 #[.agg #[.int .i64 a, .int .i64 b], .agg #[.int .i64 c, .int .i64 d]] w fun e w' => e = .returned (.agg #[.int .i64 (a + c), .int .i64 (b + d)]) ∧ Below w.heap.size w w' := by
  unfold Far at ha hb hc hd
  have i1 : IntKind.i64.wrap (a + c) = a + c := IntWalk.i64_in _ ⟨by omega, by omega⟩
  have i2 : IntKind.i64.wrap (b + d) = b + d := IntWalk.i64_in _ ⟨by omega, by omega⟩
  clear ha hb hc hd
  go_enter Tryz.func134, Tryz.ntmps134
  go_wp2
  refine bodyPost_ret (v := .agg #[.int .i64 (a + c), .int .i64 (b + d)]) (by simp [results, Tryz.results134, go_sem]) rfl ⟨rfl, ?_⟩
  exact (((Below.refl _ w).alloc (Nat.le_refl _) _).alloc (by simp) _).alloc (by simp; omega) _
set_option maxHeartbeats 1600000 in
theorem minus_any (a b c d : Int) (ha : Far a) (hb : Far b) (hc : Far c) (hd : Far d) (w : World) :
    Calls Tryz.prog 136 #[.agg #[.int .i64 a, .int .i64 b], .agg #[.int .i64 c, .int .i64 d]] w fun e w' => e = .returned (.agg #[.int .i64 (a - c), .int .i64 (b - d)]) ∧ Below w.heap.size w w' := by
  unfold Far at ha hb hc hd
  have i1 : IntKind.i64.wrap (a - c) = a - c := IntWalk.i64_in _ ⟨by omega, by omega⟩
  have i2 : IntKind.i64.wrap (b - d) = b - d := IntWalk.i64_in _ ⟨by omega, by omega⟩
  clear ha hb hc hd
  go_enter Tryz.func136, Tryz.ntmps136
  go_wp2
  refine bodyPost_ret (v := .agg #[.int .i64 (a - c), .int .i64 (b - d)]) (by simp [results, Tryz.results136, go_sem]) rfl ⟨rfl, ?_⟩
  exact (((Below.refl _ w).alloc (Nat.le_refl _) _).alloc (by simp) _).alloc (by simp; omega) _
/-- The four points beside a point. -/
def besideV (X Y : Int) : Value := .agg #[.int .i64 (X - 1), .int .i64 Y, .int .i64 (X + 1), .int .i64 Y, .int .i64 X, .int .i64 (Y - 1), .int .i64 X, .int .i64 (Y + 1)]
set_option maxHeartbeats 1600000 in
theorem beside_any (X Y : Int) (hX : Far X) (hY : Far Y) (w : World) :
    Calls Tryz.prog 204 #[.agg #[.int .i64 X, .int .i64 Y]] w fun e w' => e = .returned (besideV X Y) ∧ Below w.heap.size w w' := by
  unfold Far at hX hY
  unfold besideV
  have i1 : IntKind.i64.wrap (X - 1) = X - 1 := IntWalk.i64_in _ ⟨by omega, by omega⟩
  have i2 : IntKind.i64.wrap (X + 1) = X + 1 := IntWalk.i64_in _ ⟨by omega, by omega⟩
  have i3 : IntKind.i64.wrap (Y - 1) = Y - 1 := IntWalk.i64_in _ ⟨by omega, by omega⟩
  have i4 : IntKind.i64.wrap (Y + 1) = Y + 1 := IntWalk.i64_in _ ⟨by omega, by omega⟩
  clear hX hY
  go_enter Tryz.func204, Tryz.ntmps204
  go_wp2
  refine bodyPost_ret (v := .agg #[.int .i64 (X - 1), .int .i64 Y, .int .i64 (X + 1), .int .i64 Y, .int .i64 X, .int .i64 (Y - 1), .int .i64 X, .int .i64 (Y + 1)]) (by simp [results, Tryz.results204, go_sem]) rfl ⟨rfl, ?_⟩
  exact ((Below.refl _ w).alloc (Nat.le_refl _) _).alloc (by simp) _

/-- A place's cells. -/
def qval (q : Int × Int) : List Value := [.int .i64 q.1, .int .i64 q.2]
theorem Tryz.infoPt : (Tryz.prog.info? 50).map (fun i => (i.zero, i.size, i.bytes)) = some (some (.agg #[.int .i64 0, .int .i64 0]), 2, 16) := by kernel_rfl
theorem cells_new2 (w : World) (T : TypeId) (a b : Value) : ∀ j u, [a, b][j]? = some u → (w.alloc (.cells #[a, b] T)).cell? ((⟨w.heap.size, 0, none⟩ : Addr).add j) = some u := fun j u h => by
  rw [Addr.add_mid, cell_of_row _ w.heap.size (0 + j) _ _ (0, 0) (heap_alloc_new w _)]
  simpa using h
theorem dirs_index (X Y : Int) (k : Nat) (hk : k < 4) : ∃ dx dy : Int, dirsL[k]?.getD (0, 0) = (dx, dy) ∧ (-1 ≤ dx ∧ dx ≤ 1) ∧ (-1 ≤ dy ∧ dy ≤ 1) ∧
    ∀ w : World, (Instr.index 169 (besideV X Y) (.int .i64 k)).run Tryz.prog w = .ok (.agg #[.int .i64 (X + dx), .int .i64 (Y + dy)]) w := by
  match k, hk with
  | 0, _ => exact ⟨-1, 0, rfl, by omega, by omega, fun w => by rw [show X + -1 = X - 1 by omega, Int.add_zero]; kernel_rfl⟩
  | 1, _ => exact ⟨1, 0, rfl, by omega, by omega, fun w => by rw [Int.add_zero]; kernel_rfl⟩
  | 2, _ => exact ⟨0, -1, rfl, by omega, by omega, fun w => by rw [show Y + -1 = Y - 1 by omega, Int.add_zero]; kernel_rfl⟩
  | 3, _ => exact ⟨0, 1, rfl, by omega, by omega, fun w => by rw [Int.add_zero]; kernel_rfl⟩

set_option maxRecDepth 100000 in
set_option maxHeartbeats 3200000 in
theorem neighbours_any (W H : Nat) (X Y : Int) (hX : 0 ≤ X ∧ X ≤ 1048576) (hY : 0 ≤ Y ∧ Y ≤ 1048576) (a : Option Addr) (n c : Nat) (w : World) :
    Calls Tryz.prog 150 #[.agg #[.int .i64 W, .int .i64 H, .slice a n c], .agg #[.int .i64 X, .int .i64 Y]] w fun e w' =>
      ∃ v, e = .returned v ∧ w'.ownsRow w.heap.size 50 2 v (nbrsTo W H X Y 4).length ((nbrsTo W H X Y 4).flatMap qval) ∧ Below w.heap.size w w' := by
  obtain ⟨i0, hi, hz0, hz1, hz2⟩ := info_parts Tryz.infoPt
  have KB := Lib.hid (fun w1 => beside_any X Y (by unfold Far; omega) (by unfold Far; omega) w1)
  go_enter Tryz.func150, Tryz.ntmps150
  go_wp2_with (go_at_call 204; refine (KB.out _).mono ?_; rintro e W0 ⟨rfl, hbb⟩)
  have hB0 : Below w.heap.size w W0 := (((Below.refl _ w).alloc (Nat.le_refl _) _).alloc (by simp) _).trans (hbb.mono (by simp; omega))
  have hz : w.heap.size + 2 ≤ W0.heap.size := by have := hbb.size; simpa using this
  have g0 : W0.cell? ⟨w.heap.size, 0, none⟩ = some (.int .i64 W) := (hbb.cell (by first | (simp; done) | (simp; omega))).trans (by simp [go_sem])
  have g1 : W0.cell? ⟨w.heap.size, 1, none⟩ = some (.int .i64 H) := (hbb.cell (by first | (simp; done) | (simp; omega))).trans (by simp [go_sem])
  have g2 : W0.cell? ⟨w.heap.size, 2, none⟩ = some (.slice a n c) := (hbb.cell (by first | (simp; done) | (simp; omega))).trans (by simp [go_sem])
  have HZ := Lib.hid hz
  have HB0 := Lib.hid hB0
  clear hbb hz hB0
  go_loopw [5, 10] (fun out i wr => ∃ k : Nat, k ≤ 4 ∧ i = .int .i64 k ∧ wr.ownsRow (w.heap.size + 2) 50 2 out (nbrsTo W H X Y k).length ((nbrsTo W H X Y k).flatMap qval) ∧ Below (w.heap.size + 2) W0 wr)
    (fun _ i _ => 4 - (intOf i).toNat)
  case atStart => exact ⟨0, Nat.zero_le _, rfl, World.ownsRow_nil _ _ _ _, Below.refl _ _⟩
  case round =>
    obtain ⟨k, hk, rfl, hown, hnx⟩ := hrel
    have hsz : w.heap.size + 2 ≤ wr.heap.size := by have := hnx.size; have := HZ.out; omega
    by_cases hlt : k < 4
    · obtain ⟨dx, dy, hd, hdx, hdy, hix⟩ := dirs_index X Y k hlt
      have hS := nbrsTo_succ W H X Y k hlt
      rw [hd] at hS
      have HS := Lib.hid hS
      have hl4 := nbrsTo_len W H X Y k
      replace g0 := (hnx.cell (p := ⟨w.heap.size, 0, none⟩) (by show w.heap.size < _; omega)).trans g0
      replace g1 := (hnx.cell (p := ⟨w.heap.size, 1, none⟩) (by show w.heap.size < _; omega)).trans g1
      replace g2 := (hnx.cell (p := ⟨w.heap.size, 2, none⟩) (by show w.heap.size < _; omega)).trans g2
      have hltI : (k : Int) < 4 := by omega
      have n0 := World.new_ne wr _ g0
      have l0 : w.heap.size < wr.heap.size := by omega
      clear hd hS
      by_cases hin : insideB W H (X + dx, Y + dy) = true
      · have K := Lib.hid (fun w1 => hin ▸ has_any W H (X + dx) (Y + dy) a n c w1)
        have HIN := Lib.hid hin
        clear hin
        go_wp2_with (first
          | (go_at_call 124; refine (K.out _).mono ?_; rintro e w1 ⟨rfl, hb1⟩
             have hs1 := hb1.size
             simp at hs1
             have q0 : w1.cell? ⟨wr.heap.size, 0, none⟩ = some (.int .i64 (X + dx)) := by rw [hb1.cell (by simp)]; simp [go_sem]
             have q1 : w1.cell? ⟨wr.heap.size, 1, none⟩ = some (.int .i64 (Y + dy)) := by rw [hb1.cell (by simp)]; simp [go_sem]
             have hb2 : Below (w.heap.size + 2) W0 w1 := (hnx.alloc hsz _).trans (hb1.mono (by simp; omega))
             have hown1 : w1.ownsRow (w.heap.size + 2) 50 2 _ _ _ := owns_kept (hown.alloc _) hb1 (by simp)
             clear hb1 hown)
          | (at_builtin; refine wpList_append_own _ rfl (.tmp 16) (.tmp 18) 207 rfl (w.heap.size + 2) 50 i0 (.agg #[.int .i64 0, .int .i64 0]) 2 16 Tryz.underlying207 hi hz0 hz1 hz2 rfl (by decide) _ _ _ rfl (hown1.alloc _) ⟨w1.heap.size, 0, none⟩ 1 1 [.int .i64 (X + dx), .int .i64 (Y + dy)] rfl rfl (cells_new2 _ _ _ _) (by intro u hu; simp at hu; rcases hu with rfl | rfl <;> rfl) (by unfold maxLen; omega) (by omega) (by simp; omega) ?_; intro v' w3 hown3 hgrow3 _))
        have hlt' := hown1.lt
        go_roundw
        case rel => exact ⟨k + 1, by omega, by go_num, by rw [HS.out, if_pos HIN.out, List.flatMap_append, List.length_append]; exact hown3, (hb2.alloc (by omega) _).grown hgrow3 (by simp; omega) (fun j hj => (hlt' j hj).1)⟩
        case measure => simp [intOf]; omega
      · have hin' : insideB W H (X + dx, Y + dy) = false := by simpa using hin
        have K := Lib.hid (fun w1 => hin' ▸ has_any W H (X + dx) (Y + dy) a n c w1)
        have HIN := Lib.hid hin
        clear hin hin'
        go_wp2_with (go_at_call 124; refine (K.out _).mono ?_; rintro e w1 ⟨rfl, hb1⟩)
        go_roundw
        case rel => exact ⟨k + 1, by omega, by go_num, by rw [HS.out, if_neg HIN.out]; exact owns_kept (hown.alloc _) hb1 (by simp), (hnx.alloc hsz _).trans (hb1.mono (by simp; omega))⟩
        case measure => simp [intOf]; omega
    · go_wp2
      go_ret
      obtain rfl : k = 4 := by omega
      exact ⟨_, rfl, owns_base hown (by omega), HB0.out.trans (hnx.mono (by omega))⟩
end Go.Proofs.YtfdkmmllemkogaaGreatDoor

/-
  Contract of slices.Clone at integers that lie in a block.
-/
namespace Go.Proofs.YtfdkmmllemkogaaGreatDoor
open Go.RowKit
set_option linter.unusedVariables false

set_option maxRecDepth 100000 in
set_option maxHeartbeats 3200000 in
theorem clone_any {w : World} (g n c : Nat) (ks : List Int) (hx : ks.length = n) (hn1 : 1 ≤ n) (hm : n ≤ 4096) (hb : g < w.heap.size)
    (hc : ∀ j, j < n → w.cell? ⟨g, j, none⟩ = some (.int .i64 (ks[j]?.getD 0))) :
    Calls Tryz.prog 148 #[.slice (some ⟨g, 0, none⟩) n c] w fun e w' =>
      ∃ g' cap, e = .returned (.slice (some ⟨g', 0, none⟩) n cap) ∧ w'.ownsRow w.heap.size 3 1 (.slice (some ⟨g', 0, none⟩) n cap) n (ks.map (Value.int .i64)) ∧ Below w.heap.size w w' := by
  obtain ⟨i0, hi, hz0, hz1, hz2⟩ := info_parts Tryz.infoInt
  have Hx := Lib.hid hx
  have Hc := Lib.hid hc
  clear hx hc
  have hnil : ∀ w : World, (binOp .eql 25 (.slice (some ⟨g, 0, none⟩) n c) (.slice none 0 0)).run Tryz.prog w = .ok (.bool false) w := fun w => Lib.run_eql_slice_nil w _ _ _ _ _ _ _ Tryz.underlying25
  go_enter Tryz.func148, Tryz.ntmps148
  go_wp2_with (at_builtin; go_loud (refine wpList_append_own _ rfl (.tmp 5) (.tmp 6) 25 rfl w.heap.size 3 i0 (.int .i64 0) 1 8 Tryz.underlying25 hi hz0 hz1 hz2 rfl (by decide) (.slice (some ⟨w.heap.size, 0, none⟩) 0 0) 0 [] rfl ?c0 ⟨g, 0, none⟩ n c (ks.map (Value.int .i64)) rfl (by simp [Hx.out]) ?c1 ?c2 ?c3 ?c4 ?c5 ?_))
  case c0 => exact World.ownsRow_made (base := w.heap.size) (e := 3) (size := 1) w #[] 0 (by simp) (by unfold maxLen; omega) rfl
  case c1 =>
    intro j u hu
    have hj : j < n := by have := (List.getElem?_eq_some_iff.1 hu).1; simp [Hx.out] at this; exact this
    have hadd : (⟨g, 0, none⟩ : Addr).add j = ⟨g, j, none⟩ := by unfold Addr.add; split <;> simp_all
    have e : u = .int .i64 (ks[j]?.getD 0) := by
      have hj' : j < ks.length := by rw [Hx.out]; exact hj
      simp [List.getElem?_map, List.getElem?_eq_getElem hj'] at hu
      simp [hj', hu]
    rw [hadd, e]
    exact ((Below.refl _ w).alloc (Nat.le_refl _) _ |>.cell (by exact hb)).trans (Hc.out j hj)
  case c2 => intro u hu; obtain ⟨x, _, rfl⟩ := List.mem_map.1 hu; rfl
  case c3 => unfold maxLen; omega
  case c4 => omega
  case c5 => simp
  intro v' w1 hown hgrow _
  obtain ⟨g', cap, rfl, _⟩ := owns_some hown hn1
  have hb1 : Below w.heap.size w w1 := ((Below.refl w.heap.size w).alloc (Nat.le_refl _) _).grown hgrow (by simp) (fun k hk => by cases hk; simp)
  clear hgrow
  go_wp2
  go_ret
  exact ⟨g', cap, rfl, hown, hb1⟩
end Go.Proofs.YtfdkmmllemkogaaGreatDoor

/-
  What stays while Spread's inner loop writes the copy's integers.
-/
namespace Go.Proofs.YtfdkmmllemkogaaGreatDoor
open Go.RowKit Go.Shelf
set_option linter.unusedVariables false

/-- The blocks of Spread's round. -/
structure SpP where
  B7 : Nat
  B8 : Nat
  Bw : Nat
  Bx : Nat
  ga : Nat
  gb : Nat
  gn : Nat
  o7 : Obj
  o8 : Obj
  ow : Obj
  ox : Obj
  oa : Obj
  on : Obj
  N : Nat
  M : Nat
  n : Nat
  cb : Nat
  T : TypeId
  W0 : World
  W1 : World
def SpP.Apart (p : SpP) : Prop := p.gb ≠ p.B7 ∧ p.gb ≠ p.B8 ∧ p.gb ≠ p.Bw ∧ p.gb ≠ p.Bx ∧ p.gb ≠ p.ga ∧ p.gb ≠ p.gn ∧ p.M ≤ p.gb
structure SpW (p : SpP) (cs : List Int) (w : World) : Prop where
  own : w.ownsRow p.N p.T 1 (.slice (some ⟨p.gb, 0, none⟩) p.n p.cb) p.n (cs.map (Value.int .i64))
  b7 : w.heap[p.B7]? = some p.o7
  b8 : w.heap[p.B8]? = some p.o8
  bw : w.heap[p.Bw]? = some p.ow
  bx : w.heap[p.Bx]? = some p.ox
  ba : w.heap[p.ga]? = some p.oa
  bn : w.heap[p.gn]? = some p.on
  bel : Below p.M p.W0 w
  keeps : KeepsOthers p.W1 w
theorem SpW.below {p : SpP} {cs : List Int} {w w' : World} (h : SpW p cs w) (hM : p.M ≤ p.W0.heap.size) (hb : Below w.heap.size w w') : SpW p cs w' :=
  ⟨owns_kept h.own hb (Nat.le_refl _), (hb.block _ (lt_of_blk h.b7)).trans h.b7, (hb.block _ (lt_of_blk h.b8)).trans h.b8, (hb.block _ (lt_of_blk h.bw)).trans h.bw, (hb.block _ (lt_of_blk h.bx)).trans h.bx, (hb.block _ (lt_of_blk h.ba)).trans h.ba,
    (hb.block _ (lt_of_blk h.bn)).trans h.bn, h.bel.trans (hb.mono (Nat.le_trans hM h.bel.size)), h.keeps.trans (KeepsOthers.of_below hb)⟩
theorem SpW.drew {p : SpP} {cs : List Int} {w : World} (h : SpW p cs w) : SpW p cs w.drew :=
  ⟨h.own.drew, h.b7, h.b8, h.bw, h.bx, h.ba, h.bn, h.bel.drew, h.keeps.trans (KeepsOthers.drew w)⟩
theorem SpW.alloc {p : SpP} {cs : List Int} {w : World} (h : SpW p cs w) (hM : p.M ≤ p.W0.heap.size) (o : Obj) : SpW p cs (w.alloc o) :=
  h.below hM ((Below.refl _ w).alloc (Nat.le_refl _) o)
theorem SpW.store {p : SpP} {cs : List Int} {w : World} (h : SpW p cs w) (ha : p.Apart) (j : Nat) (v : Int) : SpW p (cs.set j v) (w.setCell ⟨p.gb, j, none⟩ (.int .i64 v)) := by
  obtain ⟨n1, n2, n3, n4, n5, n6, n7⟩ := ha
  refine ⟨?_, blk_set_other h.b7 n1 _, blk_set_other h.b8 n2 _, blk_set_other h.bw n3 _, blk_set_other h.bx n4 _, blk_set_other h.ba n5 _, blk_set_other h.bn n6 _, h.bel.setCell n7 _, h.keeps.trans (KeepsOthers.setCell _ _ _)⟩
  rw [List.map_set]
  exact (h.own.stored j (.int .i64 v)).1
theorem SpW.cell {p : SpP} {cs : List Int} {w : World} (h : SpW p cs w) {j : Nat} (hj : j < cs.length) : w.cell? ⟨p.gb, j, none⟩ = some (.int .i64 (cs[j]?.getD 0)) :=
  owns_cell h.own (by rw [List.getElem?_map, List.getElem?_eq_getElem hj]; rfl)
theorem SpW.frozen {p : SpP} {cs : List Int} {w : World} (h : SpW p cs w) (j : Nat) : w.frozen? ⟨p.gb, j, none⟩ = false := h.own.frozenAt j
end Go.Proofs.YtfdkmmllemkogaaGreatDoor
