/-
  Contracts of Own, of own and of ShortMap for every map of up to 100000 samples, nil or not.
-/
import Derived.Test.YthmaoeajbmfmaaaGreatDoorDBc
import Derived.Test.YthmaoeajbmfmaaaGreatDoorDWg
import Derived.Laws.AppendOwnNone
import Derived.RowKit
import Derived.Test.YthmaoeajbmfmaaaGreatDoorDWt
import Derived.Test.YthmaoeajbmfmaaaGreatDoorDWx
import Derived.Test.YthmaoeajbmfmaaaGreatDoorDXe
namespace Go.Proofs.YthmaoeajbmfmaaaGreatDoor
open Go.RowKit
set_option linter.unusedVariables false
set_option linter.unusedSimpArgs false

/-- Any map in memory: its words. -/
structure AnyMap (w : World) (a : Option Addr) (n c : Nat) (xs : List Nat) : Prop where
  len : xs.length = n
  words : ∀ j, j < n → xs[j]?.getD 0 < 2 ^ 32
  isNil : (a = none ∧ n = 0 ∧ c = 0) ∨ ∃ x, a = some x
  cells : ∀ j, j < n → ∃ b o, a = some ⟨b, o, none⟩ ∧ b < w.heap.size ∧ ∀ j, j < n → w.cell? ⟨b, o + j, none⟩ = some (.float .f32 (xs[j]?.getD 0))

theorem AnyMap.below {B : Nat} {w w' : World} {a : Option Addr} {n c : Nat} {xs : List Nat} (h : AnyMap w a n c xs) (hb : Below B w w') (hB : w.heap.size ≤ B) : AnyMap w' a n c xs :=
  ⟨h.len, h.words, h.isNil, fun j hj => by
    obtain ⟨b, o, ha, hlt, hc⟩ := h.cells j hj
    exact ⟨b, o, ha, by have := hb.size; omega, fun j hj => (hb.cell (by show b < B; omega)).trans (hc j hj)⟩⟩

/-- A right map: its integers. -/
theorem AnyMap.right {w : World} {W H : Int} {a : Option Addr} {n c : Nat} {xs : List Nat} (h : AnyMap w a n c xs) (h0 : mapErr W H n xs = 0) :
    ∃ b o ks, a = some ⟨b, o, none⟩ ∧ b < w.heap.size ∧ RightMap w W H b o n xs ks := by
  obtain ⟨w1, w2, h1, h2, hA, hS⟩ := mapErr_zero h.len h0
  have hn : 1 ≤ W * H := by
    have := Int.mul_le_mul w1 h1 (by omega) (by omega)
    omega
  have hm : W * H ≤ 4096 := by
    have := Int.mul_le_mul w2 h2 (by omega) (by omega)
    omega
  obtain ⟨b, o, ha, hb, hc⟩ := h.cells 0 (by omega)
  obtain ⟨ks, hl, hk⟩ : ∃ ks : List Int, ks.length = n ∧ ∀ j, j < n → Smp (xs[j]?.getD 0) (ks[j]?.getD 0) ∧ (ks[j]?.getD 0).natAbs ≤ 16384 := by
    have key : ∀ m, m ≤ n → ∃ ks : List Int, ks.length = m ∧ ∀ j, j < m → Smp (xs[j]?.getD 0) (ks[j]?.getD 0) ∧ (ks[j]?.getD 0).natAbs ≤ 16384 := by
      intro m
      induction m with
      | zero => intro _; exact ⟨[], rfl, fun j hj => by omega⟩
      | succ m ih =>
        intro hle
        obtain ⟨ks, hl, hk⟩ := ih (by omega)
        obtain ⟨k, hk1, hk2⟩ := hS m (by omega)
        refine ⟨ks ++ [k], by simp [hl], fun j hj => ?_⟩
        by_cases hjm : j < m
        · rw [List.getElem?_append_left (by omega)]; exact hk j hjm
        · obtain rfl : j = m := by omega
          rw [List.getElem?_append_right (by omega), hl, Nat.sub_self]
          exact ⟨hk1, hk2⟩
    exact key n (Nat.le_refl _)
  exact ⟨b, o, ks, ha, hb, ⟨⟨h.len, hl, by omega, hc, h.words, fun j hj => (hk j hj).1, fun j hj => (hk j hj).2⟩, ⟨w1, w2⟩, ⟨h1, h2⟩, hA⟩⟩

set_option maxRecDepth 100000 in
set_option maxHeartbeats 3200000 in
theorem own_some {w : World} (W H : Int) (ad : Addr) (n c : Nat) (xs : List Nat) (hm : n ≤ 100000) (hM : AnyMap w (some ad) n c xs) :
    Calls Tryz.prog 96 #[.agg #[.int .i64 W, .int .i64 H, .slice (some ad) n c]] w (OwnPost w W H n xs 22) := by
  have hx := hM.len
  obtain ⟨i0, hi, hz0, hz1, hz2⟩ := info_parts Tryz.infoF32
  have Hx := Lib.hid hx
  have HM := Lib.hid hM
  clear hx hM
  go_enter Tryz.func96, Tryz.ntmps96
  go_wp2_with (at_builtin; go_loud (refine wpList_append_own _ rfl (.tmp 3) (.tmp 5) 33 rfl (w.heap.size + 2) 22 i0 (.float .f32 0) 1 4 Tryz.underlying33 hi hz0 hz1 hz2 rfl (by decide) (.slice (some ⟨w.heap.size + 1 + 1, 0, none⟩) 0 0) 0 [] rfl ?c0 ad n c (xs.map (Value.float .f32)) rfl (by simp [Hx.out]) ?c1 ?c2 ?c3 ?c4 ?c5 ?_))
  case c0 =>
    have h := World.ownsRow_made (base := w.heap.size + 2) (e := 22) (size := 1) ((w.alloc (.cells #[.int .i64 W, .int .i64 H, .slice (some ad) n c] 66)).alloc (.cells #[.int .i64 0, .int .i64 0, .slice none 0 0] 66)) #[] 0 (by simp) (by unfold maxLen; omega) rfl
    simpa using h
  case c1 =>
    intro j u hu
    have hj : j < n := by have := (List.getElem?_eq_some_iff.1 hu).1; simp [Hx.out] at this; exact this
    obtain ⟨b, o, ha, hb, hc⟩ := HM.out.cells j hj
    cases ha
    have hadd : (⟨b, o, none⟩ : Addr).add j = ⟨b, o + j, none⟩ := by unfold Addr.add; split <;> simp_all
    have e : u = .float .f32 (xs[j]?.getD 0) := by
      have hj' : j < xs.length := by rw [Hx.out]; exact hj
      simp [List.getElem?_map, List.getElem?_eq_getElem hj'] at hu
      simp [hj', hu]
    rw [hadd, e]
    exact ((((Below.refl _ w).alloc (Nat.le_refl _) _).alloc (by simp) _).alloc (by simp; try omega) _ |>.cell (by exact hb)).trans (hc j hj)
  case c2 => intro u hu; obtain ⟨x, _, rfl⟩ := List.mem_map.1 hu; rfl
  case c3 => unfold maxLen; omega
  case c4 => omega
  case c5 => simp
  intro v' w1 hown hgrow hiff
  have hex : ∃ g cap, v' = .slice (some ⟨g, 0, none⟩) n cap ∧ w.heap.size + 2 ≤ g ∧ g < w1.heap.size := by
    have hlt := hown.lt
    obtain ⟨_, hnil | ⟨g, cap, cur, rfl, _⟩⟩ := hown
    · exact (hiff hnil.1).elim
    · have := hlt g rfl
      exact ⟨g, cap, by simp, this.1, this.2⟩
  obtain ⟨g, cap, hv, hg1, hg2⟩ := hex
  rw [hv] at hown ⊢
  have hb1 := (Below.refl (w.heap.size + 2) _).grown hgrow (by simp; try omega) (fun k hk => by cases hk; simp)
  have s0 : w1.cell? ⟨w.heap.size, 0, none⟩ = some (.int .i64 W) := by rw [hb1.cell (by simp; try omega)]; simp [go_sem]
  have s1 : w1.cell? ⟨w.heap.size, 1, none⟩ = some (.int .i64 H) := by rw [hb1.cell (by simp; try omega)]; simp [go_sem]
  have s2 : w1.cell? ⟨w.heap.size, 2, none⟩ = some (.slice (some ad) n c) := by rw [hb1.cell (by simp; try omega)]; simp [go_sem]
  have r0 : w1.cell? ⟨w.heap.size + 1, 0, none⟩ = some (.int .i64 0) := by rw [hb1.cell (by simp; try omega)]; simp [go_sem]
  have r1 : w1.cell? ⟨w.heap.size + 1, 1, none⟩ = some (.int .i64 0) := by rw [hb1.cell (by simp; try omega)]; simp [go_sem]
  have r2 : w1.cell? ⟨w.heap.size + 1, 2, none⟩ = some (.slice none 0 0) := by rw [hb1.cell (by simp; try omega)]; simp [go_sem]
  have f2 : w1.frozen? ⟨w.heap.size, 2, none⟩ = false := by rw [hb1.frozen (by simp; try omega)]; simp [go_sem]
  have q0 : w1.frozen? ⟨w.heap.size + 1, 0, none⟩ = false := by rw [hb1.frozen (by simp; try omega)]; simp [go_sem]
  have q1 : w1.frozen? ⟨w.heap.size + 1, 1, none⟩ = false := by rw [hb1.frozen (by simp; try omega)]; simp [go_sem]
  have q2 : w1.frozen? ⟨w.heap.size + 1, 2, none⟩ = false := by rw [hb1.frozen (by simp; try omega)]; simp [go_sem]
  have HB := Lib.hid hb1
  have HV := Lib.hid hv
  have Hcell := Lib.hid (fun (j : Nat) (hj : j < n) => owns_cell hown (j := j) (v := .float .f32 (xs[j]?.getD 0)) (by have h := Hx.out; simp [h, hj]))
  have HOWN := Lib.hid hown
  clear hb1 hown hgrow hv
  go_wp2
  refine bodyPost_ret (v := .agg #[.int .i64 W, .int .i64 H, .slice (some ⟨g, 0, none⟩) n cap]) (by simp [results, Tryz.results96, go_sem, r0, r1, r2]) rfl ⟨g, cap, rfl, by omega, ?_, ?_, ?_, ?_⟩
  · simp; omega
  · intro j hj
    simp [go_sem, World.cell?_setCell_other]
    exact Hcell.out j hj
  · exact (((((((Below.refl _ w).alloc (Nat.le_refl _) _).alloc (by simp) _).alloc (by simp; try omega) _).trans (HB.out.mono (by omega))).setCell (p := ⟨w.heap.size, 2, none⟩) (by simp) _).setCell (p := ⟨w.heap.size + 1, 0, none⟩) (by simp) _).setCell (p := ⟨w.heap.size + 1, 1, none⟩) (by simp) _ |>.setCell (p := ⟨w.heap.size + 1, 2, none⟩) (by simp) _
  · have h := HOWN.out
    try simp only [Nat.zero_add, List.nil_append] at h
    exact owns_base (ownsRow_setCell_below (ownsRow_setCell_below (ownsRow_setCell_below (ownsRow_setCell_below h (by dsimp only; omega) _) (by dsimp only; omega) _) (by dsimp only; omega) _) (by dsimp only; omega) _) (by omega)


set_option maxRecDepth 100000 in
set_option maxHeartbeats 3200000 in
theorem own_nil {w : World} (W H : Int) :
    Calls Tryz.prog 96 #[.agg #[.int .i64 W, .int .i64 H, .slice none 0 0]] w (OwnPost w W H 0 [] 22) := by
  obtain ⟨i0, hi, hz0, hz1, hz2⟩ := info_parts Tryz.infoF32
  go_enter Tryz.func96, Tryz.ntmps96
  go_wp2_with (at_builtin; refine wpList_append_own_none rfl (.tmp 3) (.tmp 5) 33 rfl (w.heap.size + 2) 22 i0 1 Tryz.underlying33 hi (.slice (some ⟨w.heap.size + 1 + 1, 0, none⟩) 0 0) 0 [] rfl ?c0 rfl ?_)
  case c0 =>
    have h := World.ownsRow_made (base := w.heap.size + 2) (e := 22) (size := 1) ((w.alloc (.cells #[.int .i64 W, .int .i64 H, .slice none 0 0] 66)).alloc (.cells #[.int .i64 0, .int .i64 0, .slice none 0 0] 66)) #[] 0 (by simp) (by unfold maxLen; omega) rfl
    simpa using h
  go_wp2
  refine bodyPost_ret (v := .agg #[.int .i64 W, .int .i64 H, .slice (some ⟨w.heap.size + 2, 0, none⟩) 0 0]) (by simp [results, Tryz.results96, go_sem]) rfl ⟨w.heap.size + 2, 0, rfl, by omega, ?_, fun j hj => by omega, ?_, ?_⟩
  · simp
  · exact ((((Below.refl _ w).alloc (Nat.le_refl _) _).alloc (by simp) _).alloc (by simp; try omega) _)
  · have h := World.ownsRow_made (base := w.heap.size) (e := 22) (size := 1) ((w.alloc (.cells #[.int .i64 W, .int .i64 H, .slice (some ⟨w.heap.size + 1 + 1, 0, none⟩) 0 0] 66)).alloc (.cells #[.int .i64 W, .int .i64 H, .slice (some ⟨w.heap.size + 1 + 1, 0, none⟩) 0 0] 66)) #[] 0 (by simp; omega) (by unfold maxLen; omega) rfl
    simpa using h

theorem own_all {w : World} (W H : Int) (a : Option Addr) (n c : Nat) (xs : List Nat) (hm : n ≤ 100000) (hM : AnyMap w a n c xs) :
    Calls Tryz.prog 96 #[.agg #[.int .i64 W, .int .i64 H, .slice a n c]] w (OwnPost w W H n xs 22) := by
  rcases hM.isNil with ⟨rfl, rfl, rfl⟩ | ⟨ad, rfl⟩
  · obtain rfl : xs = [] := List.length_eq_zero_iff.1 hM.len
    exact own_nil W H
  · exact own_some W H ad n c xs hm hM

theorem OwnPost.map {w w' : World} {W H : Int} {n T : Nat} {xs : List Nat} {e : Ending} (h : OwnPost w W H n xs T e w') (hx : xs.length = n) (hw : ∀ j, j < n → xs[j]?.getD 0 < 2 ^ 32) :
    ∃ g c, e = .returned (.agg #[.int .i64 W, .int .i64 H, .slice (some ⟨g, 0, none⟩) n c]) ∧ AnyMap w' (some ⟨g, 0, none⟩) n c xs ∧ Below w.heap.size w w' := by
  obtain ⟨g, c, he, _, hg, hc, hb, _⟩ := h
  exact ⟨g, c, he, ⟨hx, hw, .inr ⟨_, rfl⟩, fun j hj => ⟨g, 0, rfl, hg, fun j hj => by rw [Nat.zero_add]; exact hc j hj⟩⟩, hb⟩

set_option maxRecDepth 100000 in
set_option maxHeartbeats 3200000 in
theorem lawOwn_all {w : World} (W H : Int) (a : Option Addr) (n c : Nat) (xs : List Nat) (hm : n ≤ 100000) (hM : AnyMap w a n c xs) :
    Calls Tryz.prog 30 #[.agg #[.int .i64 W, .int .i64 H, .slice a n c]] w (OwnPost w W H n xs 22) := by
  have K : ∀ w1 : World, Below w.heap.size w w1 → Calls Tryz.prog 96 #[.agg #[.int .i64 W, .int .i64 H, .slice a n c]] w1 (OwnPost w1 W H n xs 22) := fun w1 h =>
    own_all W H a n c xs hm (hM.below h (Nat.le_refl _))
  have HK := Lib.hid K
  clear K hM
  go_enter Tryz.func30, Tryz.ntmps30
  go_wp2_with fail
  refine (HK.out _ ?_).mono ?_
  · exact ((Below.refl _ w).alloc (Nat.le_refl _) _).alloc (by simp) _
  rintro e w1 ⟨g, cap, rfl, hg1, hg2, hcells, hb1, hown1⟩
  simp at hg1
  have r0 : w1.cell? ⟨w.heap.size + 1, 0, none⟩ = some (.int .i64 0) := by rw [hb1.cell (by simp; try omega)]; simp [go_sem]
  have r1 : w1.cell? ⟨w.heap.size + 1, 1, none⟩ = some (.int .i64 0) := by rw [hb1.cell (by simp; try omega)]; simp [go_sem]
  have r2 : w1.cell? ⟨w.heap.size + 1, 2, none⟩ = some (.slice none 0 0) := by rw [hb1.cell (by simp; try omega)]; simp [go_sem]
  have q0 : w1.frozen? ⟨w.heap.size + 1, 0, none⟩ = false := by rw [hb1.frozen (by simp; try omega)]; simp [go_sem]
  have q1 : w1.frozen? ⟨w.heap.size + 1, 1, none⟩ = false := by rw [hb1.frozen (by simp; try omega)]; simp [go_sem]
  have q2 : w1.frozen? ⟨w.heap.size + 1, 2, none⟩ = false := by rw [hb1.frozen (by simp; try omega)]; simp [go_sem]
  have HB := Lib.hid hb1
  have Hcell := Lib.hid hcells
  have HOWN := Lib.hid hown1
  clear hb1 hcells hown1
  go_wp2
  refine bodyPost_ret (v := .agg #[.int .i64 W, .int .i64 H, .slice (some ⟨g, 0, none⟩) n cap]) (by simp [results, Tryz.results30, go_sem, r0, r1, r2]) rfl ⟨g, cap, rfl, by omega, ?_, ?_, ?_, ?_⟩
  · simp; omega
  · intro j hj
    simp [go_sem, World.cell?_setCell_other]
    exact Hcell.out j hj
  · exact (((((Below.refl _ w).alloc (Nat.le_refl _) _).alloc (by simp) _).trans (HB.out.mono (by simp; omega))).setCell (p := ⟨w.heap.size + 1, 0, none⟩) (by simp) _).setCell (p := ⟨w.heap.size + 1, 1, none⟩) (by simp) _ |>.setCell (p := ⟨w.heap.size + 1, 2, none⟩) (by simp) _
  · have h := HOWN.out
    try simp only [World.size_alloc] at h
    exact owns_base (ownsRow_setCell_below (ownsRow_setCell_below (ownsRow_setCell_below h (by dsimp only; omega) _) (by dsimp only; omega) _) (by dsimp only; omega) _) (by omega)

set_option maxHeartbeats 800000 in
theorem shortMap_all (W H : Int) (a : Option Addr) (n c : Nat) (w : World) :
    Calls Tryz.prog 28 #[.agg #[.int .i64 W, .int .i64 H, .slice a n c]] w fun e w' => e = .returned (.bool (decide (n ≤ 160) || decide (n = 4097))) ∧ Below w.heap.size w w' := by
  have K : ∀ w1 : World, Calls Tryz.prog 88 #[.slice a n c] w1 fun e w' => e = .returned (.bool (decide (n ≤ 160) || decide (n = 4097))) ∧ w1 = w' := by
    intro w1
    by_cases h1 : n ≤ 160
    · rw [show (decide (n ≤ 160) || decide (n = 4097)) = true by simp [h1]]
      have t1 : ((n : Int) ≤ 160) = True := by simp; omega
      go_enter Tryz.func88, Tryz.ntmps88
      go_wp2
      go_ret
      exact ⟨rfl, rfl⟩
    · by_cases h2 : n = 4097
      · subst h2
        rw [show (decide (4097 ≤ 160) || decide (4097 = 4097)) = true by simp]
        go_enter Tryz.func88, Tryz.ntmps88
        go_wp2
        go_ret
        exact ⟨rfl, rfl⟩
      · rw [show (decide (n ≤ 160) || decide (n = 4097)) = false by simp [h1, h2]]
        have t1 : ((n : Int) ≤ 160) = False := by simp; omega
        have t2 : ((n : Int) == 4097) = false := by simp; omega
        go_enter Tryz.func88, Tryz.ntmps88
        go_wp2
        go_ret
        exact ⟨rfl, rfl⟩
  have HK := Lib.hid K
  clear K
  go_enter Tryz.func28, Tryz.ntmps28
  go_wp2_with (go_at_call 88; refine (HK.out _).mono ?_; rintro e w' ⟨rfl, rfl⟩)
  go_ret
  exact ⟨rfl, (Below.refl _ w).alloc (Nat.le_refl _) _⟩
end Go.Proofs.YthmaoeajbmfmaaaGreatDoor

/-
  Plain mathematics of spreading: neighbours, what each place gives; no program.
-/
namespace Go.Proofs.YthmaoeajbmfmaaaGreatDoor
open Go.RowKit

/-- The four neighbours' distances, in their order. -/
def dirsL : List (Int × Int) := [(-1, 0), (1, 0), (0, -1), (0, 1)]
def insideB (W H : Nat) (q : Int × Int) : Bool := decide (0 ≤ q.1) && (decide (q.1 < W) && (decide (0 ≤ q.2) && decide (q.2 < H)))
/-- The neighbours of a place, of the first k distances. -/
def nbrsTo (W H : Nat) (x y : Int) (k : Nat) : List (Int × Int) := ((dirsL.take k).map (fun d => (x + d.1, y + d.2))).filter (insideB W H)
theorem nbrsTo_succ (W H : Nat) (x y : Int) (k : Nat) (hk : k < 4) : nbrsTo W H x y (k + 1) = if insideB W H (x + (dirsL[k]?.getD (0, 0)).1, y + (dirsL[k]?.getD (0, 0)).2) = true then nbrsTo W H x y k ++ [(x + (dirsL[k]?.getD (0, 0)).1, y + (dirsL[k]?.getD (0, 0)).2)] else nbrsTo W H x y k := by
  have hl : k < dirsL.length := hk
  rw [nbrsTo, List.take_succ_eq_append_getElem hl, List.getElem?_eq_getElem hl]
  simp only [nbrsTo, List.map_append, List.filter_append, List.map_cons, List.map_nil, List.filter_cons, List.filter_nil, Option.getD_some]
  split <;> simp
theorem nbrsTo_len (W H : Nat) (x y : Int) (k : Nat) : (nbrsTo W H x y k).length ≤ 4 := by
  refine Nat.le_trans (List.length_filter_le _ _) ?_
  simp [dirsL]; omega
theorem nbrs_in {W H : Nat} {x y : Int} {k : Nat} {q : Int × Int} (h : q ∈ nbrsTo W H x y k) : 0 ≤ q.1 ∧ q.1 < W ∧ 0 ≤ q.2 ∧ q.2 < H := by
  have := (List.mem_filter.1 h).2
  simpa [insideB] using this
/-- The index of a place. -/
def idx (W : Nat) (q : Int × Int) : Nat := (q.2 * W + q.1).toNat
def addAt (cs : List Int) (j : Nat) (d : Int) : List Int := cs.set j (cs[j]?.getD 0 + d)
/-- What a place gives to one neighbour. -/
def give1 (W j : Nat) (gift : Int) (cs : List Int) (q : Int × Int) : List Int := addAt (addAt cs j (-gift)) (idx W q) gift
def giveTo (W j : Nat) (gift : Int) (qs : List (Int × Int)) (cs : List Int) : List Int := qs.foldl (give1 W j gift) cs
theorem give_len (W j : Nat) (gift : Int) (qs : List (Int × Int)) : ∀ cs : List Int, (giveTo W j gift qs cs).length = cs.length := by
  induction qs with
  | nil => intro cs; rfl
  | cons q qs ih => intro cs; show (giveTo W j gift qs (give1 W j gift cs q)).length = _; rw [ih]; simp [give1, addAt]
/-- A place's round. -/
def round1 (W H : Nat) (share : Int) (ks : List Int) (cs : List Int) (p : Nat × Nat) : List Int :=
  giveTo W (p.2 * W + p.1) (ks[p.2 * W + p.1]?.getD 0 * share / 16) (nbrsTo W H p.1 p.2 4) cs
def roundsTo (W H : Nat) (share : Int) (ks : List Int) (ps : List (Nat × Nat)) : List Int := ps.foldl (round1 W H share ks) ks
theorem roundsTo_snoc (W H : Nat) (share : Int) (ks : List Int) (ps : List (Nat × Nat)) (p : Nat × Nat) : roundsTo W H share ks (ps ++ [p]) = round1 W H share ks (roundsTo W H share ks ps) p := by
  simp [roundsTo]
theorem roundsTo_len (W H : Nat) (share : Int) (ks : List Int) (ps : List (Nat × Nat)) : (roundsTo W H share ks ps).length = ks.length := by
  suffices ∀ cs : List Int, (ps.foldl (round1 W H share ks) cs).length = cs.length from this ks
  induction ps with
  | nil => intro cs; rfl
  | cons p ps ih => intro cs; rw [List.foldl_cons, ih]; exact give_len _ _ _ _ _
/-- No integer of a list is greater than a bound. -/
def Within (cs : List Int) (M : Nat) : Prop := ∀ j : Nat, ((cs[j]?.getD 0 : Int)).natAbs ≤ M
theorem Within.add {cs : List Int} {M G : Nat} (h : Within cs M) (j : Nat) (d : Int) (hd : d.natAbs ≤ G) : Within (addAt cs j d) (M + G) := fun i => by
  unfold addAt
  rw [List.getElem?_set]
  split
  · split
    · rename_i h1 h2; have := h j; simp only [Option.getD_some]; omega
    · simp
  · exact Nat.le_trans (h i) (by omega)
theorem Within.give {W j : Nat} {gift : Int} {G : Nat} (hg : gift.natAbs ≤ G) (qs : List (Int × Int)) : ∀ {cs : List Int} {M : Nat}, Within cs M → Within (giveTo W j gift qs cs) (M + 2 * G * qs.length) := by
  induction qs with
  | nil => intro cs M h; simpa [giveTo] using h
  | cons q qs ih =>
    intro cs M h
    have h1 : Within (give1 W j gift cs q) (M + G + G) := (h.add j (-gift) (by omega)).add _ gift hg
    have h2 := ih h1
    have e : M + G + G + 2 * G * qs.length = M + 2 * G * (q :: qs).length := by rw [List.length_cons, Nat.mul_succ]; omega
    rw [e] at h2; exact h2
theorem Within.mono {cs : List Int} {M N : Nat} (h : Within cs M) (hn : M ≤ N) : Within cs N := fun j => Nat.le_trans (h j) hn
theorem gift_bd {k share : Int} (hk : k.natAbs ≤ 16384) (h0 : 0 ≤ share) (h1 : share ≤ 4) : (k * share / 16).natAbs ≤ 4097 ∧ -65536 ≤ k * share ∧ k * share ≤ 65536 := by
  have a : k * share ≤ 16384 * 4 := by
    rcases (show share = 0 ∨ share = 1 ∨ share = 2 ∨ share = 3 ∨ share = 4 by omega) with h | h | h | h | h <;> subst h <;> omega
  have b : -(16384 * 4) ≤ k * share := by
    rcases (show share = 0 ∨ share = 1 ∨ share = 2 ∨ share = 3 ∨ share = 4 by omega) with h | h | h | h | h <;> subst h <;> omega
  omega
theorem roundsTo_bd {W H : Nat} {share : Int} {ks : List Int} (hk : Within ks 16384) (h0 : 0 ≤ share) (h1 : share ≤ 4) (ps : List (Nat × Nat)) : Within (roundsTo W H share ks ps) (16384 + 32776 * ps.length) := by
  suffices ∀ (cs : List Int) (M : Nat), Within cs M → Within (ps.foldl (round1 W H share ks) cs) (M + 32776 * ps.length) from this ks _ hk
  induction ps with
  | nil => intro cs M h; simpa using h
  | cons p ps ih =>
    intro cs M h
    have h2 : Within (round1 W H share ks cs p) (M + 32776) := (h.give (gift_bd (hk _) h0 h1).1 _).mono (by have := nbrsTo_len W H p.1 p.2 4; have e : 2 * 4097 * (nbrsTo W H p.1 p.2 4).length ≤ 2 * 4097 * 4 := Nat.mul_le_mul (Nat.le_refl _) this; omega)
    have h3 := ih _ _ h2
    rw [List.foldl_cons]
    exact h3.mono (by rw [List.length_cons, Nat.mul_succ]; omega)
end Go.Proofs.YthmaoeajbmfmaaaGreatDoor

/-
  Contracts of has, neighbours and slices.Clone at integers.
-/
namespace Go.Proofs.YthmaoeajbmfmaaaGreatDoor
open Go.RowKit
set_option linter.unusedVariables false

set_option maxHeartbeats 1600000 in
theorem has_any (W H : Nat) (X Y : Int) (a : Option Addr) (n c : Nat) (w : World) :
    Calls Tryz.prog 120 #[.agg #[.int .i64 W, .int .i64 H, .slice a n c], .agg #[.int .i64 X, .int .i64 Y]] w fun e w' => e = .returned (.bool (insideB W H (X, Y))) ∧ Below w.heap.size w w' := by
  by_cases h1 : 0 ≤ X
  · by_cases h2 : X < W
    · by_cases h3 : 0 ≤ Y
      · by_cases h4 : Y < H
        · have e : insideB W H (X, Y) = true := by simp [insideB, h1, h2, h3, h4]
          rw [e]; clear e
          go_enter Tryz.func120, Tryz.ntmps120
          go_wp2
          go_ret
          exact ⟨rfl, (((Below.refl _ _).alloc (Nat.le_refl _) _).alloc (by simp) _)⟩
        · have e : insideB W H (X, Y) = false := by simp [insideB, h1, h2, h3, h4]
          rw [e]; clear e
          have d4 : decide (Y < H) = false := by simpa using h4
          go_enter Tryz.func120, Tryz.ntmps120
          go_wp2
          go_ret
          exact ⟨rfl, (((Below.refl _ _).alloc (Nat.le_refl _) _).alloc (by simp) _)⟩
      · have e : insideB W H (X, Y) = false := by simp [insideB, h1, h2, h3]
        rw [e]; clear e
        have d3 : decide (0 ≤ Y) = false := by simpa using h3
        go_enter Tryz.func120, Tryz.ntmps120
        go_wp2
        go_ret
        exact ⟨rfl, (((Below.refl _ _).alloc (Nat.le_refl _) _).alloc (by simp) _)⟩
    · have e : insideB W H (X, Y) = false := by simp [insideB, h1, h2]
      rw [e]; clear e
      have d2 : decide (X < W) = false := by simpa using h2
      go_enter Tryz.func120, Tryz.ntmps120
      go_wp2
      go_ret
      exact ⟨rfl, (((Below.refl _ _).alloc (Nat.le_refl _) _).alloc (by simp) _)⟩
  · have e : insideB W H (X, Y) = false := by simp [insideB, h1]
    rw [e]; clear e
    have d1 : decide (0 ≤ X) = false := by simpa using h1
    go_enter Tryz.func120, Tryz.ntmps120
    go_wp2
    go_ret
    exact ⟨rfl, (((Below.refl _ _).alloc (Nat.le_refl _) _).alloc (by simp) _)⟩

/-- A place's cells. -/
def qval (q : Int × Int) : List Value := [.int .i64 q.1, .int .i64 q.2]
theorem Tryz.infoPt : (Tryz.prog.info? 99).map (fun i => (i.zero, i.size, i.bytes)) = some (some (.agg #[.int .i64 0, .int .i64 0]), 2, 16) := by kernel_rfl
theorem cells_new2 (w : World) (T : TypeId) (a b : Value) : ∀ j u, [a, b][j]? = some u → (w.alloc (.cells #[a, b] T)).cell? ((⟨w.heap.size, 0, none⟩ : Addr).add j) = some u := fun j u h => by
  rw [Addr.add_mid, cell_of_row _ w.heap.size (0 + j) _ _ (0, 0) (heap_alloc_new w _)]
  simpa using h
theorem dirs_index (k : Nat) (hk : k < 4) : ∃ dx dy : Int, dirsL[k]?.getD (0, 0) = (dx, dy) ∧ (-1 ≤ dx ∧ dx ≤ 1) ∧ (-1 ≤ dy ∧ dy ≤ 1) ∧
    ∀ w : World, (Instr.index 241 (.agg #[.int .i64 (-1), .int .i64 0, .int .i64 1, .int .i64 0, .int .i64 0, .int .i64 (-1), .int .i64 0, .int .i64 1]) (.int .i64 k)).run Tryz.prog w = .ok (.agg #[.int .i64 dx, .int .i64 dy]) w := by
  match k, hk with
  | 0, _ => exact ⟨-1, 0, rfl, by omega, by omega, fun w => by kernel_rfl⟩
  | 1, _ => exact ⟨1, 0, rfl, by omega, by omega, fun w => by kernel_rfl⟩
  | 2, _ => exact ⟨0, -1, rfl, by omega, by omega, fun w => by kernel_rfl⟩
  | 3, _ => exact ⟨0, 1, rfl, by omega, by omega, fun w => by kernel_rfl⟩

set_option maxRecDepth 100000 in
set_option maxHeartbeats 3200000 in
theorem neighbours_any (W H : Nat) (X Y : Int) (hX : 0 ≤ X ∧ X ≤ 1048576) (hY : 0 ≤ Y ∧ Y ≤ 1048576) (a : Option Addr) (n c : Nat) (w : World) :
    Calls Tryz.prog 130 #[.agg #[.int .i64 W, .int .i64 H, .slice a n c], .agg #[.int .i64 X, .int .i64 Y]] w fun e w' =>
      ∃ v, e = .returned v ∧ w'.ownsRow w.heap.size 99 2 v (nbrsTo W H X Y 4).length ((nbrsTo W H X Y 4).flatMap qval) ∧ Below w.heap.size w w' := by
  obtain ⟨i0, hi, hz0, hz1, hz2⟩ := info_parts Tryz.infoPt
  go_enter Tryz.func130, Tryz.ntmps130
  go_wp2
  obtain ⟨W0, hW0⟩ : ∃ W0, (w.alloc (.cells #[.int .i64 W, .int .i64 H, .slice a n c] 162)).alloc (.cells #[.int .i64 X, .int .i64 Y] 99) = W0 := ⟨_, rfl⟩
  have hB0 : Below w.heap.size w W0 := by rw [← hW0]; exact ((Below.refl _ w).alloc (Nat.le_refl _) _).alloc (by simp) _
  have hz : W0.heap.size = w.heap.size + 2 := by rw [← hW0]; simp
  have g0 : W0.cell? ⟨w.heap.size, 0, none⟩ = some (.int .i64 W) := by rw [← hW0]; simp [go_sem]
  have g1 : W0.cell? ⟨w.heap.size, 1, none⟩ = some (.int .i64 H) := by rw [← hW0]; simp [go_sem]
  have g2 : W0.cell? ⟨w.heap.size, 2, none⟩ = some (.slice a n c) := by rw [← hW0]; simp [go_sem]
  have p0 : W0.cell? ⟨w.heap.size + 1, 0, none⟩ = some (.int .i64 X) := by rw [← hW0]; simp [go_sem]
  have p1 : W0.cell? ⟨w.heap.size + 1, 1, none⟩ = some (.int .i64 Y) := by rw [← hW0]; simp [go_sem]
  rw [hW0]
  have HZ := Lib.hid hz
  have HB0 := Lib.hid hB0
  clear hW0 hz hB0
  go_loopw [5, 14] (fun out i wr => ∃ k : Nat, k ≤ 4 ∧ i = .int .i64 k ∧ wr.ownsRow (w.heap.size + 2) 99 2 out (nbrsTo W H X Y k).length ((nbrsTo W H X Y k).flatMap qval) ∧ Below (w.heap.size + 2) W0 wr)
    (fun _ i _ => 4 - (intOf i).toNat)
  case atStart => exact ⟨0, Nat.zero_le _, rfl, World.ownsRow_nil _ _ _ _, Below.refl _ _⟩
  case round =>
    obtain ⟨k, hk, rfl, hown, hnx⟩ := hrel
    have hsz : w.heap.size + 2 ≤ wr.heap.size := by have := hnx.size; have := HZ.out; omega
    by_cases hlt : k < 4
    · obtain ⟨dx, dy, hd, hdx, hdy, hix⟩ := dirs_index k hlt
      have hS := nbrsTo_succ W H X Y k hlt
      rw [hd] at hS
      have HS := Lib.hid hS
      have hl4 := nbrsTo_len W H X Y k
      replace g0 := (hnx.cell (p := ⟨w.heap.size, 0, none⟩) (by show w.heap.size < _; omega)).trans g0
      replace g1 := (hnx.cell (p := ⟨w.heap.size, 1, none⟩) (by show w.heap.size < _; omega)).trans g1
      replace g2 := (hnx.cell (p := ⟨w.heap.size, 2, none⟩) (by show w.heap.size < _; omega)).trans g2
      replace p0 := (hnx.cell (p := ⟨w.heap.size + 1, 0, none⟩) (by show w.heap.size + 1 < _; omega)).trans p0
      replace p1 := (hnx.cell (p := ⟨w.heap.size + 1, 1, none⟩) (by show w.heap.size + 1 < _; omega)).trans p1
      have hltI : (k : Int) < 4 := by omega
      have n0 := World.new_ne wr _ g0
      have n1 := World.new_ne wr _ p0
      have l0 : w.heap.size < wr.heap.size := by omega
      have l1 : w.heap.size + 1 < wr.heap.size := by omega
      clear hd hS
      by_cases hin : insideB W H (X + dx, Y + dy) = true
      · have K := Lib.hid (fun w1 => hin ▸ has_any W H (X + dx) (Y + dy) a n c w1)
        have HIN := Lib.hid hin
        clear hin
        go_wp2_with (first
          | (go_at_call 120; refine (K.out _).mono ?_; rintro e w1 ⟨rfl, hb1⟩
             have hs1 := hb1.size
             simp at hs1
             have q0 : w1.cell? ⟨wr.heap.size + 1, 0, none⟩ = some (.int .i64 (X + dx)) := by rw [hb1.cell (by simp)]; simp [go_sem]
             have q1 : w1.cell? ⟨wr.heap.size + 1, 1, none⟩ = some (.int .i64 (Y + dy)) := by rw [hb1.cell (by simp)]; simp [go_sem]
             have hb2 : Below (w.heap.size + 2) W0 w1 := ((hnx.alloc hsz _).alloc (by simp; omega) _).trans (hb1.mono (by simp; omega))
             have hown1 : w1.ownsRow (w.heap.size + 2) 99 2 _ _ _ := owns_kept ((hown.alloc _).alloc _) hb1 (by simp)
             clear hb1 hown)
          | (at_builtin; refine wpList_append_own _ rfl (.tmp 31) (.tmp 33) 209 rfl (w.heap.size + 2) 99 i0 (.agg #[.int .i64 0, .int .i64 0]) 2 16 Tryz.underlying209 hi hz0 hz1 hz2 rfl (by decide) _ _ _ rfl (hown1.alloc _) ⟨w1.heap.size, 0, none⟩ 1 1 [.int .i64 (X + dx), .int .i64 (Y + dy)] rfl rfl (cells_new2 _ _ _ _) (by intro u hu; simp at hu; rcases hu with rfl | rfl <;> rfl) (by unfold maxLen; omega) (by omega) (by simp; omega) ?_; intro v' w3 hown3 hgrow3 _))
        have hlt' := hown1.lt
        go_roundw
        case rel => exact ⟨k + 1, by omega, by go_num, by rw [HS.out, if_pos HIN.out, List.flatMap_append, List.length_append]; exact hown3, (hb2.alloc (by omega) _).grown hgrow3 (by simp; omega) (fun j hj => (hlt' j hj).1)⟩
        case measure => simp [intOf]; omega
      · have hin' : insideB W H (X + dx, Y + dy) = false := by simpa using hin
        have K := Lib.hid (fun w1 => hin' ▸ has_any W H (X + dx) (Y + dy) a n c w1)
        have HIN := Lib.hid hin
        clear hin hin'
        go_wp2_with (go_at_call 120; refine (K.out _).mono ?_; rintro e w1 ⟨rfl, hb1⟩)
        go_roundw
        case rel => exact ⟨k + 1, by omega, by go_num, by rw [HS.out, if_neg HIN.out]; exact owns_kept ((hown.alloc _).alloc _) hb1 (by simp), ((hnx.alloc hsz _).alloc (by simp; omega) _).trans (hb1.mono (by simp; omega))⟩
        case measure => simp [intOf]; omega
    · go_wp2
      go_ret
      obtain rfl : k = 4 := by omega
      exact ⟨_, rfl, owns_base hown (by omega), HB0.out.trans (hnx.mono (by omega))⟩
end Go.Proofs.YthmaoeajbmfmaaaGreatDoor

/-
  Contracts of checkSpan for a span that is right, and of At for a right map and a place on it.
-/
namespace Go.Proofs.YthmaoeajbmfmaaaGreatDoor
open Go.RowKit
set_option linter.unusedVariables false

set_option maxHeartbeats 1600000 in
theorem checkSpan_any (f t l : Int) (h0 : 0 ≤ f) (h1 : f < t) (h2 : t ≤ l) (w : World) :
    Calls Tryz.prog 116 #[.agg #[.int .i64 f, .int .i64 t], .int .i64 l] w fun e w' => e = .returned (.int .i64 0) ∧ Below w.heap.size w w' := by
  have i1 : ¬ (f < 0) := by omega
  have i2 : ¬ (t ≤ f) := by omega
  have i3 : ¬ (l < t) := by omega
  go_enter Tryz.func116, Tryz.ntmps116
  go_wp2
  go_ret
  exact ⟨rfl, (Below.refl _ _).alloc (Nat.le_refl _) _⟩

set_option maxRecDepth 100000 in
set_option maxHeartbeats 3200000 in
theorem lightAt_any (W H : Nat) (b o n c : Nat) (xs : List Nat) (ks : List Int) (w : World) (hA : RightMap w W H b o n xs ks) (hb : b < w.heap.size) (X Y : Nat) (hX : X < W) (hY : Y < H) :
    Calls Tryz.prog 43 #[.agg #[.int .i64 W, .int .i64 H, .slice (some ⟨b, o, none⟩) n c], .agg #[.int .i64 X, .int .i64 Y]] w fun e w' =>
      e = .returned (.tuple #[.float .f32 (smpOf (ks[Y * W + X]?.getD 0)), .int .i64 0]) ∧ Below w.heap.size w w' := by
  obtain ⟨W0, hW0⟩ : ∃ W0, (w.alloc (.cells #[.int .i64 W, .int .i64 H, .slice (some ⟨b, o, none⟩) n c] 70)).alloc (.cells #[.int .i64 X, .int .i64 Y] 99) = W0 := ⟨_, rfl⟩
  have hB0 : Below w.heap.size w W0 := by rw [← hW0]; exact ((Below.refl _ w).alloc (Nat.le_refl _) _).alloc (by simp) _
  have hS0 : W0.heap.size = w.heap.size + 2 := by rw [← hW0]; simp
  have a0 : W0.cell? ⟨w.heap.size, 0, none⟩ = some (.int .i64 W) := by rw [← hW0]; simp [go_sem]
  have a1 : W0.cell? ⟨w.heap.size, 1, none⟩ = some (.int .i64 H) := by rw [← hW0]; simp [go_sem]
  have a2 : W0.cell? ⟨w.heap.size, 2, none⟩ = some (.slice (some ⟨b, o, none⟩) n c) := by rw [← hW0]; simp [go_sem]
  have p0 : W0.cell? ⟨w.heap.size + 1, 0, none⟩ = some (.int .i64 X) := by rw [← hW0]; simp [go_sem]
  have p1 : W0.cell? ⟨w.heap.size + 1, 1, none⟩ = some (.int .i64 Y) := by rw [← hW0]; simp [go_sem]
  have K1 := Lib.hid (checkMap_any W H b o n c xs ks W0 (hA.below hB0 hb) (by omega))
  have K2 : Hid (∀ w1 : World, Below W0.heap.size W0 w1 → Calls Tryz.prog 91 #[.agg #[.int .i64 W, .int .i64 H, .slice (some ⟨b, o, none⟩) n c]] w1 fun e w' =>
      ∃ g, e = .returned (.agg #[.int .i64 W, .int .i64 H, .slice (some ⟨g, 0, none⟩) n n]) ∧ w1.heap.size ≤ g ∧ RowAt w' g n ks ∧ Below w1.heap.size w1 w') := Lib.hid (fun w1 h => by
    have h1 := h.size
    have h2 := hB0.trans (h.mono (by omega))
    exact grid_row W H b o n c xs ks w1 (hA.below h2 hb).toWords (by omega))
  have hin : insideB W H (X, Y) = true := by simp [insideB]; omega
  have hW := hA.wid
  have hH := hA.hei
  have hN : W * H = n := by have := hA.area; exact_mod_cast this
  have hlt : Y * W + X < n := idx_lt (p := (X, Y)) hX hY hN
  have hsm := hA.small
  have hsz := hA.sizes _ hlt
  have m1 : Y * W ≤ 64 * 64 := Nat.mul_le_mul (by omega) (by omega)
  have e2 : (Y : Int) * (W : Int) = ((Y * W : Nat) : Int) := by push_cast; rfl
  have e1 : ((Y : Int) * (W : Int) + (X : Int)).toNat = Y * W + X := by rw [e2]; omega
  have KT : Hid (∀ (w1 : World) (ga : Nat), RowAt w1 ga n ks → Calls Tryz.prog 119 #[.agg #[.int .i64 W, .int .i64 H, .slice (some ⟨ga, 0, none⟩) n n], .agg #[.int .i64 X, .int .i64 Y]] w1 fun e w' => e = .returned (.int .i64 (ks[Y * W + X]?.getD 0)) ∧ Below w1.heap.size w1 w') := Lib.hid fun w1 ga hr =>
    at_any W H X Y ga n n _ (by omega) (by omega) (by omega) (by rw [e2]; omega) w1 (by rw [e2]; omega) hr.lt (by rw [e1]; exact hr.cells _ hlt)
  have HSZ := Lib.hid hsz
  have HB0 := Lib.hid hB0
  have HS0 := Lib.hid hS0
  clear hA hB0 e1 e2 hsz hlt hN m1
  go_enter Tryz.func43, Tryz.ntmps43
  go_upto_region 1 with fail
  try rw [hW0]
  clear hW0
  go_wp2_with (first
    | ((go_at_call 89; refine K1.out.mono ?_; rintro e w1 ⟨rfl, hb1⟩
        have hs1 := hb1.size
        have a0' := (hb1.cell (p := ⟨w.heap.size, 0, none⟩) (by show w.heap.size < _; omega)).trans a0
        have a1' := (hb1.cell (p := ⟨w.heap.size, 1, none⟩) (by show w.heap.size < _; omega)).trans a1
        have a2' := (hb1.cell (p := ⟨w.heap.size, 2, none⟩) (by show w.heap.size < _; omega)).trans a2
        have K3 := Lib.hid (K2.out w1 hb1)))
    | ((go_at_call 91; refine K3.out.mono ?_; rintro e w2 ⟨ga, rfl, hga, hRA, hb2⟩
        have hs2 := hb2.size
        obtain ⟨W3, hW3⟩ : ∃ W3, w2.alloc (.cells #[.int .i64 W, .int .i64 H, .slice (some ⟨ga, 0, none⟩) n n] 162) = W3 := ⟨_, rfl⟩
        have hB23 : Below w2.heap.size w2 W3 := by rw [← hW3]; exact (Below.refl _ _).alloc (Nat.le_refl _) _
        have hRA3 := hRA.below hB23 hRA.lt
        have hS3 : W3.heap.size = w2.heap.size + 1 := by rw [← hW3]; simp
        have hB3 : Below W0.heap.size W0 W3 := (hb1.trans (hb2.mono hs1)).trans (hB23.mono (by omega))
        have g0 : W3.cell? ⟨w2.heap.size, 0, none⟩ = some (.int .i64 W) := by rw [← hW3]; simp [go_sem]
        have g1 : W3.cell? ⟨w2.heap.size, 1, none⟩ = some (.int .i64 H) := by rw [← hW3]; simp [go_sem]
        have g2 : W3.cell? ⟨w2.heap.size, 2, none⟩ = some (.slice (some ⟨ga, 0, none⟩) n n) := by rw [← hW3]; simp [go_sem]
        have p0' := (hB3.cell (p := ⟨w.heap.size + 1, 0, none⟩) (by show w.heap.size + 1 < _; omega)).trans p0
        have p1' := (hB3.cell (p := ⟨w.heap.size + 1, 1, none⟩) (by show w.heap.size + 1 < _; omega)).trans p1
        have HRA3 := Lib.hid hRA3
        have HB3 := Lib.hid hB3
        clear hRA hRA3 hB23 hb2 hB3 a0 a1 a2 a0' a1' a2' hb1))
    | ((go_at_call 120; refine (has_any W H X Y _ _ _ W3).mono ?_; rintro e w4 ⟨rfl, hb4⟩
        have hs4 := hb4.size
        have g0' := (hb4.cell (p := ⟨w2.heap.size, 0, none⟩) (by show w2.heap.size < _; omega)).trans g0
        have g1' := (hb4.cell (p := ⟨w2.heap.size, 1, none⟩) (by show w2.heap.size < _; omega)).trans g1
        have g2' := (hb4.cell (p := ⟨w2.heap.size, 2, none⟩) (by show w2.heap.size < _; omega)).trans g2
        have p0'' := (hb4.cell (p := ⟨w.heap.size + 1, 0, none⟩) (by show w.heap.size + 1 < _; omega)).trans p0'
        have p1'' := (hb4.cell (p := ⟨w.heap.size + 1, 1, none⟩) (by show w.heap.size + 1 < _; omega)).trans p1'
        have K5 := Lib.hid (KT.out w4 ga (HRA3.out.below hb4 HRA3.out.lt))
        have HB4 := Lib.hid (HB3.out.trans (hb4.mono (by omega)))
        clear hb4 g0 g1 g2 p0' p1' p0 p1))
    | ((go_at_call 119; refine K5.out.mono ?_; rintro e w5 ⟨rfl, hb5⟩
        have HB5 := Lib.hid (HB4.out.trans (hb5.mono HB4.out.size))
        clear hb5))
    | (go_at_call 94; refine (sample_any _ (Nat.lt_of_le_of_lt HSZ.out (by decide)) _).mono ?_; rintro e w6 ⟨rfl, rfl⟩))
  go_ret2
  exact ⟨rfl, HB0.out.trans (HB5.out.mono (by have := HS0.out; omega))⟩
end Go.Proofs.YthmaoeajbmfmaaaGreatDoor
