/-
  Contracts of Own, of own and of ShortMap for every map of up to 100000 samples, nil or not.
-/
import Derived.Test.YtfdkmmllemkogaaGreatDoorOVk
import Derived.Test.YtfdkmmllemkogaaGreatDoorOWk
import Derived.Laws.AppendOwnNone
import Derived.Test.YtfdkmmllemkogaaGreatDoorCards
import Derived.Test.YtfdkmmllemkogaaGreatDoorTie
import Derived.WalkKit
import Derived.ProofKit
import Derived.OpenShut
import Derived.Lib.SmallJoins
import Derived.Laws.Cover2
import Derived.Carry
import Derived.SizedLaws
import Derived.Deep.Slices
import Derived.Deep.DeepHandedRow
import Derived.Lib.LaidTab
import Derived.Lay
namespace Go.Proofs.YtfdkmmllemkogaaGreatDoor
open Go.RowKit
set_option linter.unusedVariables false
set_option linter.unusedSimpArgs false

/-- Any map in memory: its words. -/
structure AnyMap (w : World) (a : Option Addr) (n c : Nat) (xs : List Nat) : Prop where
  len : xs.length = n
  words : ∀ j, j < n → xs[j]?.getD 0 < 2 ^ 32
  isNil : (a = none ∧ n = 0 ∧ c = 0) ∨ ∃ x, a = some x
  cells : ∀ j, j < n → ∃ b o, a = some ⟨b, o, none⟩ ∧ b < w.heap.size ∧ ∀ j, j < n → w.cell? ⟨b, o + j, none⟩ = some (.float .f32 (xs[j]?.getD 0))

theorem AnyMap.below {B : Nat} {w w' : World} {a : Option Addr} {n c : Nat} {xs : List Nat} (h : AnyMap w a n c xs) (hb : Below B w w') (hB : w.heap.size ≤ B) : AnyMap w' a n c xs :=
  ⟨h.len, h.words, h.isNil, fun j hj => by
    obtain ⟨b, o, ha, hlt, hc⟩ := h.cells j hj
    exact ⟨b, o, ha, by have := hb.size; omega, fun j hj => (hb.cell (by show b < B; omega)).trans (hc j hj)⟩⟩

/-- A right map: its integers. -/
theorem AnyMap.right {w : World} {W H : Int} {a : Option Addr} {n c : Nat} {xs : List Nat} (h : AnyMap w a n c xs) (h0 : mapErr W H n xs = 0) :
    ∃ b o ks, a = some ⟨b, o, none⟩ ∧ b < w.heap.size ∧ RightMap w W H b o n xs ks := by
  obtain ⟨w1, w2, h1, h2, hA, hS⟩ := mapErr_zero h.len h0
  have hn : 1 ≤ W * H := by
    have := Int.mul_le_mul w1 h1 (by omega) (by omega)
    omega
  have hm : W * H ≤ 4096 := by
    have := Int.mul_le_mul w2 h2 (by omega) (by omega)
    omega
  obtain ⟨b, o, ha, hb, hc⟩ := h.cells 0 (by omega)
  obtain ⟨ks, hl, hk⟩ : ∃ ks : List Int, ks.length = n ∧ ∀ j, j < n → Smp (xs[j]?.getD 0) (ks[j]?.getD 0) ∧ (ks[j]?.getD 0).natAbs ≤ 16384 := by
    have key : ∀ m, m ≤ n → ∃ ks : List Int, ks.length = m ∧ ∀ j, j < m → Smp (xs[j]?.getD 0) (ks[j]?.getD 0) ∧ (ks[j]?.getD 0).natAbs ≤ 16384 := by
      intro m
      induction m with
      | zero => intro _; exact ⟨[], rfl, fun j hj => by omega⟩
      | succ m ih =>
        intro hle
        obtain ⟨ks, hl, hk⟩ := ih (by omega)
        obtain ⟨k, hk1, hk2⟩ := hS m (by omega)
        refine ⟨ks ++ [k], by simp [hl], fun j hj => ?_⟩
        by_cases hjm : j < m
        · rw [List.getElem?_append_left (by omega)]; exact hk j hjm
        · obtain rfl : j = m := by omega
          rw [List.getElem?_append_right (by omega), hl, Nat.sub_self]
          exact ⟨hk1, hk2⟩
    exact key n (Nat.le_refl _)
  exact ⟨b, o, ks, ha, hb, ⟨⟨h.len, hl, by omega, hc, h.words, fun j hj => (hk j hj).1, fun j hj => (hk j hj).2⟩, ⟨w1, w2⟩, ⟨h1, h2⟩, hA⟩⟩

set_option maxRecDepth 100000 in
set_option maxHeartbeats 3200000 in
theorem own_some {w : World} (W H : Int) (ad : Addr) (n c : Nat) (xs : List Nat) (hm : n ≤ 100000) (hM : AnyMap w (some ad) n c xs) :
    Calls Tryz.prog 127 #[.agg #[.int .i64 W, .int .i64 H, .slice (some ad) n c]] w (OwnPost w W H n xs 23) := by
  have hx := hM.len
  obtain ⟨i0, hi, hz0, hz1, hz2⟩ := info_parts Tryz.infoF32
  have Hx := Lib.hid hx
  have HM := Lib.hid hM
  clear hx hM
  go_enter Tryz.func127, Tryz.ntmps127
  go_wp2_with (at_builtin; go_loud (refine wpList_append_own _ rfl (.tmp 3) (.tmp 5) 46 rfl (w.heap.size + 2) 23 i0 (.float .f32 0) 1 4 Tryz.underlying46 hi hz0 hz1 hz2 rfl (by decide) (.slice (some ⟨w.heap.size + 1 + 1, 0, none⟩) 0 0) 0 [] rfl ?c0 ad n c (xs.map (Value.float .f32)) rfl (by simp [Hx.out]) ?c1 ?c2 ?c3 ?c4 ?c5 ?_))
  case c0 =>
    have h := World.ownsRow_made (base := w.heap.size + 2) (e := 23) (size := 1) ((w.alloc (.cells #[.int .i64 W, .int .i64 H, .slice (some ad) n c] 48)).alloc (.cells #[.int .i64 0, .int .i64 0, .slice none 0 0] 48)) #[] 0 (by simp) (by unfold maxLen; omega) rfl
    simpa using h
  case c1 =>
    intro j u hu
    have hj : j < n := by have := (List.getElem?_eq_some_iff.1 hu).1; simp [Hx.out] at this; exact this
    obtain ⟨b, o, ha, hb, hc⟩ := HM.out.cells j hj
    cases ha
    have hadd : (⟨b, o, none⟩ : Addr).add j = ⟨b, o + j, none⟩ := by unfold Addr.add; split <;> simp_all
    have e : u = .float .f32 (xs[j]?.getD 0) := by
      have hj' : j < xs.length := by rw [Hx.out]; exact hj
      simp [List.getElem?_map, List.getElem?_eq_getElem hj'] at hu
      simp [hj', hu]
    rw [hadd, e]
    exact ((((Below.refl _ w).alloc (Nat.le_refl _) _).alloc (by simp) _).alloc (by simp; try omega) _ |>.cell (by exact hb)).trans (hc j hj)
  case c2 => intro u hu; obtain ⟨x, _, rfl⟩ := List.mem_map.1 hu; rfl
  case c3 => unfold maxLen; omega
  case c4 => omega
  case c5 => simp
  intro v' w1 hown hgrow hiff
  have hex : ∃ g cap, v' = .slice (some ⟨g, 0, none⟩) n cap ∧ w.heap.size + 2 ≤ g ∧ g < w1.heap.size := by
    have hlt := hown.lt
    obtain ⟨_, hnil | ⟨g, cap, cur, rfl, _⟩⟩ := hown
    · exact (hiff hnil.1).elim
    · have := hlt g rfl
      exact ⟨g, cap, by simp, this.1, this.2⟩
  obtain ⟨g, cap, hv, hg1, hg2⟩ := hex
  rw [hv] at hown ⊢
  have hb1 := (Below.refl (w.heap.size + 2) _).grown hgrow (by simp; try omega) (fun k hk => by cases hk; simp)
  have s0 : w1.cell? ⟨w.heap.size, 0, none⟩ = some (.int .i64 W) := by rw [hb1.cell (by simp; try omega)]; simp [go_sem]
  have s1 : w1.cell? ⟨w.heap.size, 1, none⟩ = some (.int .i64 H) := by rw [hb1.cell (by simp; try omega)]; simp [go_sem]
  have s2 : w1.cell? ⟨w.heap.size, 2, none⟩ = some (.slice (some ad) n c) := by rw [hb1.cell (by simp; try omega)]; simp [go_sem]
  have r0 : w1.cell? ⟨w.heap.size + 1, 0, none⟩ = some (.int .i64 0) := by rw [hb1.cell (by simp; try omega)]; simp [go_sem]
  have r1 : w1.cell? ⟨w.heap.size + 1, 1, none⟩ = some (.int .i64 0) := by rw [hb1.cell (by simp; try omega)]; simp [go_sem]
  have r2 : w1.cell? ⟨w.heap.size + 1, 2, none⟩ = some (.slice none 0 0) := by rw [hb1.cell (by simp; try omega)]; simp [go_sem]
  have f2 : w1.frozen? ⟨w.heap.size, 2, none⟩ = false := by rw [hb1.frozen (by simp; try omega)]; simp [go_sem]
  have q0 : w1.frozen? ⟨w.heap.size + 1, 0, none⟩ = false := by rw [hb1.frozen (by simp; try omega)]; simp [go_sem]
  have q1 : w1.frozen? ⟨w.heap.size + 1, 1, none⟩ = false := by rw [hb1.frozen (by simp; try omega)]; simp [go_sem]
  have q2 : w1.frozen? ⟨w.heap.size + 1, 2, none⟩ = false := by rw [hb1.frozen (by simp; try omega)]; simp [go_sem]
  have HB := Lib.hid hb1
  have HV := Lib.hid hv
  have Hcell := Lib.hid (fun (j : Nat) (hj : j < n) => owns_cell hown (j := j) (v := .float .f32 (xs[j]?.getD 0)) (by have h := Hx.out; simp [h, hj]))
  have HOWN := Lib.hid hown
  clear hb1 hown hgrow hv
  go_wp2
  refine bodyPost_ret (v := .agg #[.int .i64 W, .int .i64 H, .slice (some ⟨g, 0, none⟩) n cap]) (by simp [results, Tryz.results127, go_sem, r0, r1, r2]) rfl ⟨g, cap, rfl, by omega, ?_, ?_, ?_, ?_⟩
  · simp; omega
  · intro j hj
    simp [go_sem, World.cell?_setCell_other]
    exact Hcell.out j hj
  · exact (((((((Below.refl _ w).alloc (Nat.le_refl _) _).alloc (by simp) _).alloc (by simp; try omega) _).trans (HB.out.mono (by omega))).setCell (p := ⟨w.heap.size, 2, none⟩) (by simp) _).setCell (p := ⟨w.heap.size + 1, 0, none⟩) (by simp) _).setCell (p := ⟨w.heap.size + 1, 1, none⟩) (by simp) _ |>.setCell (p := ⟨w.heap.size + 1, 2, none⟩) (by simp) _
  · have h := HOWN.out
    try simp only [Nat.zero_add, List.nil_append] at h
    exact owns_base (ownsRow_setCell_below (ownsRow_setCell_below (ownsRow_setCell_below (ownsRow_setCell_below h (by dsimp only; omega) _) (by dsimp only; omega) _) (by dsimp only; omega) _) (by dsimp only; omega) _) (by omega)


set_option maxRecDepth 100000 in
set_option maxHeartbeats 3200000 in
theorem own_nil {w : World} (W H : Int) :
    Calls Tryz.prog 127 #[.agg #[.int .i64 W, .int .i64 H, .slice none 0 0]] w (OwnPost w W H 0 [] 23) := by
  obtain ⟨i0, hi, hz0, hz1, hz2⟩ := info_parts Tryz.infoF32
  go_enter Tryz.func127, Tryz.ntmps127
  go_wp2_with (at_builtin; refine wpList_append_own_none rfl (.tmp 3) (.tmp 5) 46 rfl (w.heap.size + 2) 23 i0 1 Tryz.underlying46 hi (.slice (some ⟨w.heap.size + 1 + 1, 0, none⟩) 0 0) 0 [] rfl ?c0 rfl ?_)
  case c0 =>
    have h := World.ownsRow_made (base := w.heap.size + 2) (e := 23) (size := 1) ((w.alloc (.cells #[.int .i64 W, .int .i64 H, .slice none 0 0] 48)).alloc (.cells #[.int .i64 0, .int .i64 0, .slice none 0 0] 48)) #[] 0 (by simp) (by unfold maxLen; omega) rfl
    simpa using h
  go_wp2
  refine bodyPost_ret (v := .agg #[.int .i64 W, .int .i64 H, .slice (some ⟨w.heap.size + 2, 0, none⟩) 0 0]) (by simp [results, Tryz.results127, go_sem]) rfl ⟨w.heap.size + 2, 0, rfl, by omega, ?_, fun j hj => by omega, ?_, ?_⟩
  · simp
  · exact ((((Below.refl _ w).alloc (Nat.le_refl _) _).alloc (by simp) _).alloc (by simp; try omega) _)
  · have h := World.ownsRow_made (base := w.heap.size) (e := 23) (size := 1) ((w.alloc (.cells #[.int .i64 W, .int .i64 H, .slice (some ⟨w.heap.size + 1 + 1, 0, none⟩) 0 0] 48)).alloc (.cells #[.int .i64 W, .int .i64 H, .slice (some ⟨w.heap.size + 1 + 1, 0, none⟩) 0 0] 48)) #[] 0 (by simp; omega) (by unfold maxLen; omega) rfl
    simpa using h

theorem own_all {w : World} (W H : Int) (a : Option Addr) (n c : Nat) (xs : List Nat) (hm : n ≤ 100000) (hM : AnyMap w a n c xs) :
    Calls Tryz.prog 127 #[.agg #[.int .i64 W, .int .i64 H, .slice a n c]] w (OwnPost w W H n xs 23) := by
  rcases hM.isNil with ⟨rfl, rfl, rfl⟩ | ⟨ad, rfl⟩
  · obtain rfl : xs = [] := List.length_eq_zero_iff.1 hM.len
    exact own_nil W H
  · exact own_some W H ad n c xs hm hM

theorem OwnPost.map {w w' : World} {W H : Int} {n T : Nat} {xs : List Nat} {e : Ending} (h : OwnPost w W H n xs T e w') (hx : xs.length = n) (hw : ∀ j, j < n → xs[j]?.getD 0 < 2 ^ 32) :
    ∃ g c, e = .returned (.agg #[.int .i64 W, .int .i64 H, .slice (some ⟨g, 0, none⟩) n c]) ∧ AnyMap w' (some ⟨g, 0, none⟩) n c xs ∧ Below w.heap.size w w' := by
  obtain ⟨g, c, he, _, hg, hc, hb, _⟩ := h
  exact ⟨g, c, he, ⟨hx, hw, .inr ⟨_, rfl⟩, fun j hj => ⟨g, 0, rfl, hg, fun j hj => by rw [Nat.zero_add]; exact hc j hj⟩⟩, hb⟩

set_option maxRecDepth 100000 in
set_option maxHeartbeats 3200000 in
theorem lawOwn_all {w : World} (W H : Int) (a : Option Addr) (n c : Nat) (xs : List Nat) (hm : n ≤ 100000) (hM : AnyMap w a n c xs) :
    Calls Tryz.prog 38 #[.agg #[.int .i64 W, .int .i64 H, .slice a n c]] w (OwnPost w W H n xs 23) := by
  have K : ∀ w1 : World, Below w.heap.size w w1 → Calls Tryz.prog 127 #[.agg #[.int .i64 W, .int .i64 H, .slice a n c]] w1 (OwnPost w1 W H n xs 23) := fun w1 h =>
    own_all W H a n c xs hm (hM.below h (Nat.le_refl _))
  have HK := Lib.hid K
  clear K hM
  go_enter Tryz.func38, Tryz.ntmps38
  go_wp2_with fail
  refine (HK.out _ ?_).mono ?_
  · exact ((Below.refl _ w).alloc (Nat.le_refl _) _).alloc (by simp) _
  rintro e w1 ⟨g, cap, rfl, hg1, hg2, hcells, hb1, hown1⟩
  simp at hg1
  have r0 : w1.cell? ⟨w.heap.size + 1, 0, none⟩ = some (.int .i64 0) := by rw [hb1.cell (by simp; try omega)]; simp [go_sem]
  have r1 : w1.cell? ⟨w.heap.size + 1, 1, none⟩ = some (.int .i64 0) := by rw [hb1.cell (by simp; try omega)]; simp [go_sem]
  have r2 : w1.cell? ⟨w.heap.size + 1, 2, none⟩ = some (.slice none 0 0) := by rw [hb1.cell (by simp; try omega)]; simp [go_sem]
  have q0 : w1.frozen? ⟨w.heap.size + 1, 0, none⟩ = false := by rw [hb1.frozen (by simp; try omega)]; simp [go_sem]
  have q1 : w1.frozen? ⟨w.heap.size + 1, 1, none⟩ = false := by rw [hb1.frozen (by simp; try omega)]; simp [go_sem]
  have q2 : w1.frozen? ⟨w.heap.size + 1, 2, none⟩ = false := by rw [hb1.frozen (by simp; try omega)]; simp [go_sem]
  have HB := Lib.hid hb1
  have Hcell := Lib.hid hcells
  have HOWN := Lib.hid hown1
  clear hb1 hcells hown1
  go_wp2
  refine bodyPost_ret (v := .agg #[.int .i64 W, .int .i64 H, .slice (some ⟨g, 0, none⟩) n cap]) (by simp [results, Tryz.results38, go_sem, r0, r1, r2]) rfl ⟨g, cap, rfl, by omega, ?_, ?_, ?_, ?_⟩
  · simp; omega
  · intro j hj
    simp [go_sem, World.cell?_setCell_other]
    exact Hcell.out j hj
  · exact (((((Below.refl _ w).alloc (Nat.le_refl _) _).alloc (by simp) _).trans (HB.out.mono (by simp; omega))).setCell (p := ⟨w.heap.size + 1, 0, none⟩) (by simp) _).setCell (p := ⟨w.heap.size + 1, 1, none⟩) (by simp) _ |>.setCell (p := ⟨w.heap.size + 1, 2, none⟩) (by simp) _
  · have h := HOWN.out
    try simp only [World.size_alloc] at h
    exact owns_base (ownsRow_setCell_below (ownsRow_setCell_below (ownsRow_setCell_below h (by dsimp only; omega) _) (by dsimp only; omega) _) (by dsimp only; omega) _) (by omega)

set_option maxHeartbeats 800000 in
theorem shortMap_all (W H : Int) (a : Option Addr) (n c : Nat) (w : World) :
    Calls Tryz.prog 36 #[.agg #[.int .i64 W, .int .i64 H, .slice a n c]] w fun e w' => e = .returned (.bool (decide (n ≤ 160) || decide (n = 4097))) ∧ Below w.heap.size w w' := by
  have K : ∀ w1 : World, Calls Tryz.prog 122 #[.slice a n c] w1 fun e w' => e = .returned (.bool (decide (n ≤ 160) || decide (n = 4097))) ∧ w1 = w' := by
    intro w1
    by_cases h1 : n ≤ 160
    · rw [show (decide (n ≤ 160) || decide (n = 4097)) = true by simp [h1]]
      have t1 : ((n : Int) ≤ 160) = True := by simp; omega
      go_enter Tryz.func122, Tryz.ntmps122
      go_wp2
      go_ret
      exact ⟨rfl, rfl⟩
    · by_cases h2 : n = 4097
      · subst h2
        rw [show (decide (4097 ≤ 160) || decide (4097 = 4097)) = true by simp]
        go_enter Tryz.func122, Tryz.ntmps122
        go_wp2
        go_ret
        exact ⟨rfl, rfl⟩
      · rw [show (decide (n ≤ 160) || decide (n = 4097)) = false by simp [h1, h2]]
        have t1 : ((n : Int) ≤ 160) = False := by simp; omega
        have t2 : ((n : Int) == 4097) = false := by simp; omega
        go_enter Tryz.func122, Tryz.ntmps122
        go_wp2
        go_ret
        exact ⟨rfl, rfl⟩
  have HK := Lib.hid K
  clear K
  go_enter Tryz.func36, Tryz.ntmps36
  go_wp2_with (go_at_call 122; refine (HK.out _).mono ?_; rintro e w' ⟨rfl, rfl⟩)
  go_ret
  exact ⟨rfl, (Below.refl _ w).alloc (Nat.le_refl _) _⟩
end Go.Proofs.YtfdkmmllemkogaaGreatDoor

/-
  What the walks of chapter 1's rows share: the cells of a map's variable, a map's own copy.
-/
namespace Go.Proofs.YtfdkmmllemkogaaGreatDoor
open Go.RowKit
set_option linter.unusedVariables false
set_option linter.unusedSimpArgs false

theorem map_cells {w : World} {B : Nat} {W H : Int} {a : Option Addr} {n c : Nat} (h : w.heap[B]? = some (.cells #[.int .i64 W, .int .i64 H, .slice a n c] 48 (0, 0))) :
    w.cell? ⟨B, 0, none⟩ = some (.int .i64 W) ∧ w.cell? ⟨B, 1, none⟩ = some (.int .i64 H) ∧ w.cell? ⟨B, 2, none⟩ = some (.slice a n c) :=
  ⟨by rw [cell_of_row w _ 0 _ _ (0, 0) h]; rfl, by rw [cell_of_row w _ 1 _ _ (0, 0) h]; rfl, by rw [cell_of_row w _ 2 _ _ (0, 0) h]; rfl⟩
theorem own_of (W H : Int) (a : Option Addr) (n c : Nat) (xs : List Nat) (hm : n ≤ 100000) (wx : World) (hM : AnyMap wx a n c xs) : Calls Tryz.prog 38 #[.agg #[.int .i64 W, .int .i64 H, .slice a n c]] wx fun e w' =>
    ∃ g c', e = .returned (.agg #[.int .i64 W, .int .i64 H, .slice (some ⟨g, 0, none⟩) n c']) ∧ AnyMap w' (some ⟨g, 0, none⟩) n c' xs ∧ Below wx.heap.size wx w' :=
  (lawOwn_all W H a n c xs hm hM).mono fun e w' h => h.map hM.len hM.words
end Go.Proofs.YtfdkmmllemkogaaGreatDoor

/-
  What the rows of chapter 1 share: arguments that come in, opened; the table that Itoa reads; a world for the witness.
-/
namespace Go.Proofs.YtfdkmmllemkogaaGreatDoor
open Go.ChangeShapes Go.WideShapes Go.ChangeAt Go.RowKit Go.Joins Go.Deep
set_option linter.unusedVariables false

theorem ownKnobOff : ownKnob Tryz.prog.godebug = none := by kernel_rfl
theorem laidOut : laidOutB Tryz.prog = true := by kernel_rfl
theorem cellsMap : Tryz.prog.cellsOf 48 = 3 := by kernel_rfl
theorem cellsPoint : Tryz.prog.cellsOf 50 = 2 := by kernel_rfl
theorem cellsF : Tryz.prog.cellsOf 23 = 1 := by kernel_rfl

theorem float_form {H : Type} {enc : TypeId × Value → H} {P : Program} {W : World} {sp : Nat → Bool} {t k : Nat} {v : Value} {x : DataW H × List MemPlace} (ht : P.underlying t = some (.float .f32))
    (h : DataW.trod enc P W 0 sp true k t [v] = some x) : ∃ x : Nat, v = .float .f32 x ∧ x < 2 ^ 32 := by
  cases k with
  | zero => simp [DataW.trod] at h
  | succ n =>
    unfold DataW.trod at h
    rw [ht] at h
    split at h <;> simp_all
    rename_i k1 k2 b1 e2
    subst e2
    simpa [Lit.wf] using h.1.2
theorem plain_at {w : World} {a : Addr} {v : Value} (h : w.cell? a = some v) : a = ⟨a.block, a.off, none⟩ ∧ a.block < w.heap.size := by
  unfold World.cell? at h
  obtain ⟨b, o, s⟩ := a
  split at h
  · rename_i hh
    split at h
    · cases h
    · rename_i hs
      cases s with
      | none => exact ⟨rfl, (Array.getElem?_eq_some_iff.1 hh).1⟩
      | some _ => simp at hs
  · cases h


set_option maxRecDepth 100000 in
/-- A map that comes in, opened: whatever its length. -/
theorem openMap {H : Type} {enc : TypeId × Value → H} {W : World} {b0 : Nat} {v : Value} {d : DataW H} {p : List MemPlace}
    (hv : Value.okWide Tryz.prog W .any b0 48 v) (h : DataW.Trod enc Tryz.prog W 0 (fun _ => true) true 48 v d p) :
    ∃ (X Y : Int) (a : Option Addr) (n c : Nat) (xs : List Nat), v = .agg #[.int .i64 X, .int .i64 Y, .slice a n c] ∧ AnyMap W a n c xs := by
  obtain ⟨c0, c1, c2, y0, y1, y2, k, rfl, rfl, rfl, h0, h1, h2⟩ := open_agg3 Tryz.underlying48 (by kernel_rfl) cellsMap hv h
  obtain ⟨X, e0, rfl, wX⟩ := DataW.trod_int Tryz.underlying3 h0
  obtain ⟨Y, e1, rfl, wY⟩ := DataW.trod_int Tryz.underlying3 h1
  simp at e0 e1
  subst e0 e1
  rcases open_slice1 Tryz.underlying46 cellsF h2 with ⟨hcs, rfl⟩ | ⟨a, n, c, m, f, V, D, Pl, hcs, _, hl, hm, hmm, rfl, hx⟩
  · simp at hcs
    subst hcs
    exact ⟨X, Y, none, 0, 0, [], rfl, ⟨rfl, fun j hj => by omega, .inl ⟨rfl, rfl, rfl⟩, fun j hj => by omega⟩⟩
  · simp at hcs
    subst hcs
    have hnm : n ≤ m := by rw [hmm]; simp; exact hl
    have hxs : ∀ j, j < n → ∃ x : Nat, V j = .float .f32 x ∧ x < 2 ^ 32 := fun j hj => float_form Tryz.underlying23 (hx j (by omega)).2
    obtain ⟨xs, hxl, hxx⟩ : ∃ xs : List Nat, xs.length = n ∧ ∀ j, j < n → V j = .float .f32 (xs[j]?.getD 0) ∧ xs[j]?.getD 0 < 2 ^ 32 := by
      refine ⟨(List.range n).map (fun j => match V j with | .float _ x => x | _ => 0), by simp, fun j hj => ?_⟩
      obtain ⟨x, e, hx⟩ := hxs j hj
      rw [List.getElem?_map, List.getElem?_range hj]
      simp only [Option.map_some, Option.getD_some]
      rw [e]
      exact ⟨rfl, hx⟩
    refine ⟨X, Y, some a, n, c, xs, rfl, ⟨hxl, fun j hj => (hxx j hj).2, .inr ⟨a, rfl⟩, fun j hj => ?_⟩⟩
    have hpl : a = ⟨a.block, a.off, none⟩ := (plain_at (by simpa [Addr.add] using (hx 0 (by omega)).1)).1
    refine ⟨a.block, a.off, by rw [← hpl], ?_, fun j hj => ?_⟩
    · exact (plain_at (a := a) (by simpa [Addr.add] using (hx 0 (by omega)).1)).2
    · have h := (hx j (by omega)).1
      rw [(hxx j hj).1] at h
      rw [hpl, Addr.add_mid] at h
      exact h

set_option maxRecDepth 100000 in
theorem openPoint {H : Type} {enc : TypeId × Value → H} {W : World} {b0 : Nat} {v : Value} {d : DataW H} {p : List MemPlace}
    (hv : Value.okWide Tryz.prog W .any b0 50 v) (h : DataW.Trod enc Tryz.prog W 0 (fun _ => true) true 50 v d p) :
    ∃ (X Y : Int), v = .agg #[.int .i64 X, .int .i64 Y] := by
  obtain ⟨c0, c1, y0, y1, k, rfl, rfl, rfl, h0, h1⟩ := open_agg2 Tryz.underlying50 (by kernel_rfl) cellsPoint hv h
  obtain ⟨X, e0, rfl, wX⟩ := DataW.trod_int Tryz.underlying3 h0
  obtain ⟨Y, e1, rfl, wY⟩ := DataW.trod_int Tryz.underlying3 h1
  simp at e0 e1
  subst e0 e1
  exact ⟨X, Y, rfl⟩

/-! ### The table that Itoa reads, by the row's list -/

theorem gTab : Tryz.prog.globalNamed "internal/strconv.uint64pow10" = some 2 := by kernel_rfl
theorem gTabType : (Tryz.prog.globals[2]?).map (·.type) = some 317 := by kernel_rfl
theorem cellsTab : Tryz.prog.cellsOf 317 = 20 := by kernel_rfl
theorem cellsU : Tryz.prog.cellsOf 290 = 1 := by kernel_rfl
def laidList : List (String × DataW Unit) := [("math/bits.deBruijn32tab", Rows.laid_math_bits_deBruijn32tab), ("math/bits.deBruijn64tab", Rows.laid_math_bits_deBruijn64tab), ("internal/strconv.uint64pow10", Rows.laid_internal_strconv_uint64pow10)]
set_option maxRecDepth 100000 in
theorem tabAt_of {W : World} (h : laidMetH Tryz.prog laidList W) : TabAt W := by
  have h2 := h.filter (fun x => x.1 == "internal/strconv.uint64pow10")
  have e : laidList.filter (fun x => x.1 == "internal/strconv.uint64pow10") = [("internal/strconv.uint64pow10", Lib.tabData .u64 Lib.pow10Tab)] := by kernel_rfl
  rw [e] at h2
  exact Lib.tabIs_of_head (rest := []) gTab gTabType Tryz.underlying317 Tryz.underlying290 cellsU cellsTab h2

/-- A world for the witness: the settled one, the listed variables holding what the list says. -/
noncomputable def laidWorld (os : Os) : World := World.laidAll Tryz.prog os laidList
theorem laid_met (os : Os) (args : Array Value) : laidMet Tryz.prog laidList ((laidWorld os).forCall (fun _ _ => 0) ⟨#[], args, []⟩).memory :=
  laidMet_laidAll args (by kernel_rfl) (by kernel_rfl)
end Go.Proofs.YtfdkmmllemkogaaGreatDoor
