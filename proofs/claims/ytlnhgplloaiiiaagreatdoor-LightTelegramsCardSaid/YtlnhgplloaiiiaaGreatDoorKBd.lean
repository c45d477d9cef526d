/-
  Contracts of Own, of own and of ShortMap for every map of up to 100000 samples, nil or not.
-/
import Derived.Test.YtlnhgplloaiiiaaGreatDoorKBc
import Derived.Test.YtlnhgplloaiiiaaGreatDoorKWk
import Derived.Laws.AppendOwnNone
import Derived.Test.YtlnhgplloaiiiaaGreatDoorKVk
import Derived.Test.YtlnhgplloaiiiaaGreatDoorKFa
import Derived.Test.YtlnhgplloaiiiaaGreatDoorKXe
import Derived.Test.YtlnhgplloaiiiaaGreatDoorKZn
namespace Go.Proofs.YtlnhgplloaiiiaaGreatDoor
open Go.RowKit
set_option linter.unusedVariables false
set_option linter.unusedSimpArgs false

/-- Any map in memory: its words. -/
structure AnyMap (w : World) (a : Option Addr) (n c : Nat) (xs : List Nat) : Prop where
  len : xs.length = n
  words : ∀ j, j < n → xs[j]?.getD 0 < 2 ^ 32
  isNil : (a = none ∧ n = 0 ∧ c = 0) ∨ ∃ x, a = some x
  cells : ∀ j, j < n → ∃ b o, a = some ⟨b, o, none⟩ ∧ b < w.heap.size ∧ ∀ j, j < n → w.cell? ⟨b, o + j, none⟩ = some (.float .f32 (xs[j]?.getD 0))

theorem AnyMap.below {B : Nat} {w w' : World} {a : Option Addr} {n c : Nat} {xs : List Nat} (h : AnyMap w a n c xs) (hb : Below B w w') (hB : w.heap.size ≤ B) : AnyMap w' a n c xs :=
  ⟨h.len, h.words, h.isNil, fun j hj => by
    obtain ⟨b, o, ha, hlt, hc⟩ := h.cells j hj
    exact ⟨b, o, ha, by have := hb.size; omega, fun j hj => (hb.cell (by show b < B; omega)).trans (hc j hj)⟩⟩

/-- A right map: its integers. -/
theorem AnyMap.right {w : World} {W H : Int} {a : Option Addr} {n c : Nat} {xs : List Nat} (h : AnyMap w a n c xs) (h0 : mapErr W H n xs = 0) :
    ∃ b o ks, a = some ⟨b, o, none⟩ ∧ b < w.heap.size ∧ RightMap w W H b o n xs ks := by
  obtain ⟨w1, w2, h1, h2, hA, hS⟩ := mapErr_zero h.len h0
  have hn : 1 ≤ W * H := by
    have := Int.mul_le_mul w1 h1 (by omega) (by omega)
    omega
  have hm : W * H ≤ 4096 := by
    have := Int.mul_le_mul w2 h2 (by omega) (by omega)
    omega
  obtain ⟨b, o, ha, hb, hc⟩ := h.cells 0 (by omega)
  obtain ⟨ks, hl, hk⟩ : ∃ ks : List Int, ks.length = n ∧ ∀ j, j < n → Smp (xs[j]?.getD 0) (ks[j]?.getD 0) ∧ (ks[j]?.getD 0).natAbs ≤ 16384 := by
    have key : ∀ m, m ≤ n → ∃ ks : List Int, ks.length = m ∧ ∀ j, j < m → Smp (xs[j]?.getD 0) (ks[j]?.getD 0) ∧ (ks[j]?.getD 0).natAbs ≤ 16384 := by
      intro m
      induction m with
      | zero => intro _; exact ⟨[], rfl, fun j hj => by omega⟩
      | succ m ih =>
        intro hle
        obtain ⟨ks, hl, hk⟩ := ih (by omega)
        obtain ⟨k, hk1, hk2⟩ := hS m (by omega)
        refine ⟨ks ++ [k], by simp [hl], fun j hj => ?_⟩
        by_cases hjm : j < m
        · rw [List.getElem?_append_left (by omega)]; exact hk j hjm
        · obtain rfl : j = m := by omega
          rw [List.getElem?_append_right (by omega), hl, Nat.sub_self]
          exact ⟨hk1, hk2⟩
    exact key n (Nat.le_refl _)
  exact ⟨b, o, ks, ha, hb, ⟨⟨h.len, hl, by omega, hc, h.words, fun j hj => (hk j hj).1, fun j hj => (hk j hj).2⟩, ⟨w1, w2⟩, ⟨h1, h2⟩, hA⟩⟩

set_option maxRecDepth 100000 in
set_option maxHeartbeats 3200000 in
theorem own_some {w : World} (W H : Int) (ad : Addr) (n c : Nat) (xs : List Nat) (hm : n ≤ 100000) (hM : AnyMap w (some ad) n c xs) :
    Calls Tryz.prog 109 #[.agg #[.int .i64 W, .int .i64 H, .slice (some ad) n c]] w (OwnPost w W H n xs 23) := by
  have hx := hM.len
  obtain ⟨i0, hi, hz0, hz1, hz2⟩ := info_parts Tryz.infoF32
  have Hx := Lib.hid hx
  have HM := Lib.hid hM
  clear hx hM
  go_enter Tryz.func109, Tryz.ntmps109
  go_wp2_with (at_builtin; go_loud (refine wpList_append_own _ rfl (.tmp 3) (.tmp 5) 46 rfl (w.heap.size + 2) 23 i0 (.float .f32 0) 1 4 Tryz.underlying46 hi hz0 hz1 hz2 rfl (by decide) (.slice (some ⟨w.heap.size + 1 + 1, 0, none⟩) 0 0) 0 [] rfl ?c0 ad n c (xs.map (Value.float .f32)) rfl (by simp [Hx.out]) ?c1 ?c2 ?c3 ?c4 ?c5 ?_))
  case c0 =>
    have h := World.ownsRow_made (base := w.heap.size + 2) (e := 23) (size := 1) ((w.alloc (.cells #[.int .i64 W, .int .i64 H, .slice (some ad) n c] 48)).alloc (.cells #[.int .i64 0, .int .i64 0, .slice none 0 0] 48)) #[] 0 (by simp) (by unfold maxLen; omega) rfl
    simpa using h
  case c1 =>
    intro j u hu
    have hj : j < n := by have := (List.getElem?_eq_some_iff.1 hu).1; simp [Hx.out] at this; exact this
    obtain ⟨b, o, ha, hb, hc⟩ := HM.out.cells j hj
    cases ha
    have hadd : (⟨b, o, none⟩ : Addr).add j = ⟨b, o + j, none⟩ := by unfold Addr.add; split <;> simp_all
    have e : u = .float .f32 (xs[j]?.getD 0) := by
      have hj' : j < xs.length := by rw [Hx.out]; exact hj
      simp [List.getElem?_map, List.getElem?_eq_getElem hj'] at hu
      simp [hj', hu]
    rw [hadd, e]
    exact ((((Below.refl _ w).alloc (Nat.le_refl _) _).alloc (by simp) _).alloc (by simp; try omega) _ |>.cell (by exact hb)).trans (hc j hj)
  case c2 => intro u hu; obtain ⟨x, _, rfl⟩ := List.mem_map.1 hu; rfl
  case c3 => unfold maxLen; omega
  case c4 => omega
  case c5 => simp
  intro v' w1 hown hgrow hiff
  have hex : ∃ g cap, v' = .slice (some ⟨g, 0, none⟩) n cap ∧ w.heap.size + 2 ≤ g ∧ g < w1.heap.size := by
    have hlt := hown.lt
    obtain ⟨_, hnil | ⟨g, cap, cur, rfl, _⟩⟩ := hown
    · exact (hiff hnil.1).elim
    · have := hlt g rfl
      exact ⟨g, cap, by simp, this.1, this.2⟩
  obtain ⟨g, cap, hv, hg1, hg2⟩ := hex
  rw [hv] at hown ⊢
  have hb1 := (Below.refl (w.heap.size + 2) _).grown hgrow (by simp; try omega) (fun k hk => by cases hk; simp)
  have s0 : w1.cell? ⟨w.heap.size, 0, none⟩ = some (.int .i64 W) := by rw [hb1.cell (by simp; try omega)]; simp [go_sem]
  have s1 : w1.cell? ⟨w.heap.size, 1, none⟩ = some (.int .i64 H) := by rw [hb1.cell (by simp; try omega)]; simp [go_sem]
  have s2 : w1.cell? ⟨w.heap.size, 2, none⟩ = some (.slice (some ad) n c) := by rw [hb1.cell (by simp; try omega)]; simp [go_sem]
  have r0 : w1.cell? ⟨w.heap.size + 1, 0, none⟩ = some (.int .i64 0) := by rw [hb1.cell (by simp; try omega)]; simp [go_sem]
  have r1 : w1.cell? ⟨w.heap.size + 1, 1, none⟩ = some (.int .i64 0) := by rw [hb1.cell (by simp; try omega)]; simp [go_sem]
  have r2 : w1.cell? ⟨w.heap.size + 1, 2, none⟩ = some (.slice none 0 0) := by rw [hb1.cell (by simp; try omega)]; simp [go_sem]
  have f2 : w1.frozen? ⟨w.heap.size, 2, none⟩ = false := by rw [hb1.frozen (by simp; try omega)]; simp [go_sem]
  have q0 : w1.frozen? ⟨w.heap.size + 1, 0, none⟩ = false := by rw [hb1.frozen (by simp; try omega)]; simp [go_sem]
  have q1 : w1.frozen? ⟨w.heap.size + 1, 1, none⟩ = false := by rw [hb1.frozen (by simp; try omega)]; simp [go_sem]
  have q2 : w1.frozen? ⟨w.heap.size + 1, 2, none⟩ = false := by rw [hb1.frozen (by simp; try omega)]; simp [go_sem]
  have HB := Lib.hid hb1
  have HV := Lib.hid hv
  have Hcell := Lib.hid (fun (j : Nat) (hj : j < n) => owns_cell hown (j := j) (v := .float .f32 (xs[j]?.getD 0)) (by have h := Hx.out; simp [h, hj]))
  have HOWN := Lib.hid hown
  clear hb1 hown hgrow hv
  go_wp2
  refine bodyPost_ret (v := .agg #[.int .i64 W, .int .i64 H, .slice (some ⟨g, 0, none⟩) n cap]) (by simp [results, Tryz.results109, go_sem, r0, r1, r2]) rfl ⟨g, cap, rfl, by omega, ?_, ?_, ?_, ?_⟩
  · simp; omega
  · intro j hj
    simp [go_sem, World.cell?_setCell_other]
    exact Hcell.out j hj
  · exact (((((((Below.refl _ w).alloc (Nat.le_refl _) _).alloc (by simp) _).alloc (by simp; try omega) _).trans (HB.out.mono (by omega))).setCell (p := ⟨w.heap.size, 2, none⟩) (by simp) _).setCell (p := ⟨w.heap.size + 1, 0, none⟩) (by simp) _).setCell (p := ⟨w.heap.size + 1, 1, none⟩) (by simp) _ |>.setCell (p := ⟨w.heap.size + 1, 2, none⟩) (by simp) _
  · have h := HOWN.out
    try simp only [Nat.zero_add, List.nil_append] at h
    exact owns_base (ownsRow_setCell_below (ownsRow_setCell_below (ownsRow_setCell_below (ownsRow_setCell_below h (by dsimp only; omega) _) (by dsimp only; omega) _) (by dsimp only; omega) _) (by dsimp only; omega) _) (by omega)


set_option maxRecDepth 100000 in
set_option maxHeartbeats 3200000 in
theorem own_nil {w : World} (W H : Int) :
    Calls Tryz.prog 109 #[.agg #[.int .i64 W, .int .i64 H, .slice none 0 0]] w (OwnPost w W H 0 [] 23) := by
  obtain ⟨i0, hi, hz0, hz1, hz2⟩ := info_parts Tryz.infoF32
  go_enter Tryz.func109, Tryz.ntmps109
  go_wp2_with (at_builtin; refine wpList_append_own_none rfl (.tmp 3) (.tmp 5) 46 rfl (w.heap.size + 2) 23 i0 1 Tryz.underlying46 hi (.slice (some ⟨w.heap.size + 1 + 1, 0, none⟩) 0 0) 0 [] rfl ?c0 rfl ?_)
  case c0 =>
    have h := World.ownsRow_made (base := w.heap.size + 2) (e := 23) (size := 1) ((w.alloc (.cells #[.int .i64 W, .int .i64 H, .slice none 0 0] 48)).alloc (.cells #[.int .i64 0, .int .i64 0, .slice none 0 0] 48)) #[] 0 (by simp) (by unfold maxLen; omega) rfl
    simpa using h
  go_wp2
  refine bodyPost_ret (v := .agg #[.int .i64 W, .int .i64 H, .slice (some ⟨w.heap.size + 2, 0, none⟩) 0 0]) (by simp [results, Tryz.results109, go_sem]) rfl ⟨w.heap.size + 2, 0, rfl, by omega, ?_, fun j hj => by omega, ?_, ?_⟩
  · simp
  · exact ((((Below.refl _ w).alloc (Nat.le_refl _) _).alloc (by simp) _).alloc (by simp; try omega) _)
  · have h := World.ownsRow_made (base := w.heap.size) (e := 23) (size := 1) ((w.alloc (.cells #[.int .i64 W, .int .i64 H, .slice (some ⟨w.heap.size + 1 + 1, 0, none⟩) 0 0] 48)).alloc (.cells #[.int .i64 W, .int .i64 H, .slice (some ⟨w.heap.size + 1 + 1, 0, none⟩) 0 0] 48)) #[] 0 (by simp; omega) (by unfold maxLen; omega) rfl
    simpa using h

theorem own_all {w : World} (W H : Int) (a : Option Addr) (n c : Nat) (xs : List Nat) (hm : n ≤ 100000) (hM : AnyMap w a n c xs) :
    Calls Tryz.prog 109 #[.agg #[.int .i64 W, .int .i64 H, .slice a n c]] w (OwnPost w W H n xs 23) := by
  rcases hM.isNil with ⟨rfl, rfl, rfl⟩ | ⟨ad, rfl⟩
  · obtain rfl : xs = [] := List.length_eq_zero_iff.1 hM.len
    exact own_nil W H
  · exact own_some W H ad n c xs hm hM

theorem OwnPost.map {w w' : World} {W H : Int} {n T : Nat} {xs : List Nat} {e : Ending} (h : OwnPost w W H n xs T e w') (hx : xs.length = n) (hw : ∀ j, j < n → xs[j]?.getD 0 < 2 ^ 32) :
    ∃ g c, e = .returned (.agg #[.int .i64 W, .int .i64 H, .slice (some ⟨g, 0, none⟩) n c]) ∧ AnyMap w' (some ⟨g, 0, none⟩) n c xs ∧ Below w.heap.size w w' := by
  obtain ⟨g, c, he, _, hg, hc, hb, _⟩ := h
  exact ⟨g, c, he, ⟨hx, hw, .inr ⟨_, rfl⟩, fun j hj => ⟨g, 0, rfl, hg, fun j hj => by rw [Nat.zero_add]; exact hc j hj⟩⟩, hb⟩

set_option maxRecDepth 100000 in
set_option maxHeartbeats 3200000 in
theorem lawOwn_all {w : World} (W H : Int) (a : Option Addr) (n c : Nat) (xs : List Nat) (hm : n ≤ 100000) (hM : AnyMap w a n c xs) :
    Calls Tryz.prog 32 #[.agg #[.int .i64 W, .int .i64 H, .slice a n c]] w (OwnPost w W H n xs 23) := by
  have K : ∀ w1 : World, Below w.heap.size w w1 → Calls Tryz.prog 109 #[.agg #[.int .i64 W, .int .i64 H, .slice a n c]] w1 (OwnPost w1 W H n xs 23) := fun w1 h =>
    own_all W H a n c xs hm (hM.below h (Nat.le_refl _))
  have HK := Lib.hid K
  clear K hM
  go_enter Tryz.func32, Tryz.ntmps32
  go_wp2_with fail
  refine (HK.out _ ?_).mono ?_
  · exact ((Below.refl _ w).alloc (Nat.le_refl _) _).alloc (by simp) _
  rintro e w1 ⟨g, cap, rfl, hg1, hg2, hcells, hb1, hown1⟩
  simp at hg1
  have r0 : w1.cell? ⟨w.heap.size + 1, 0, none⟩ = some (.int .i64 0) := by rw [hb1.cell (by simp; try omega)]; simp [go_sem]
  have r1 : w1.cell? ⟨w.heap.size + 1, 1, none⟩ = some (.int .i64 0) := by rw [hb1.cell (by simp; try omega)]; simp [go_sem]
  have r2 : w1.cell? ⟨w.heap.size + 1, 2, none⟩ = some (.slice none 0 0) := by rw [hb1.cell (by simp; try omega)]; simp [go_sem]
  have q0 : w1.frozen? ⟨w.heap.size + 1, 0, none⟩ = false := by rw [hb1.frozen (by simp; try omega)]; simp [go_sem]
  have q1 : w1.frozen? ⟨w.heap.size + 1, 1, none⟩ = false := by rw [hb1.frozen (by simp; try omega)]; simp [go_sem]
  have q2 : w1.frozen? ⟨w.heap.size + 1, 2, none⟩ = false := by rw [hb1.frozen (by simp; try omega)]; simp [go_sem]
  have HB := Lib.hid hb1
  have Hcell := Lib.hid hcells
  have HOWN := Lib.hid hown1
  clear hb1 hcells hown1
  go_wp2
  refine bodyPost_ret (v := .agg #[.int .i64 W, .int .i64 H, .slice (some ⟨g, 0, none⟩) n cap]) (by simp [results, Tryz.results32, go_sem, r0, r1, r2]) rfl ⟨g, cap, rfl, by omega, ?_, ?_, ?_, ?_⟩
  · simp; omega
  · intro j hj
    simp [go_sem, World.cell?_setCell_other]
    exact Hcell.out j hj
  · exact (((((Below.refl _ w).alloc (Nat.le_refl _) _).alloc (by simp) _).trans (HB.out.mono (by simp; omega))).setCell (p := ⟨w.heap.size + 1, 0, none⟩) (by simp) _).setCell (p := ⟨w.heap.size + 1, 1, none⟩) (by simp) _ |>.setCell (p := ⟨w.heap.size + 1, 2, none⟩) (by simp) _
  · have h := HOWN.out
    try simp only [World.size_alloc] at h
    exact owns_base (ownsRow_setCell_below (ownsRow_setCell_below (ownsRow_setCell_below h (by dsimp only; omega) _) (by dsimp only; omega) _) (by dsimp only; omega) _) (by omega)

set_option maxHeartbeats 800000 in
theorem shortMap_all (W H : Int) (a : Option Addr) (n c : Nat) (w : World) :
    Calls Tryz.prog 30 #[.agg #[.int .i64 W, .int .i64 H, .slice a n c]] w fun e w' => e = .returned (.bool (decide (n ≤ 160) || decide (n = 4097))) ∧ Below w.heap.size w w' := by
  have K : ∀ w1 : World, Calls Tryz.prog 104 #[.slice a n c] w1 fun e w' => e = .returned (.bool (decide (n ≤ 160) || decide (n = 4097))) ∧ w1 = w' := by
    intro w1
    by_cases h1 : n ≤ 160
    · rw [show (decide (n ≤ 160) || decide (n = 4097)) = true by simp [h1]]
      have t1 : ((n : Int) ≤ 160) = True := by simp; omega
      go_enter Tryz.func104, Tryz.ntmps104
      go_wp2
      go_ret
      exact ⟨rfl, rfl⟩
    · by_cases h2 : n = 4097
      · subst h2
        rw [show (decide (4097 ≤ 160) || decide (4097 = 4097)) = true by simp]
        go_enter Tryz.func104, Tryz.ntmps104
        go_wp2
        go_ret
        exact ⟨rfl, rfl⟩
      · rw [show (decide (n ≤ 160) || decide (n = 4097)) = false by simp [h1, h2]]
        have t1 : ((n : Int) ≤ 160) = False := by simp; omega
        have t2 : ((n : Int) == 4097) = false := by simp; omega
        go_enter Tryz.func104, Tryz.ntmps104
        go_wp2
        go_ret
        exact ⟨rfl, rfl⟩
  have HK := Lib.hid K
  clear K
  go_enter Tryz.func30, Tryz.ntmps30
  go_wp2_with (go_at_call 104; refine (HK.out _).mono ?_; rintro e w' ⟨rfl, rfl⟩)
  go_ret
  exact ⟨rfl, (Below.refl _ w).alloc (Nat.le_refl _) _⟩
end Go.Proofs.YtlnhgplloaiiiaaGreatDoor

/-
  What the walks of chapter 1's rows share: the cells of a map's variable, a map's own copy.
-/
namespace Go.Proofs.YtlnhgplloaiiiaaGreatDoor
open Go.RowKit
set_option linter.unusedVariables false
set_option linter.unusedSimpArgs false

theorem map_cells {w : World} {B : Nat} {W H : Int} {a : Option Addr} {n c : Nat} (h : w.heap[B]? = some (.cells #[.int .i64 W, .int .i64 H, .slice a n c] 48 (0, 0))) :
    w.cell? ⟨B, 0, none⟩ = some (.int .i64 W) ∧ w.cell? ⟨B, 1, none⟩ = some (.int .i64 H) ∧ w.cell? ⟨B, 2, none⟩ = some (.slice a n c) :=
  ⟨by rw [cell_of_row w _ 0 _ _ (0, 0) h]; rfl, by rw [cell_of_row w _ 1 _ _ (0, 0) h]; rfl, by rw [cell_of_row w _ 2 _ _ (0, 0) h]; rfl⟩
theorem own_of (W H : Int) (a : Option Addr) (n c : Nat) (xs : List Nat) (hm : n ≤ 100000) (wx : World) (hM : AnyMap wx a n c xs) : Calls Tryz.prog 32 #[.agg #[.int .i64 W, .int .i64 H, .slice a n c]] wx fun e w' =>
    ∃ g c', e = .returned (.agg #[.int .i64 W, .int .i64 H, .slice (some ⟨g, 0, none⟩) n c']) ∧ AnyMap w' (some ⟨g, 0, none⟩) n c' xs ∧ Below wx.heap.size wx w' :=
  (lawOwn_all W H a n c xs hm hM).mono fun e w' h => h.map hM.len hM.words
end Go.Proofs.YtlnhgplloaiiiaaGreatDoor

/-
  The walk of LightNames.
-/
namespace Go.Proofs.YtlnhgplloaiiiaaGreatDoor
open Go.RowKit Go.Shelf
set_option linter.unusedVariables false
set_option linter.unusedSimpArgs false

set_option maxHeartbeats 1600000 in
theorem nFirst_any (b o n c : Nat) (zs : List Int) (hz : zs.length = n) (hm : n ≤ 4611686018427387904) (w : World)
    (hc : ∀ j, j < n → w.cell? ⟨b, o + j, none⟩ = some (.int .i64 (zs[j]?.getD 0))) :
    Calls Tryz.prog 15 #[.slice (some ⟨b, o, none⟩) n c] w fun e w' => e = .returned (.int .i64 (firstNZ zs)) ∧ w = w' := by
  have K := Lib.hid (refFirst_any b o n c zs hz hm w hc)
  clear hz hm hc
  go_enter Tryz.func15, Tryz.ntmps15
  go_wp2_with (go_at_call 93; refine K.out.mono ?_; rintro e w1 ⟨rfl, rfl⟩)
  go_ret
  exact ⟨rfl, rfl⟩

theorem refDraw_all (key n : Int) (h : drawErr key n = 0) (w : World) :
    Calls Tryz.prog 18 #[.int .i64 key, .int .i64 n] w fun e w' => ∃ v, e = .returned v ∧ IntsV w' v (drawN key n) (drawL key n.toNat) ∧ Below w.heap.size w w' := by
  obtain ⟨hk, hn⟩ := drawErr_zero h
  obtain ⟨m, rfl⟩ := Int.eq_ofNat_of_zero_le hn.1
  refine (refDraw_any key m hk (by omega) w).mono ?_
  rintro e w' ⟨v, rfl, ho, hb⟩
  refine ⟨v, rfl, ?_, hb⟩
  unfold drawN
  rw [if_pos h]
  exact IntsV.of_row ho
theorem drawN_le (key n : Int) : drawN key n ≤ 4096 ∧ (drawErr key n ≠ 0 → drawN key n = 0) := by
  unfold drawN
  split
  · rename_i h
    have := (drawErr_zero h).2
    exact ⟨by omega, fun h' => absurd h h'⟩
  · exact ⟨by omega, fun _ => rfl⟩

set_option maxRecDepth 1000000 in
set_option maxHeartbeats 12800000 in
theorem names_all (w : World) (s : ByteArray) (n0 n1 n2 n3 n4 n5 n6 : Int) (x : Nat) (hs : s.size ≤ maxLen) (hx : x < 2 ^ 32) (ht : TabAt w) :
    Calls Tryz.prog 3 #[.string s, .agg #[.int .i64 n0, .int .i64 n1, .int .i64 n2, .int .i64 n3, .int .i64 n4, .int .i64 n5, .int .i64 n6], .float .f32 x] w (TruePost w) := by
  obtain ⟨W0, hW0⟩ : ∃ W0, w.alloc (.cells #[.int .i64 n0, .int .i64 n1, .int .i64 n2, .int .i64 n3, .int .i64 n4, .int .i64 n5, .int .i64 n6] 22) = W0 := ⟨_, rfl⟩
  have hB0 : Below w.heap.size w W0 := by rw [← hW0]; exact (Below.refl _ w).alloc (Nat.le_refl _) _
  have hS0 : w.heap.size < W0.heap.size := by rw [← hW0]; simp
  have a0 : W0.cell? ⟨w.heap.size, 0, none⟩ = some (.int .i64 n0) := by rw [← hW0]; simp [go_sem]
  have a1 : W0.cell? ⟨w.heap.size, 1, none⟩ = some (.int .i64 n1) := by rw [← hW0]; simp [go_sem]
  have a2 : W0.cell? ⟨w.heap.size, 2, none⟩ = some (.int .i64 n2) := by rw [← hW0]; simp [go_sem]
  have a3 : W0.cell? ⟨w.heap.size, 3, none⟩ = some (.int .i64 n3) := by rw [← hW0]; simp [go_sem]
  have a4 : W0.cell? ⟨w.heap.size, 4, none⟩ = some (.int .i64 n4) := by rw [← hW0]; simp [go_sem]
  have a5 : W0.cell? ⟨w.heap.size, 5, none⟩ = some (.int .i64 n5) := by rw [← hW0]; simp [go_sem]
  have a6 : W0.cell? ⟨w.heap.size, 6, none⟩ = some (.int .i64 n6) := by rw [← hW0]; simp [go_sem]
  by_cases hlen : 40 < s.size
  · have HB0 := Lib.hid hB0
    have KW := Lib.hid (awake_any W0 (ht.on hB0))
    clear ht hs hx hB0
    unfold maxLen at *
    go_enter Tryz.func3, Tryz.ntmps3
    go_upto_region 1 with fail
    try rw [hW0]
    clear hW0
    go_wp2_with (go_at_call 13; refine KW.out.mono ?_; rintro e w1 ⟨rfl, hb1⟩)
    go_ret
    exact ⟨rfl, HB0.out.trans (hb1.mono HB0.out.size)⟩
  have KD := Lib.hid (draw_all n0 n1 W0)
  obtain ⟨hN1, hN2⟩ := drawN_le n0 n1
  have HT := Lib.hid ht
  have HB0 := Lib.hid hB0
  have HN2 := Lib.hid hN2
  have hs2 := hs
  unfold maxLen at hs2
  have HS := Lib.hid hs
  have HX := Lib.hid hx
  clear ht hs hx hB0 hN2
  obtain ⟨r, hr⟩ : ∃ r : Int, drawErr n0 n1 = r := ⟨_, rfl⟩
  rw [hr] at KD HN2
  have HR := Lib.hid hr
  clear hr
  go_enter Tryz.func3, Tryz.ntmps3
  go_upto_region 1 with fail
  try rw [hW0]
  clear hW0
  go_upto_region 4 with (go_at_call 14; refine KD.out.mono ?_; rintro e w1 ⟨v, rfl, hv1, hb1⟩)
  have HV1 := Lib.hid hv1
  clear KD hv1
  have b0 : w1.cell? ⟨w.heap.size, 0, none⟩ = some (.int .i64 n0) := (hb1.cell (p := ⟨w.heap.size, 0, none⟩) hS0).trans a0
  have b1 : w1.cell? ⟨w.heap.size, 1, none⟩ = some (.int .i64 n1) := (hb1.cell (p := ⟨w.heap.size, 1, none⟩) hS0).trans a1
  have b2 : w1.cell? ⟨w.heap.size, 2, none⟩ = some (.int .i64 n2) := (hb1.cell (p := ⟨w.heap.size, 2, none⟩) hS0).trans a2
  have b3 : w1.cell? ⟨w.heap.size, 3, none⟩ = some (.int .i64 n3) := (hb1.cell (p := ⟨w.heap.size, 3, none⟩) hS0).trans a3
  have b4 : w1.cell? ⟨w.heap.size, 4, none⟩ = some (.int .i64 n4) := (hb1.cell (p := ⟨w.heap.size, 4, none⟩) hS0).trans a4
  have b5 : w1.cell? ⟨w.heap.size, 5, none⟩ = some (.int .i64 n5) := (hb1.cell (p := ⟨w.heap.size, 5, none⟩) hS0).trans a5
  have b6 : w1.cell? ⟨w.heap.size, 6, none⟩ = some (.int .i64 n6) := (hb1.cell (p := ⟨w.heap.size, 6, none⟩) hS0).trans a6
  have hS1 : w.heap.size < w1.heap.size := Nat.lt_of_lt_of_le hS0 hb1.size
  have HB1 := Lib.hid (HB0.out.trans (hb1.mono HB0.out.size))
  clear a0 a1 a2 a3 a4 a5 a6 hb1 HB0 hS0
  go_cut [9] (fun s9 wr => s9 = .int .i64 r ∧ ∃ W2 : World, W2 = wr ∧ Below w1.heap.size w1 W2)
  case first =>
    have hbx : Below w1.heap.size w1 ((w1.alloc (.cells #[.int .i64 (rangeErr n0 1 2147483646), .int .i64 (rangeErr n1 0 256)] 3)).drew) := ((Below.refl w1.heap.size w1).alloc (Nat.le_refl _) _).drew
    have hby : Below w1.heap.size w1 ((w1.drew).alloc (.cells #[.int .i64 (rangeErr n0 1 2147483646), .int .i64 (rangeErr n1 0 256)] 3)) := ((Below.refl w1.heap.size w1).drew).alloc (Nat.le_refl _) _
    go_region_held3 (fun w' => w'.cell? ⟨w.heap.size, 0, none⟩ = some (.int .i64 n0) ∧ w'.cell? ⟨w.heap.size, 1, none⟩ = some (.int .i64 n1))
      (first | go_keep | (go_split_ands; refine ⟨?_, ?_⟩ <;> assumption))
      (first
        | (go_at_call 16; refine (refCheckKey_any _ _).mono ?_; rintro e w2 ⟨rfl, rfl⟩)
        | (go_at_call 17; refine (refCheckRange_any _ _ _ _).mono ?_; rintro e w2 ⟨rfl, rfl⟩)
        | ((go_at_call 15; refine (nFirst_any _ 0 2 2 [rangeErr n0 1 2147483646, rangeErr n1 0 256] rfl (by omega) _ ?_).mono ?_; rotate_left 1; rintro e w' ⟨rfl, rfl⟩; rw [show firstNZ [rangeErr n0 1 2147483646, rangeErr n1 0 256] = r from HR.out]; rotate_left 1; (intro j hj; match j, hj with | 0, _ => simp [go_sem] | 1, _ => simp [go_sem]))))
    all_goals go_wp2_with fail
    all_goals go_meet
    all_goals first | exact ⟨rfl, _, rfl, hbx⟩ | exact ⟨rfl, _, rfl, hby⟩
  case rest =>
    obtain ⟨rfl, W2, rfl, hb2⟩ := hcut
    have hv2 := HV1.out.kept hb2
    have HB2 := Lib.hid (HB1.out.trans (hb2.mono HB1.out.size))
    have hS2 : w.heap.size < W2.heap.size := Nat.lt_of_lt_of_le hS1 hb2.size
    have c0 : W2.cell? ⟨w.heap.size, 0, none⟩ = some (.int .i64 n0) := (hb2.cell (p := ⟨w.heap.size, 0, none⟩) hS1).trans b0
    have c1 : W2.cell? ⟨w.heap.size, 1, none⟩ = some (.int .i64 n1) := (hb2.cell (p := ⟨w.heap.size, 1, none⟩) hS1).trans b1
    have c2 : W2.cell? ⟨w.heap.size, 2, none⟩ = some (.int .i64 n2) := (hb2.cell (p := ⟨w.heap.size, 2, none⟩) hS1).trans b2
    have c3 : W2.cell? ⟨w.heap.size, 3, none⟩ = some (.int .i64 n3) := (hb2.cell (p := ⟨w.heap.size, 3, none⟩) hS1).trans b3
    have c4 : W2.cell? ⟨w.heap.size, 4, none⟩ = some (.int .i64 n4) := (hb2.cell (p := ⟨w.heap.size, 4, none⟩) hS1).trans b4
    have c5 : W2.cell? ⟨w.heap.size, 5, none⟩ = some (.int .i64 n5) := (hb2.cell (p := ⟨w.heap.size, 5, none⟩) hS1).trans b5
    have c6 : W2.cell? ⟨w.heap.size, 6, none⟩ = some (.int .i64 n6) := (hb2.cell (p := ⟨w.heap.size, 6, none⟩) hS1).trans b6
    have HV2 := Lib.hid hv2
    clear b0 b1 b2 b3 b4 b5 b6 hb2 HB1 HV1 hS1 hv2
    go_upto_if 34 with fail
    go_cut [10] (fun s10 wr => ∃ V W3, V = s10 ∧ W3 = wr ∧ IntsV W3 V (drawN n0 n1) (drawL n0 n1.toNat) ∧ Below W2.heap.size W2 W3)
    case first =>
      by_cases h0 : r = 0
      · have e0 : (r == 0) = true := by simp [h0]
        have KR := Lib.hid (refDraw_all n0 n1 (HR.out.trans h0) W2)
        clear h0
        go_wp2_with (go_at_call 18; refine KR.out.mono ?_; rintro e w3 ⟨v3, rfl, hv3, hb3⟩)
        go_meet
        exact ⟨_, _, rfl, rfl, hv3, hb3⟩
      · have e0 : (r == 0) = false := by simp [h0]
        have hv3 : IntsV W2 (.slice none 0 0) (drawN n0 n1) (drawL n0 n1.toNat) := by rw [HN2.out h0]; exact IntsV.nil _ _
        have hb3 := Below.refl W2.heap.size W2
        have HV3 := Lib.hid hv3
        clear h0 hv3
        go_wp2_with fail
        go_meet
        exact ⟨_, _, rfl, rfl, HV3.out, hb3⟩
    case rest =>
      obtain ⟨V, W3, rfl, rfl, hv3, hb3⟩ := hcut
      have hvv := HV2.out.kept hb3
      have HB3 := Lib.hid (HB2.out.trans (hb3.mono HB2.out.size))
      have hS3 : w.heap.size < W3.heap.size := Nat.lt_of_lt_of_le hS2 hb3.size
      have d0 : W3.cell? ⟨w.heap.size, 0, none⟩ = some (.int .i64 n0) := (hb3.cell (p := ⟨w.heap.size, 0, none⟩) hS2).trans c0
      have d1 : W3.cell? ⟨w.heap.size, 1, none⟩ = some (.int .i64 n1) := (hb3.cell (p := ⟨w.heap.size, 1, none⟩) hS2).trans c1
      have d2 : W3.cell? ⟨w.heap.size, 2, none⟩ = some (.int .i64 n2) := (hb3.cell (p := ⟨w.heap.size, 2, none⟩) hS2).trans c2
      have d3 : W3.cell? ⟨w.heap.size, 3, none⟩ = some (.int .i64 n3) := (hb3.cell (p := ⟨w.heap.size, 3, none⟩) hS2).trans c3
      have d4 : W3.cell? ⟨w.heap.size, 4, none⟩ = some (.int .i64 n4) := (hb3.cell (p := ⟨w.heap.size, 4, none⟩) hS2).trans c4
      have d5 : W3.cell? ⟨w.heap.size, 5, none⟩ = some (.int .i64 n5) := (hb3.cell (p := ⟨w.heap.size, 5, none⟩) hS2).trans c5
      have d6 : W3.cell? ⟨w.heap.size, 6, none⟩ = some (.int .i64 n6) := (hb3.cell (p := ⟨w.heap.size, 6, none⟩) hS2).trans c6
      have HV3 := Lib.hid hv3
      have HVV := Lib.hid hvv
      clear c0 c1 c2 c3 c4 c5 c6 hb3 HB2 HV2 hS2 hv3 hvv
      go_upto_region 8 with fail
      go_cut [11, 12] (fun s11 s12 wr => ∃ B C W4, s11 = .pointer (some ⟨B, 0, none⟩) ∧ s12 = .pointer (some ⟨C, 0, none⟩) ∧ W4 = wr ∧ B < W4.heap.size ∧ C < W4.heap.size ∧ W4.cell? ⟨B, 0, none⟩ = some (.int .i64 n2) ∧ W4.cell? ⟨B, 1, none⟩ = some (.int .i64 n3) ∧ W4.cell? ⟨C, 0, none⟩ = some (.int .i64 n4) ∧ W4.cell? ⟨C, 1, none⟩ = some (.int .i64 n5) ∧ W4.cell? ⟨C, 2, none⟩ = some (.int .i64 n6) ∧ Below W3.heap.size W3 W4)
      case first =>
        have hn1 : w.heap.size ≠ W3.heap.size := by omega
        have hn2 : w.heap.size ≠ W3.heap.size + 1 := by omega
        go_region_held3 (fun w' => w'.cell? ⟨w.heap.size, 2, none⟩ = some (.int .i64 n2) ∧ w'.cell? ⟨w.heap.size, 3, none⟩ = some (.int .i64 n3) ∧ w'.cell? ⟨w.heap.size, 4, none⟩ = some (.int .i64 n4) ∧ w'.cell? ⟨w.heap.size, 5, none⟩ = some (.int .i64 n5) ∧ w'.cell? ⟨w.heap.size, 6, none⟩ = some (.int .i64 n6))
          (first | go_keep | (go_split_ands; refine ⟨?_, ?_, ?_, ?_, ?_⟩ <;> (simp [go_sem, *]; done)))
          (fail)
        all_goals go_wp2_with fail
        all_goals go_meet
        all_goals
          refine ⟨_, _, _, rfl, rfl, rfl, ?_, ?_, ?_, ?_, ?_, ?_, ?_, ?_⟩
          · simp; try omega
          · simp; try omega
          · simp [go_sem]
          · simp [go_sem]
          · simp [go_sem]
          · simp [go_sem]
          · simp [go_sem]
          · repeat (first | exact Below.refl _ _ | refine Below.drew ?_ | refine Below.setCell ?_ (by simp) _ | refine Below.alloc ?_ (by simp) _)
      case rest =>
        obtain ⟨B, C, W4, rfl, rfl, rfl, hB, hC, f0, f1, f2, f3, f4, hb4⟩ := hcut
        have hB4 := HB3.out.trans (hb4.mono HB3.out.size)
        have hI := fun w9 => isName_any s w9 HS.out
        have hJ := fun w9 => refIsName_any s w9 HS.out
        obtain ⟨nb, hnb⟩ : ∃ nb : Bool, nameB s = nb := ⟨_, rfl⟩
        rw [hnb] at hI hJ
        have hS9 : ∀ w9 : World, Calls Tryz.prog 24 #[.float .f32 x] w9 fun e w' => e = .returned (.int .i64 (smpErr x)) ∧ Below w9.heap.size w9 w' := fun w9 =>
          (checkSample_all x HX.out w9).mono fun e w' ⟨he, hw⟩ => ⟨he, hw.elim (fun h => h ▸ Below.refl _ _) (fun h => h ▸ (Below.refl _ _).drew)⟩
        have hv4 := HVV.out.kept hb4
        have hV4 := HV3.out.kept hb4
        have hL : ∀ w9 : World, Below W4.heap.size W4 w9 → Calls Tryz.prog 21 #[v, .int .i64 r, .int .i64 r, V] w9 fun e w' => e = .returned (.bool true) ∧ Below w9.heap.size w9 w' := fun w9 h =>
          listed_ok v V (drawN n0 n1) (drawL n0 n1.toNat) r hN1 HN2.out w9 (hv4.kept h) (hV4.kept h)
        have hW9 : ∀ w9 : World, Below W4.heap.size W4 w9 → Calls Tryz.prog 13 #[] w9 fun e w' => e = .returned (.bool true) ∧ Below w9.heap.size w9 w' := fun w9 h => awake_any w9 ((HT.out.on hB4).on h)
        have KI : Hid (∀ w9 : World, Blw W4.heap.size W4 w9 → Calls Tryz.prog 19 #[.string s] w9 fun e w' => e = .returned (.bool nb) ∧ Below W4.heap.size W4 w') := Lib.hid fun w9 (h : Below W4.heap.size W4 w9) => (hI w9).mono fun e w' ⟨he, hw⟩ => ⟨he, h.trans (hw.mono h.size)⟩
        have KJ : Hid (∀ w9 : World, Blw W4.heap.size W4 w9 → Calls Tryz.prog 20 #[.string s] w9 fun e w' => e = .returned (.bool nb) ∧ Below W4.heap.size W4 w') := Lib.hid fun w9 (h : Below W4.heap.size W4 w9) => (hJ w9).mono fun e w' ⟨he, hw⟩ => ⟨he, hw ▸ h⟩
        have KL : Hid (∀ w9 : World, Blw W4.heap.size W4 w9 → Calls Tryz.prog 21 #[v, .int .i64 r, .int .i64 r, V] w9 fun e w' => e = .returned (.bool true) ∧ Below W4.heap.size W4 w') := Lib.hid fun w9 (h : Below W4.heap.size W4 w9) => (hL w9 h).mono fun e w' ⟨he, hw⟩ => ⟨he, h.trans (hw.mono h.size)⟩
        have KR1 : Hid (∀ w9 : World, Blw W4.heap.size W4 w9 → Calls Tryz.prog 22 #[.agg #[.int .i64 n2, .int .i64 n3]] w9 fun e w' => e = .returned (.int .i64 (ratioErr n2 n3)) ∧ Below W4.heap.size W4 w') := Lib.hid fun w9 (h : Below W4.heap.size W4 w9) => (checkRatio_all n2 n3 w9).mono fun e w' ⟨he, hw⟩ => ⟨he, h.trans (hw.mono h.size)⟩
        have KR2 : Hid (∀ w9 : World, Blw W4.heap.size W4 w9 → Calls Tryz.prog 23 #[.agg #[.int .i64 n2, .int .i64 n3]] w9 fun e w' => e = .returned (.int .i64 (ratioErr n2 n3)) ∧ Below W4.heap.size W4 w') := Lib.hid fun w9 (h : Below W4.heap.size W4 w9) => (refCheckRatio_all n2 n3 w9).mono fun e w' ⟨he, hw⟩ => ⟨he, h.trans (hw.mono h.size)⟩
        have KS1 : Hid (∀ w9 : World, Blw W4.heap.size W4 w9 → Calls Tryz.prog 24 #[.float .f32 x] w9 fun e w' => e = .returned (.int .i64 (smpErr x)) ∧ Below W4.heap.size W4 w') := Lib.hid fun w9 (h : Below W4.heap.size W4 w9) => (hS9 w9).mono fun e w' ⟨he, hw⟩ => ⟨he, h.trans (hw.mono h.size)⟩
        have KS2 : Hid (∀ w9 : World, Blw W4.heap.size W4 w9 → Calls Tryz.prog 25 #[.float .f32 x] w9 fun e w' => e = .returned (.int .i64 (smpErr x)) ∧ Below W4.heap.size W4 w') := Lib.hid fun w9 (h : Below W4.heap.size W4 w9) => (refCheckSample_all x w9).mono fun e w' ⟨he, hw⟩ => ⟨he, hw ▸ h⟩
        have KV1 : Hid (∀ w9 : World, Blw W4.heap.size W4 w9 → Calls Tryz.prog 26 #[.agg #[.int .i64 n4, .int .i64 n5, .int .i64 n6]] w9 fun e w' => e = .returned (.int .i64 (vectorErr n4 n5 n6)) ∧ Below W4.heap.size W4 w') := Lib.hid fun w9 (h : Below W4.heap.size W4 w9) => (lightCheckVector_all n4 n5 n6 w9).mono fun e w' ⟨he, hw⟩ => ⟨he, h.trans (hw.mono h.size)⟩
        have KV2 : Hid (∀ w9 : World, Blw W4.heap.size W4 w9 → Calls Tryz.prog 27 #[.agg #[.int .i64 n4, .int .i64 n5, .int .i64 n6]] w9 fun e w' => e = .returned (.int .i64 (vectorErr n4 n5 n6)) ∧ Below W4.heap.size W4 w') := Lib.hid fun w9 (h : Below W4.heap.size W4 w9) => (refCheckVector_all n4 n5 n6 w9).mono fun e w' ⟨he, hw⟩ => ⟨he, h.trans (hw.mono h.size)⟩
        have KD1 : Hid (∀ w9 : World, Blw W4.heap.size W4 w9 → Calls Tryz.prog 28 #[.agg #[.int .i64 n4, .int .i64 n5, .int .i64 n6]] w9 fun e w' => e = .returned (.int .i64 (directionErr n4 n5 n6)) ∧ Below W4.heap.size W4 w') := Lib.hid fun w9 (h : Below W4.heap.size W4 w9) => (lightCheckDirection_all n4 n5 n6 w9).mono fun e w' ⟨he, hw⟩ => ⟨he, h.trans (hw.mono h.size)⟩
        have KD2 : Hid (∀ w9 : World, Blw W4.heap.size W4 w9 → Calls Tryz.prog 29 #[.agg #[.int .i64 n4, .int .i64 n5, .int .i64 n6]] w9 fun e w' => e = .returned (.int .i64 (directionErr n4 n5 n6)) ∧ Below W4.heap.size W4 w') := Lib.hid fun w9 (h : Below W4.heap.size W4 w9) => (refCheckDirection_all n4 n5 n6 w9).mono fun e w' ⟨he, hw⟩ => ⟨he, h.trans (hw.mono h.size)⟩
        have KW : Hid (∀ w9 : World, Blw W4.heap.size W4 w9 → Calls Tryz.prog 13 #[] w9 fun e w' => e = .returned (.bool true) ∧ Below W4.heap.size W4 w') := Lib.hid fun w9 (h : Below W4.heap.size W4 w9) => (hW9 w9 h).mono fun e w' ⟨he, hw⟩ => ⟨he, h.trans (hw.mono h.size)⟩
        have HB4 := Lib.hid hB4
        have eb : (nb == nb) = true := by simp
        have hR : Blw W4.heap.size W4 W4.drew := show Below _ _ _ from (Below.refl W4.heap.size W4).drew
        clear hI hJ hS9 hL hW9 hB4 hb4 hnb hv4 hV4 HS HX HT HV3 HVV HB3 HN2 hN1 d0 d1 d2 d3 d4 d5 d6 hS3 hs2 HR
        go_upto_region 9 with fail
        go_region_held3 (fun w' => w'.cell? ⟨B, 0, none⟩ = some (.int .i64 n2) ∧ w'.cell? ⟨B, 1, none⟩ = some (.int .i64 n3) ∧ w'.cell? ⟨C, 0, none⟩ = some (.int .i64 n4) ∧ w'.cell? ⟨C, 1, none⟩ = some (.int .i64 n5) ∧ w'.cell? ⟨C, 2, none⟩ = some (.int .i64 n6) ∧ Blw W4.heap.size W4 w')
          (first
            | (go_split_ands; refine ⟨?_, ?_, ?_, ?_, ?_, ?_⟩ <;> first | (with_reducible assumption) | exact hb9 | ((rw [hb9.cell (by first | exact hB | exact hC)]; assumption)))
            | go_keep)
          (first
            | (go_at_call 19; refine (KI.out _ (by assumption)).mono ?_; rintro e w' ⟨rfl, hb9⟩; clear KI)
            | (go_at_call 20; refine (KJ.out _ (by assumption)).mono ?_; rintro e w' ⟨rfl, hb9⟩; clear KJ)
            | (go_at_call 21; refine (KL.out _ (by assumption)).mono ?_; rintro e w' ⟨rfl, hb9⟩; clear KL)
            | (go_at_call 22; refine (KR1.out _ (by assumption)).mono ?_; rintro e w' ⟨rfl, hb9⟩; clear KR1)
            | (go_at_call 23; refine (KR2.out _ (by assumption)).mono ?_; rintro e w' ⟨rfl, hb9⟩; clear KR2)
            | (go_at_call 24; refine (KS1.out _ (by assumption)).mono ?_; rintro e w' ⟨rfl, hb9⟩; clear KS1)
            | (go_at_call 25; refine (KS2.out _ (by assumption)).mono ?_; rintro e w' ⟨rfl, hb9⟩; clear KS2)
            | (go_at_call 26; refine (KV1.out _ (by assumption)).mono ?_; rintro e w' ⟨rfl, hb9⟩; clear KV1)
            | (go_at_call 27; refine (KV2.out _ (by assumption)).mono ?_; rintro e w' ⟨rfl, hb9⟩; clear KV2)
            | (go_at_call 28; refine (KD1.out _ (by assumption)).mono ?_; rintro e w' ⟨rfl, hb9⟩; clear KD1)
            | (go_at_call 29; refine (KD2.out _ (by assumption)).mono ?_; rintro e w' ⟨rfl, hb9⟩; clear KD2)
            | (go_at_call 13; refine (KW.out _ (by assumption)).mono ?_; rintro e w' ⟨rfl, hb9⟩; clear KW))
        all_goals
          go_wp2_with fail
          go_ret
          exact ⟨rfl, HB4.out.trans (hb9.mono HB4.out.size)⟩
end Go.Proofs.YtlnhgplloaiiiaaGreatDoor
