/-
  Contract of Added's literal: the sum of the integers of two grids at a place.
-/
import Derived.Test.YthfiilfekofimaaGreatDoorDXd
import Derived.Test.YthfiilfekofimaaGreatDoorDWd
import Derived.Deep.DrawnRows
import Derived.Test.YthfiilfekofimaaGreatDoorDMb
import Derived.Test.YthfiilfekofimaaGreatDoorDWu
namespace Go.Proofs.YthfiilfekofimaaGreatDoor
open Go.RowKit
set_option linter.unusedVariables false

/-- A variable that holds a grid. -/
structure GridAt (w : World) (g7 : Nat) (W H : Int) (g n c : Nat) : Prop where
  c0 : w.cell? ⟨g7, 0, none⟩ = some (.int .i64 W)
  c1 : w.cell? ⟨g7, 1, none⟩ = some (.int .i64 H)
  c2 : w.cell? ⟨g7, 2, none⟩ = some (.slice (some ⟨g, 0, none⟩) n c)
theorem GridAt.below {B : Nat} {w w' : World} {g7 : Nat} {W H : Int} {g n c : Nat} (h : GridAt w g7 W H g n c) (hb : Below B w w') (hB : g7 < B) : GridAt w' g7 W H g n c :=
  ⟨(hb.cell (p := ⟨g7, 0, none⟩) hB).trans h.c0, (hb.cell (p := ⟨g7, 1, none⟩) hB).trans h.c1, (hb.cell (p := ⟨g7, 2, none⟩) hB).trans h.c2⟩

set_option maxRecDepth 100000 in
set_option maxHeartbeats 3200000 in
theorem added1_any (W H : Int) (ga na ca gb nb cb g7 g8 : Nat) (X Y va vb : Int) (h0 : 0 ≤ W ∧ W ≤ 1048576) (hx : 0 ≤ X ∧ X ≤ 1048576) (hy : 0 ≤ Y ∧ Y ≤ 1048576) (hp : 0 ≤ Y * W ∧ Y * W ≤ 1099511627776) (ha : va.natAbs ≤ 1048576) (hb : vb.natAbs ≤ 1048576) (w : World)
    (hn : Y * W + X < na) (hn' : Y * W + X < nb) (g7l : g7 < w.heap.size) (g8l : g8 < w.heap.size) (gal : ga < w.heap.size) (gbl : gb < w.heap.size) (hA : GridAt w g7 W H ga na ca) (hB : GridAt w g8 W H gb nb cb)
    (hca : w.cell? ⟨ga, (Y * W + X).toNat, none⟩ = some (.int .i64 va)) (hcb : w.cell? ⟨gb, (Y * W + X).toNat, none⟩ = some (.int .i64 vb)) :
    Calls Tryz.prog 97 #[.agg #[.int .i64 X, .int .i64 Y], .pointer (some ⟨g7, 0, none⟩), .pointer (some ⟨g8, 0, none⟩)] w fun e w' => e = .returned (.int .i64 (va + vb)) ∧ Below w.heap.size w w' := by
  obtain ⟨a0, a1, a2⟩ := hA
  obtain ⟨b0, b1, b2⟩ := hB
  have KA : ∀ w1 : World, Below (w.heap.size + 1) (w.alloc (.cells #[.int .i64 X, .int .i64 Y] 67)) w1 → Calls Tryz.prog 89 #[.agg #[.int .i64 W, .int .i64 H, .slice (some ⟨ga, 0, none⟩) na ca], .agg #[.int .i64 X, .int .i64 Y]] w1 fun e w' => e = .returned (.int .i64 va) ∧ Below (w.heap.size + 1) (w.alloc (.cells #[.int .i64 X, .int .i64 Y] 67)) w' := fun w1 h1 => by
    have hs := h1.size
    simp at hs
    have h2 := ((Below.refl _ w).alloc (Nat.le_refl _) (.cells #[.int .i64 X, .int .i64 Y] 67)).trans (h1.mono (by omega))
    exact (at_any W H X Y ga na ca va h0 hx hy hp w1 hn (by omega) ((h2.cell (by exact gal)).trans hca)).mono fun e w' ⟨he, hw⟩ => ⟨he, h1.trans (hw.mono hs)⟩
  have KB : ∀ w1 : World, Below (w.heap.size + 1) (w.alloc (.cells #[.int .i64 X, .int .i64 Y] 67)) w1 → Calls Tryz.prog 89 #[.agg #[.int .i64 W, .int .i64 H, .slice (some ⟨gb, 0, none⟩) nb cb], .agg #[.int .i64 X, .int .i64 Y]] w1 fun e w' => e = .returned (.int .i64 vb) ∧ Below (w.heap.size + 1) (w.alloc (.cells #[.int .i64 X, .int .i64 Y] 67)) w' := fun w1 h1 => by
    have hs := h1.size
    simp at hs
    have h2 := ((Below.refl _ w).alloc (Nat.le_refl _) (.cells #[.int .i64 X, .int .i64 Y] 67)).trans (h1.mono (by omega))
    exact (at_any W H X Y gb nb cb vb h0 hx hy hp w1 hn' (by omega) ((h2.cell (by exact gbl)).trans hcb)).mono fun e w' ⟨he, hw⟩ => ⟨he, h1.trans (hw.mono hs)⟩
  have HKA := Lib.hid KA
  have HKB := Lib.hid KB
  clear KA KB hca hcb hn hn' h0 hx hy hp
  go_enter Tryz.func97, Tryz.ntmps97
  go_wp2_with fail
  obtain ⟨W0, hW0⟩ : ∃ W0, w.alloc (.cells #[.int .i64 X, .int .i64 Y] 67) = W0 := ⟨_, rfl⟩
  have hS0 : W0.heap.size = w.heap.size + 1 := by rw [← hW0]; simp
  have hB0 : Below w.heap.size w W0 := by rw [← hW0]; exact (Below.refl _ w).alloc (Nat.le_refl _) _
  have p0 : W0.cell? ⟨w.heap.size, 0, none⟩ = some (.int .i64 X) := by rw [← hW0]; simp [go_sem]
  have p1 : W0.cell? ⟨w.heap.size, 1, none⟩ = some (.int .i64 Y) := by rw [← hW0]; simp [go_sem]
  replace a0 := (hB0.cell (p := ⟨g7, 0, none⟩) g7l).trans a0
  replace a1 := (hB0.cell (p := ⟨g7, 1, none⟩) g7l).trans a1
  replace a2 := (hB0.cell (p := ⟨g7, 2, none⟩) g7l).trans a2
  replace b0 := (hB0.cell (p := ⟨g8, 0, none⟩) g8l).trans b0
  replace b1 := (hB0.cell (p := ⟨g8, 1, none⟩) g8l).trans b1
  replace b2 := (hB0.cell (p := ⟨g8, 2, none⟩) g8l).trans b2
  have hR : Below (w.heap.size + 1) W0 W0.drew := (Below.refl (w.heap.size + 1) W0).drew
  rw [hW0] at HKA HKB ⊢
  have HB0 := Lib.hid hB0
  have HS0 := Lib.hid hS0
  clear hW0 hB0 hS0
  have hwr : IntKind.i64.wrap (va + vb) = va + vb := IntWalk.i64_in _ ⟨by omega, by omega⟩
  go_region_held3 (fun w' => w'.cell? ⟨g7, 0, none⟩ = some (.int .i64 W) ∧ w'.cell? ⟨g7, 1, none⟩ = some (.int .i64 H) ∧ w'.cell? ⟨g7, 2, none⟩ = some (.slice (some ⟨ga, 0, none⟩) na ca) ∧
      w'.cell? ⟨g8, 0, none⟩ = some (.int .i64 W) ∧ w'.cell? ⟨g8, 1, none⟩ = some (.int .i64 H) ∧ w'.cell? ⟨g8, 2, none⟩ = some (.slice (some ⟨gb, 0, none⟩) nb cb) ∧
      w'.cell? ⟨w.heap.size, 0, none⟩ = some (.int .i64 X) ∧ w'.cell? ⟨w.heap.size, 1, none⟩ = some (.int .i64 Y) ∧ Below (w.heap.size + 1) W0 w')
    (first | (go_split_ands; refine ⟨?_, ?_, ?_, ?_, ?_, ?_, ?_, ?_, ?_⟩ <;> first | assumption | ((rw [hb1.cell (by simp; try omega)]; assumption))) | go_keep)
    (first
      | (go_at_call_of 89 (Value.agg #[.int .i64 W, .int .i64 H, .slice (some ⟨ga, 0, none⟩) na ca]); refine (HKA.out _ ?_).mono ?_; rotate_left 1; rintro e w' ⟨rfl, hb1⟩; rotate_left 1; (simp [*]))
      | (go_at_call_of 89 (Value.agg #[.int .i64 W, .int .i64 H, .slice (some ⟨gb, 0, none⟩) nb cb]); refine (HKB.out _ ?_).mono ?_; rotate_left 1; rintro e w' ⟨rfl, hb1⟩; rotate_left 1; (simp [*])))
  all_goals
    go_wp2
    go_ret
    exact ⟨rfl, HB0.out.trans (hb1.mono (by omega))⟩
end Go.Proofs.YthfiilfekofimaaGreatDoor

/-
  Contract of Total for a right map: the sum of its integers.
-/
namespace Go.Proofs.YthfiilfekofimaaGreatDoor
open Go.RowKit
set_option linter.unusedVariables false

theorem sum_take_succ (ks : List Int) (k : Nat) (hk : k < ks.length) : (ks.take (k + 1)).sum = (ks.take k).sum + ks[k]?.getD 0 := by
  rw [List.take_succ_eq_append_getElem hk, List.sum_append, List.getElem?_eq_getElem hk]; simp
theorem sum_take_bd {ks : List Int} {M : Nat} {n : Nat} (hl : ks.length = n) (h : ∀ j, j < n → (ks[j]?.getD 0).natAbs ≤ M) : ∀ k, k ≤ n → -((M * k : Nat) : Int) ≤ (ks.take k).sum ∧ (ks.take k).sum ≤ ((M * k : Nat) : Int)
  | 0, _ => by simp
  | k + 1, hk => by
    have ih := sum_take_bd hl h k (by omega)
    have hb := h k (by omega)
    rw [sum_take_succ ks k (by omega)]
    rw [Nat.mul_succ]
    push_cast at ih ⊢
    omega

set_option maxRecDepth 100000 in
set_option maxHeartbeats 3200000 in
theorem total_any (W H : Int) (b o n c : Nat) (xs : List Nat) (ks : List Int) (w : World) (hw : RightMap w W H b o n xs ks) (hb : b < w.heap.size) :
    Calls Tryz.prog 28 #[.agg #[.int .i64 W, .int .i64 H, .slice (some ⟨b, o, none⟩) n c]] w fun e w' => e = .returned (.tuple #[.int .i64 ks.sum, .int .i64 0]) ∧ Below w.heap.size w w' := by
  have K1 : Hid (∀ w1 : World, Below w.heap.size w w1 → Calls Tryz.prog 67 #[.agg #[.int .i64 W, .int .i64 H, .slice (some ⟨b, o, none⟩) n c]] w1 fun e w' => e = .returned (.int .i64 0) ∧ Below w1.heap.size w1 w') :=
    Lib.hid fun w1 h => checkMap_any W H b o n c xs ks w1 (hw.below h hb) (by have := h.size; omega)
  have K2 : Hid (∀ w1 : World, Below w.heap.size w w1 → Calls Tryz.prog 71 #[.agg #[.int .i64 W, .int .i64 H, .slice (some ⟨b, o, none⟩) n c]] w1 fun e w' =>
      e = .returned (.agg #[.int .i64 W, .int .i64 H, .slice (some ⟨w1.heap.size + 2, 0, none⟩) n n]) ∧ w'.ownsRow (w1.heap.size + 2) 3 1 (.slice (some ⟨w1.heap.size + 2, 0, none⟩) n n) n (ks.map (Value.int .i64)) ∧ Below w1.heap.size w1 w') :=
    Lib.hid fun w1 h => gridOf_any W H b o n c xs ks w1 (hw.below h hb).toWords (by have := h.size; omega)
  have hfld : ∀ (g : Nat) (w : World), (Instr.field 144 (.agg #[.int .i64 W, .int .i64 H, .slice (some ⟨g, 0, none⟩) n n]) 2).run Tryz.prog w = .ok (.slice (some ⟨g, 0, none⟩) n n) w := fun _ _ => by kernel_rfl
  have hsm := hw.small
  have HW := Lib.hid hw
  have HBD := Lib.hid (sum_take_bd hw.lenk hw.sizes)
  clear hw
  go_enter Tryz.func28, Tryz.ntmps28
  go_wp2_with (first
    | (go_at_call 67; refine (K1.out _ ((Below.refl _ w).alloc (Nat.le_refl _) _)).mono ?_; rintro e w1 ⟨rfl, hb1⟩
       have hs1 : w.heap.size + 1 ≤ w1.heap.size := by have := hb1.size; simpa using this
       have hB1 : Below w.heap.size w w1 := ((Below.refl _ w).alloc (Nat.le_refl _) _).trans (hb1.mono (by simp))
       have c0 : w1.cell? ⟨w.heap.size, 0, none⟩ = some (.int .i64 W) := by rw [hb1.cell (by simp)]; simp [go_sem]
       have c1 : w1.cell? ⟨w.heap.size, 1, none⟩ = some (.int .i64 H) := by rw [hb1.cell (by simp)]; simp [go_sem]
       have c2 : w1.cell? ⟨w.heap.size, 2, none⟩ = some (.slice (some ⟨b, o, none⟩) n c) := by rw [hb1.cell (by simp)]; simp [go_sem]
       have HB1 := Lib.hid hB1
       clear hb1 hB1)
    | (go_at_call 71; refine (K2.out _ HB1.out).mono ?_; rintro e w2 ⟨rfl, hown2, hb2⟩
       have HB2 := Lib.hid (HB1.out.trans (hb2.mono HB1.out.size))
       have HO2 := Lib.hid hown2
       clear hb2 hown2 c0 c1 c2))
  go_loop [5, 17] (fun x i => ∃ k : Nat, k ≤ n ∧ i = .int .i64 k ∧ x = .int .i64 (ks.take k).sum) (fun _ i => n - (intOf i).toNat)
  case atStart => exact ⟨0, Nat.zero_le _, rfl, rfl⟩
  case round =>
    obtain ⟨k, hk, rfl, rfl⟩ := hrel
    have hbd := HBD.out k hk
    by_cases hlt : k < n
    · have hcell : w2.cell? ⟨w1.heap.size + 2, k, none⟩ = some (.int .i64 (ks[k]?.getD 0)) := owns_cell HO2.out (by
        rw [List.getElem?_map, List.getElem?_eq_getElem (by have := HW.out.lenk; omega)]; rfl)
      have hz := HW.out.sizes k hlt
      have hS := sum_take_succ ks k (by have := HW.out.lenk; omega)
      have HS := Lib.hid hS
      have hb3 : -67108864 ≤ (ks.take k).sum ∧ (ks.take k).sum ≤ 67108864 := by
        have : 16384 * k ≤ 67108864 := by omega
        omega
      clear hS hbd
      go_wp2
      go_round
      case rel => exact ⟨k + 1, by omega, by go_num, by rw [HS.out]⟩
      case measure => simp [intOf]; omega
    · go_wp2
      go_ret2
      obtain rfl : k = n := by omega
      exact ⟨by rw [List.take_of_length_le (by have := HW.out.lenk; omega)]; rfl, HB2.out⟩
end Go.Proofs.YthfiilfekofimaaGreatDoor

/-
  What stands behind the two grids of Added; blocks behind stores and new blocks.
-/
namespace Go.Proofs.YthfiilfekofimaaGreatDoor
open Go.RowKit
set_option linter.unusedVariables false
attribute [local go_sem ↓] Go.wp_at_zero Go.wp_at_succ

/-- Integers that lie in a block. -/
structure RowAt (w : World) (g n : Nat) (ks : List Int) : Prop where
  lt : g < w.heap.size
  cells : ∀ j, j < n → w.cell? ⟨g, j, none⟩ = some (.int .i64 (ks[j]?.getD 0))
theorem RowAt.below {B : Nat} {w w' : World} {g n : Nat} {ks : List Int} (h : RowAt w g n ks) (hb : Below B w w') (hB : g < B) : RowAt w' g n ks :=
  ⟨Nat.lt_of_lt_of_le h.lt hb.size, fun j hj => (hb.cell (p := ⟨g, j, none⟩) hB).trans (h.cells j hj)⟩
theorem grid_row (W H : Int) (b o n c : Nat) (xs : List Nat) (ks : List Int) (w : World) (hw : Words w b o n xs ks) (hb : b < w.heap.size) :
    Calls Tryz.prog 71 #[.agg #[.int .i64 W, .int .i64 H, .slice (some ⟨b, o, none⟩) n c]] w fun e w' =>
      ∃ g, e = .returned (.agg #[.int .i64 W, .int .i64 H, .slice (some ⟨g, 0, none⟩) n n]) ∧ w.heap.size ≤ g ∧ RowAt w' g n ks ∧ Below w.heap.size w w' :=
  (gridOf_any W H b o n c xs ks w hw hb).mono fun e w' ⟨he, ho, hB⟩ => ⟨_, he, by omega, ⟨(ho.lt _ rfl).2, fun j hj => owns_cell ho (by
    rw [List.getElem?_map, List.getElem?_eq_getElem (by rw [hw.lenk]; exact hj)]; rfl)⟩, hB⟩

theorem bcell {W w1 : World} (hb : Below W.heap.size W w1) : (∀ b o, b < W.heap.size → w1.cell? ⟨b, o, none⟩ = W.cell? ⟨b, o, none⟩) ∧ (∀ b o, b < W.heap.size → w1.frozen? ⟨b, o, none⟩ = W.frozen? ⟨b, o, none⟩) :=
  ⟨fun b o h => hb.cell (p := ⟨b, o, none⟩) h, fun b o h => hb.frozen (p := ⟨b, o, none⟩) h⟩
/-- Below, closed to what takes conjunctions apart. -/
def Blw (N : Nat) (w w' : World) : Prop := Below N w w'
/-- What stands behind the two grids. -/
def GridsMade (w W0 : World) (W H : Int) (n : Nat) (ks js : List Int) (s7 s8 : Value) (wx : World) : Prop :=
  ∃ g7 g8 ga gb : Nat, s7 = .pointer (some ⟨g7, 0, none⟩) ∧ s8 = .pointer (some ⟨g8, 0, none⟩) ∧ GridAt wx g7 W H ga n n ∧ GridAt wx g8 W H gb n n ∧ RowAt wx ga n ks ∧ RowAt wx gb n js ∧ g7 < wx.heap.size ∧ g8 < wx.heap.size ∧ Below (w.heap.size + 3) W0 wx
theorem placesTo_get (W k j : Nat) (h : j < k) : (placesTo W k)[j]? = some (j % W, j / W) := by
  rw [placesTo, List.getElem?_map, List.getElem?_range h]; rfl
theorem idx_lt {W H n : Nat} {p : Nat × Nat} (h1 : p.1 < W) (h2 : p.2 < H) (hn : W * H = n) : p.2 * W + p.1 < n := by
  have := Nat.mul_le_mul_right W (show p.2 + 1 ≤ H by omega)
  rw [Nat.add_mul, Nat.one_mul, Nat.mul_comm H W, hn] at this
  omega
theorem RowAt.set {w : World} {g n : Nat} {ks : List Int} (h : RowAt w g n ks) {p : Addr} (hp : p.block ≠ g) (v : Value) : RowAt (w.setCell p v) g n ks :=
  ⟨by simpa [World.setCell] using h.lt, fun j hj => (World.cell?_setCell_other w p ⟨g, j, none⟩ v (fun e => hp (by rw [e]))).trans (h.cells j hj)⟩
theorem RowAt.alloc {w : World} {g n : Nat} {ks : List Int} (h : RowAt w g n ks) (o : Obj) : RowAt (w.alloc o) g n ks := h.below ((Below.refl _ w).alloc (Nat.le_refl _) o) h.lt
theorem blk_set_other {w : World} {B : Nat} {o : Obj} (h : w.heap[B]? = some o) {p : Addr} (hp : p.block ≠ B) (v : Value) : (w.setCell p v).heap[B]? = some o := by
  rw [← h]; exact Below.heap_setCell _ _ _ _ (fun e => hp e.symm)
theorem blk_alloc_other {w : World} {B : Nat} {o : Obj} (h : w.heap[B]? = some o) (x : Obj) : (w.alloc x).heap[B]? = some o := (Below.heap_alloc _ _ _ (Array.getElem?_eq_some_iff.1 h).1).trans h
theorem blk_drew {w : World} {B : Nat} {o : Obj} (h : w.heap[B]? = some o) : w.drew.heap[B]? = some o := h
theorem blk_alloc_new (w : World) (o : Obj) : (w.alloc o).heap[w.heap.size]? = some o := heap_alloc_new w o
theorem blk_alloc_new1 (w : World) (o o' : Obj) : ((w.alloc o').alloc o).heap[w.heap.size + 1]? = some o := heap_alloc2_new w _ _
theorem blk_alloc_at (w : World) (o : Obj) {B : Nat} (h : w.heap.size = B) : (w.alloc o).heap[B]? = some o := by rw [← h]; exact blk_alloc_new w o
theorem blk_set3 {w : World} {B : Nat} {T : TypeId} {x y z : Value} (h : w.heap[B]? = some (.cells #[x, y, z] T (0, 0))) (a b c : Value) :
    (((w.setCell ⟨B, 0, none⟩ a).setCell ⟨B, 1, none⟩ b).setCell ⟨B, 2, none⟩ c).heap[B]? = some (.cells #[a, b, c] T (0, 0)) := by
  simp only [World.setCell, Array.getElem?_modify, if_true, h, Option.map_some]
  simp
theorem GridAt.of_blk {w : World} {B : Nat} {T : TypeId} {W H : Int} {g n c : Nat} (h : w.heap[B]? = some (.cells #[.int .i64 W, .int .i64 H, .slice (some ⟨g, 0, none⟩) n c] T (0, 0))) : GridAt w B W H g n c :=
  ⟨by rw [cell_of_row w B 0 _ _ (0, 0) h]; rfl, by rw [cell_of_row w B 1 _ _ (0, 0) h]; rfl, by rw [cell_of_row w B 2 _ _ (0, 0) h]; rfl⟩
theorem lt_of_blk {w : World} {B : Nat} {o : Obj} (h : w.heap[B]? = some o) : B < w.heap.size := (Array.getElem?_eq_some_iff.1 h).1
theorem below_alloc {N : Nat} {W0 W1 : World} (h : Below N W0 W1) (hN : N ≤ W0.heap.size) (o : Obj) : Below N W0 (W1.alloc o) := h.alloc (Nat.le_trans hN h.size) o

end Go.Proofs.YthfiilfekofimaaGreatDoor

/-
  Contracts of has, neighbours and slices.Clone at integers.
-/
namespace Go.Proofs.YthfiilfekofimaaGreatDoor
open Go.RowKit
set_option linter.unusedVariables false

set_option maxHeartbeats 1600000 in
theorem isPlace_any (W H : Nat) (X Y : Int) (w : World) :
    Calls Tryz.prog 147 #[.agg #[.int .i64 X, .int .i64 Y], .int .i64 W, .int .i64 H] w fun e w' => e = .returned (.bool (insideB W H (X, Y))) ∧ Below w.heap.size w w' := by
  by_cases h1 : 0 ≤ X
  · by_cases h2 : X < W
    · by_cases h3 : 0 ≤ Y
      · by_cases h4 : Y < H
        · have e : insideB W H (X, Y) = true := by simp [insideB, h1, h2, h3, h4]
          rw [e]; clear e
          go_enter Tryz.func147, Tryz.ntmps147
          go_wp2
          go_ret
          exact ⟨rfl, (Below.refl _ _).alloc (Nat.le_refl _) _⟩
        · have e : insideB W H (X, Y) = false := by simp [insideB, h1, h2, h3, h4]
          rw [e]; clear e
          have d4 : decide (Y < H) = false := by simpa using h4
          go_enter Tryz.func147, Tryz.ntmps147
          go_wp2
          go_ret
          exact ⟨rfl, (Below.refl _ _).alloc (Nat.le_refl _) _⟩
      · have e : insideB W H (X, Y) = false := by simp [insideB, h1, h2, h3]
        rw [e]; clear e
        have d3 : decide (0 ≤ Y) = false := by simpa using h3
        go_enter Tryz.func147, Tryz.ntmps147
        go_wp2
        go_ret
        exact ⟨rfl, (Below.refl _ _).alloc (Nat.le_refl _) _⟩
    · have e : insideB W H (X, Y) = false := by simp [insideB, h1, h2]
      rw [e]; clear e
      have d2 : decide (X < W) = false := by simpa using h2
      go_enter Tryz.func147, Tryz.ntmps147
      go_wp2
      go_ret
      exact ⟨rfl, (Below.refl _ _).alloc (Nat.le_refl _) _⟩
  · have e : insideB W H (X, Y) = false := by simp [insideB, h1]
    rw [e]; clear e
    have d1 : decide (0 ≤ X) = false := by simpa using h1
    go_enter Tryz.func147, Tryz.ntmps147
    go_wp2
    go_ret
    exact ⟨rfl, (Below.refl _ _).alloc (Nat.le_refl _) _⟩

set_option maxHeartbeats 1600000 in
theorem has_any (W H : Nat) (X Y : Int) (a : Option Addr) (n c : Nat) (w : World) :
    Calls Tryz.prog 91 #[.agg #[.int .i64 W, .int .i64 H, .slice a n c], .agg #[.int .i64 X, .int .i64 Y]] w fun e w' => e = .returned (.bool (insideB W H (X, Y))) ∧ Below w.heap.size w w' := by
  have K := Lib.hid (fun w1 => isPlace_any W H X Y w1)
  generalize insideB W H (X, Y) = r at K ⊢
  go_enter Tryz.func91, Tryz.ntmps91
  go_wp2_with (go_at_call 147; refine (K.out _).mono ?_; rintro e w' ⟨rfl, hb⟩)
  go_ret
  exact ⟨rfl, (((Below.refl _ _).alloc (Nat.le_refl _) _).alloc (by simp) _).trans (hb.mono (by simp; omega))⟩

/-! ### Points -/
def Far (a : Int) : Prop := -1099511627776 ≤ a ∧ a ≤ 1099511627776
set_option maxHeartbeats 1600000 in
theorem plus_any (a b c d : Int) (ha : Far a) (hb : Far b) (hc : Far c) (hd : Far d) (w : World) :
    Calls Tryz.prog 90 #[.agg #[.int .i64 a, .int .i64 b], .agg #[.int .i64 c, .int .i64 d]] w fun e w' => e = .returned (.agg #[.int .i64 (a + c), .int .i64 (b + d)]) ∧ Below w.heap.size w w' := by
  unfold Far at ha hb hc hd
  have i1 : IntKind.i64.wrap (a + c) = a + c := IntWalk.i64_in _ ⟨by omega, by omega⟩
  have i2 : IntKind.i64.wrap (b + d) = b + d := IntWalk.i64_in _ ⟨by omega, by omega⟩
  clear ha hb hc hd
  go_enter Tryz.func90, Tryz.ntmps90
  go_wp2
  refine bodyPost_ret (v := .agg #[.int .i64 (a + c), .int .i64 (b + d)]) (by simp [results, Tryz.results90, go_sem]) rfl ⟨rfl, ?_⟩
  exact (((Below.refl _ w).alloc (Nat.le_refl _) _).alloc (by simp) _).alloc (by simp; omega) _
set_option maxHeartbeats 1600000 in
theorem minus_any (a b c d : Int) (ha : Far a) (hb : Far b) (hc : Far c) (hd : Far d) (w : World) :
    Calls Tryz.prog 96 #[.agg #[.int .i64 a, .int .i64 b], .agg #[.int .i64 c, .int .i64 d]] w fun e w' => e = .returned (.agg #[.int .i64 (a - c), .int .i64 (b - d)]) ∧ Below w.heap.size w w' := by
  unfold Far at ha hb hc hd
  have i1 : IntKind.i64.wrap (a - c) = a - c := IntWalk.i64_in _ ⟨by omega, by omega⟩
  have i2 : IntKind.i64.wrap (b - d) = b - d := IntWalk.i64_in _ ⟨by omega, by omega⟩
  clear ha hb hc hd
  go_enter Tryz.func96, Tryz.ntmps96
  go_wp2
  refine bodyPost_ret (v := .agg #[.int .i64 (a - c), .int .i64 (b - d)]) (by simp [results, Tryz.results96, go_sem]) rfl ⟨rfl, ?_⟩
  exact (((Below.refl _ w).alloc (Nat.le_refl _) _).alloc (by simp) _).alloc (by simp; omega) _
/-- The four points beside a point. -/
def besideV (X Y : Int) : Value := .agg #[.int .i64 (X - 1), .int .i64 Y, .int .i64 (X + 1), .int .i64 Y, .int .i64 X, .int .i64 (Y - 1), .int .i64 X, .int .i64 (Y + 1)]
set_option maxHeartbeats 1600000 in
theorem beside_any (X Y : Int) (hX : Far X) (hY : Far Y) (w : World) :
    Calls Tryz.prog 161 #[.agg #[.int .i64 X, .int .i64 Y]] w fun e w' => e = .returned (besideV X Y) ∧ Below w.heap.size w w' := by
  unfold Far at hX hY
  unfold besideV
  have i1 : IntKind.i64.wrap (X - 1) = X - 1 := IntWalk.i64_in _ ⟨by omega, by omega⟩
  have i2 : IntKind.i64.wrap (X + 1) = X + 1 := IntWalk.i64_in _ ⟨by omega, by omega⟩
  have i3 : IntKind.i64.wrap (Y - 1) = Y - 1 := IntWalk.i64_in _ ⟨by omega, by omega⟩
  have i4 : IntKind.i64.wrap (Y + 1) = Y + 1 := IntWalk.i64_in _ ⟨by omega, by omega⟩
  clear hX hY
  go_enter Tryz.func161, Tryz.ntmps161
  go_wp2
  refine bodyPost_ret (v := .agg #[.int .i64 (X - 1), .int .i64 Y, .int .i64 (X + 1), .int .i64 Y, .int .i64 X, .int .i64 (Y - 1), .int .i64 X, .int .i64 (Y + 1)]) (by simp [results, Tryz.results161, go_sem]) rfl ⟨rfl, ?_⟩
  exact ((Below.refl _ w).alloc (Nat.le_refl _) _).alloc (by simp) _

/-- A place's cells. -/
def qval (q : Int × Int) : List Value := [.int .i64 q.1, .int .i64 q.2]
theorem Tryz.infoPt : (Tryz.prog.info? 67).map (fun i => (i.zero, i.size, i.bytes)) = some (some (.agg #[.int .i64 0, .int .i64 0]), 2, 16) := by kernel_rfl
theorem cells_new2 (w : World) (T : TypeId) (a b : Value) : ∀ j u, [a, b][j]? = some u → (w.alloc (.cells #[a, b] T)).cell? ((⟨w.heap.size, 0, none⟩ : Addr).add j) = some u := fun j u h => by
  rw [Addr.add_mid, cell_of_row _ w.heap.size (0 + j) _ _ (0, 0) (heap_alloc_new w _)]
  simpa using h
theorem dirs_index (X Y : Int) (k : Nat) (hk : k < 4) : ∃ dx dy : Int, dirsL[k]?.getD (0, 0) = (dx, dy) ∧ (-1 ≤ dx ∧ dx ≤ 1) ∧ (-1 ≤ dy ∧ dy ≤ 1) ∧
    ∀ w : World, (Instr.index 229 (besideV X Y) (.int .i64 k)).run Tryz.prog w = .ok (.agg #[.int .i64 (X + dx), .int .i64 (Y + dy)]) w := by
  match k, hk with
  | 0, _ => exact ⟨-1, 0, rfl, by omega, by omega, fun w => by rw [show X + -1 = X - 1 by omega, Int.add_zero]; kernel_rfl⟩
  | 1, _ => exact ⟨1, 0, rfl, by omega, by omega, fun w => by rw [Int.add_zero]; kernel_rfl⟩
  | 2, _ => exact ⟨0, -1, rfl, by omega, by omega, fun w => by rw [show Y + -1 = Y - 1 by omega, Int.add_zero]; kernel_rfl⟩
  | 3, _ => exact ⟨0, 1, rfl, by omega, by omega, fun w => by rw [Int.add_zero]; kernel_rfl⟩

set_option maxRecDepth 100000 in
set_option maxHeartbeats 3200000 in
theorem neighbours_any (W H : Nat) (X Y : Int) (hX : 0 ≤ X ∧ X ≤ 1048576) (hY : 0 ≤ Y ∧ Y ≤ 1048576) (a : Option Addr) (n c : Nat) (w : World) :
    Calls Tryz.prog 129 #[.agg #[.int .i64 W, .int .i64 H, .slice a n c], .agg #[.int .i64 X, .int .i64 Y]] w fun e w' =>
      ∃ v, e = .returned v ∧ w'.ownsRow w.heap.size 67 2 v (nbrsTo W H X Y 4).length ((nbrsTo W H X Y 4).flatMap qval) ∧ Below w.heap.size w w' := by
  obtain ⟨i0, hi, hz0, hz1, hz2⟩ := info_parts Tryz.infoPt
  have KB := Lib.hid (fun w1 => beside_any X Y (by unfold Far; omega) (by unfold Far; omega) w1)
  go_enter Tryz.func129, Tryz.ntmps129
  go_wp2_with (go_at_call 161; refine (KB.out _).mono ?_; rintro e W0 ⟨rfl, hbb⟩)
  have hB0 : Below w.heap.size w W0 := (((Below.refl _ w).alloc (Nat.le_refl _) _).alloc (by simp) _).trans (hbb.mono (by simp; omega))
  have hz : w.heap.size + 2 ≤ W0.heap.size := by have := hbb.size; simpa using this
  have g0 : W0.cell? ⟨w.heap.size, 0, none⟩ = some (.int .i64 W) := (hbb.cell (by first | (simp; done) | (simp; omega))).trans (by simp [go_sem])
  have g1 : W0.cell? ⟨w.heap.size, 1, none⟩ = some (.int .i64 H) := (hbb.cell (by first | (simp; done) | (simp; omega))).trans (by simp [go_sem])
  have g2 : W0.cell? ⟨w.heap.size, 2, none⟩ = some (.slice a n c) := (hbb.cell (by first | (simp; done) | (simp; omega))).trans (by simp [go_sem])
  have HZ := Lib.hid hz
  have HB0 := Lib.hid hB0
  clear hbb hz hB0
  go_loopw [5, 10] (fun out i wr => ∃ k : Nat, k ≤ 4 ∧ i = .int .i64 k ∧ wr.ownsRow (w.heap.size + 2) 67 2 out (nbrsTo W H X Y k).length ((nbrsTo W H X Y k).flatMap qval) ∧ Below (w.heap.size + 2) W0 wr)
    (fun _ i _ => 4 - (intOf i).toNat)
  case atStart => exact ⟨0, Nat.zero_le _, rfl, World.ownsRow_nil _ _ _ _, Below.refl _ _⟩
  case round =>
    obtain ⟨k, hk, rfl, hown, hnx⟩ := hrel
    have hsz : w.heap.size + 2 ≤ wr.heap.size := by have := hnx.size; have := HZ.out; omega
    by_cases hlt : k < 4
    · obtain ⟨dx, dy, hd, hdx, hdy, hix⟩ := dirs_index X Y k hlt
      have hS := nbrsTo_succ W H X Y k hlt
      rw [hd] at hS
      have HS := Lib.hid hS
      have hl4 := nbrsTo_len W H X Y k
      replace g0 := (hnx.cell (p := ⟨w.heap.size, 0, none⟩) (by show w.heap.size < _; omega)).trans g0
      replace g1 := (hnx.cell (p := ⟨w.heap.size, 1, none⟩) (by show w.heap.size < _; omega)).trans g1
      replace g2 := (hnx.cell (p := ⟨w.heap.size, 2, none⟩) (by show w.heap.size < _; omega)).trans g2
      have hltI : (k : Int) < 4 := by omega
      have n0 := World.new_ne wr _ g0
      have l0 : w.heap.size < wr.heap.size := by omega
      clear hd hS
      by_cases hin : insideB W H (X + dx, Y + dy) = true
      · have K := Lib.hid (fun w1 => hin ▸ has_any W H (X + dx) (Y + dy) a n c w1)
        have HIN := Lib.hid hin
        clear hin
        go_wp2_with (first
          | (go_at_call 91; refine (K.out _).mono ?_; rintro e w1 ⟨rfl, hb1⟩
             have hs1 := hb1.size
             simp at hs1
             have q0 : w1.cell? ⟨wr.heap.size, 0, none⟩ = some (.int .i64 (X + dx)) := by rw [hb1.cell (by simp)]; simp [go_sem]
             have q1 : w1.cell? ⟨wr.heap.size, 1, none⟩ = some (.int .i64 (Y + dy)) := by rw [hb1.cell (by simp)]; simp [go_sem]
             have hb2 : Below (w.heap.size + 2) W0 w1 := (hnx.alloc hsz _).trans (hb1.mono (by simp; omega))
             have hown1 : w1.ownsRow (w.heap.size + 2) 67 2 _ _ _ := owns_kept (hown.alloc _) hb1 (by simp)
             clear hb1 hown)
          | (at_builtin; refine wpList_append_own _ rfl (.tmp 16) (.tmp 18) 200 rfl (w.heap.size + 2) 67 i0 (.agg #[.int .i64 0, .int .i64 0]) 2 16 Tryz.underlying200 hi hz0 hz1 hz2 rfl (by decide) _ _ _ rfl (hown1.alloc _) ⟨w1.heap.size, 0, none⟩ 1 1 [.int .i64 (X + dx), .int .i64 (Y + dy)] rfl rfl (cells_new2 _ _ _ _) (by intro u hu; simp at hu; rcases hu with rfl | rfl <;> rfl) (by unfold maxLen; omega) (by omega) (by simp; omega) ?_; intro v' w3 hown3 hgrow3 _))
        have hlt' := hown1.lt
        go_roundw
        case rel => exact ⟨k + 1, by omega, by go_num, by rw [HS.out, if_pos HIN.out, List.flatMap_append, List.length_append]; exact hown3, (hb2.alloc (by omega) _).grown hgrow3 (by simp; omega) (fun j hj => (hlt' j hj).1)⟩
        case measure => simp [intOf]; omega
      · have hin' : insideB W H (X + dx, Y + dy) = false := by simpa using hin
        have K := Lib.hid (fun w1 => hin' ▸ has_any W H (X + dx) (Y + dy) a n c w1)
        have HIN := Lib.hid hin
        clear hin hin'
        go_wp2_with (go_at_call 91; refine (K.out _).mono ?_; rintro e w1 ⟨rfl, hb1⟩)
        go_roundw
        case rel => exact ⟨k + 1, by omega, by go_num, by rw [HS.out, if_neg HIN.out]; exact owns_kept (hown.alloc _) hb1 (by simp), (hnx.alloc hsz _).trans (hb1.mono (by simp; omega))⟩
        case measure => simp [intOf]; omega
    · go_wp2
      go_ret
      obtain rfl : k = 4 := by omega
      exact ⟨_, rfl, owns_base hown (by omega), HB0.out.trans (hnx.mono (by omega))⟩
end Go.Proofs.YthfiilfekofimaaGreatDoor

/-
  Contracts of checkSpan for a span that is right, and of At for a right map and a place on it.
-/
namespace Go.Proofs.YthfiilfekofimaaGreatDoor
open Go.RowKit
set_option linter.unusedVariables false

set_option maxHeartbeats 1600000 in
theorem checkSpan_any (f t l : Int) (h0 : 0 ≤ f) (h1 : f < t) (h2 : t ≤ l) (w : World) :
    Calls Tryz.prog 86 #[.agg #[.int .i64 f, .int .i64 t], .int .i64 l] w fun e w' => e = .returned (.int .i64 0) ∧ Below w.heap.size w w' := by
  have i1 : ¬ (f < 0) := by omega
  have i2 : ¬ (t ≤ f) := by omega
  have i3 : ¬ (l < t) := by omega
  go_enter Tryz.func86, Tryz.ntmps86
  go_wp2
  go_ret
  exact ⟨rfl, (Below.refl _ _).alloc (Nat.le_refl _) _⟩

set_option maxRecDepth 100000 in
set_option maxHeartbeats 3200000 in
theorem lightAt_any (W H : Nat) (b o n c : Nat) (xs : List Nat) (ks : List Int) (w : World) (hA : RightMap w W H b o n xs ks) (hb : b < w.heap.size) (X Y : Nat) (hX : X < W) (hY : Y < H) :
    Calls Tryz.prog 27 #[.agg #[.int .i64 W, .int .i64 H, .slice (some ⟨b, o, none⟩) n c], .agg #[.int .i64 X, .int .i64 Y]] w fun e w' =>
      e = .returned (.tuple #[.float .f32 (smpOf (ks[Y * W + X]?.getD 0)), .int .i64 0]) ∧ Below w.heap.size w w' := by
  obtain ⟨W0, hW0⟩ : ∃ W0, (w.alloc (.cells #[.int .i64 W, .int .i64 H, .slice (some ⟨b, o, none⟩) n c] 45)).alloc (.cells #[.int .i64 X, .int .i64 Y] 67) = W0 := ⟨_, rfl⟩
  have hB0 : Below w.heap.size w W0 := by rw [← hW0]; exact ((Below.refl _ w).alloc (Nat.le_refl _) _).alloc (by simp) _
  have hS0 : W0.heap.size = w.heap.size + 2 := by rw [← hW0]; simp
  have a0 : W0.cell? ⟨w.heap.size, 0, none⟩ = some (.int .i64 W) := by rw [← hW0]; simp [go_sem]
  have a1 : W0.cell? ⟨w.heap.size, 1, none⟩ = some (.int .i64 H) := by rw [← hW0]; simp [go_sem]
  have a2 : W0.cell? ⟨w.heap.size, 2, none⟩ = some (.slice (some ⟨b, o, none⟩) n c) := by rw [← hW0]; simp [go_sem]
  have p0 : W0.cell? ⟨w.heap.size + 1, 0, none⟩ = some (.int .i64 X) := by rw [← hW0]; simp [go_sem]
  have p1 : W0.cell? ⟨w.heap.size + 1, 1, none⟩ = some (.int .i64 Y) := by rw [← hW0]; simp [go_sem]
  have K1 := Lib.hid (checkMap_any W H b o n c xs ks W0 (hA.below hB0 hb) (by omega))
  have K2 : Hid (∀ w1 : World, Below W0.heap.size W0 w1 → Calls Tryz.prog 71 #[.agg #[.int .i64 W, .int .i64 H, .slice (some ⟨b, o, none⟩) n c]] w1 fun e w' =>
      ∃ g, e = .returned (.agg #[.int .i64 W, .int .i64 H, .slice (some ⟨g, 0, none⟩) n n]) ∧ w1.heap.size ≤ g ∧ RowAt w' g n ks ∧ Below w1.heap.size w1 w') := Lib.hid (fun w1 h => by
    have h1 := h.size
    have h2 := hB0.trans (h.mono (by omega))
    exact grid_row W H b o n c xs ks w1 (hA.below h2 hb).toWords (by omega))
  have hin : insideB W H (X, Y) = true := by simp [insideB]; omega
  have hW := hA.wid
  have hH := hA.hei
  have hN : W * H = n := by have := hA.area; exact_mod_cast this
  have hlt : Y * W + X < n := idx_lt (p := (X, Y)) hX hY hN
  have hsm := hA.small
  have hsz := hA.sizes _ hlt
  have m1 : Y * W ≤ 64 * 64 := Nat.mul_le_mul (by omega) (by omega)
  have e2 : (Y : Int) * (W : Int) = ((Y * W : Nat) : Int) := by push_cast; rfl
  have e1 : ((Y : Int) * (W : Int) + (X : Int)).toNat = Y * W + X := by rw [e2]; omega
  have KT : Hid (∀ (w1 : World) (ga : Nat), RowAt w1 ga n ks → Calls Tryz.prog 89 #[.agg #[.int .i64 W, .int .i64 H, .slice (some ⟨ga, 0, none⟩) n n], .agg #[.int .i64 X, .int .i64 Y]] w1 fun e w' => e = .returned (.int .i64 (ks[Y * W + X]?.getD 0)) ∧ Below w1.heap.size w1 w') := Lib.hid fun w1 ga hr =>
    at_any W H X Y ga n n _ (by omega) (by omega) (by omega) (by rw [e2]; omega) w1 (by rw [e2]; omega) hr.lt (by rw [e1]; exact hr.cells _ hlt)
  have HSZ := Lib.hid hsz
  have HB0 := Lib.hid hB0
  have HS0 := Lib.hid hS0
  clear hA hB0 e1 e2 hsz hlt hN m1
  go_enter Tryz.func27, Tryz.ntmps27
  go_upto_region 1 with fail
  try rw [hW0]
  clear hW0
  go_wp2_with (first
    | ((go_at_call 67; refine K1.out.mono ?_; rintro e w1 ⟨rfl, hb1⟩
        have hs1 := hb1.size
        have a0' := (hb1.cell (p := ⟨w.heap.size, 0, none⟩) (by show w.heap.size < _; omega)).trans a0
        have a1' := (hb1.cell (p := ⟨w.heap.size, 1, none⟩) (by show w.heap.size < _; omega)).trans a1
        have a2' := (hb1.cell (p := ⟨w.heap.size, 2, none⟩) (by show w.heap.size < _; omega)).trans a2
        have K3 := Lib.hid (K2.out w1 hb1)))
    | ((go_at_call 71; refine K3.out.mono ?_; rintro e w2 ⟨ga, rfl, hga, hRA, hb2⟩
        have hs2 := hb2.size
        obtain ⟨W3, hW3⟩ : ∃ W3, w2.alloc (.cells #[.int .i64 W, .int .i64 H, .slice (some ⟨ga, 0, none⟩) n n] 144) = W3 := ⟨_, rfl⟩
        have hB23 : Below w2.heap.size w2 W3 := by rw [← hW3]; exact (Below.refl _ _).alloc (Nat.le_refl _) _
        have hRA3 := hRA.below hB23 hRA.lt
        have hS3 : W3.heap.size = w2.heap.size + 1 := by rw [← hW3]; simp
        have hB3 : Below W0.heap.size W0 W3 := (hb1.trans (hb2.mono hs1)).trans (hB23.mono (by omega))
        have g0 : W3.cell? ⟨w2.heap.size, 0, none⟩ = some (.int .i64 W) := by rw [← hW3]; simp [go_sem]
        have g1 : W3.cell? ⟨w2.heap.size, 1, none⟩ = some (.int .i64 H) := by rw [← hW3]; simp [go_sem]
        have g2 : W3.cell? ⟨w2.heap.size, 2, none⟩ = some (.slice (some ⟨ga, 0, none⟩) n n) := by rw [← hW3]; simp [go_sem]
        have p0' := (hB3.cell (p := ⟨w.heap.size + 1, 0, none⟩) (by show w.heap.size + 1 < _; omega)).trans p0
        have p1' := (hB3.cell (p := ⟨w.heap.size + 1, 1, none⟩) (by show w.heap.size + 1 < _; omega)).trans p1
        have HRA3 := Lib.hid hRA3
        have HB3 := Lib.hid hB3
        clear hRA hRA3 hB23 hb2 hB3 a0 a1 a2 a0' a1' a2' hb1))
    | ((go_at_call 91; refine (has_any W H X Y _ _ _ W3).mono ?_; rintro e w4 ⟨rfl, hb4⟩
        have hs4 := hb4.size
        have g0' := (hb4.cell (p := ⟨w2.heap.size, 0, none⟩) (by show w2.heap.size < _; omega)).trans g0
        have g1' := (hb4.cell (p := ⟨w2.heap.size, 1, none⟩) (by show w2.heap.size < _; omega)).trans g1
        have g2' := (hb4.cell (p := ⟨w2.heap.size, 2, none⟩) (by show w2.heap.size < _; omega)).trans g2
        have p0'' := (hb4.cell (p := ⟨w.heap.size + 1, 0, none⟩) (by show w.heap.size + 1 < _; omega)).trans p0'
        have p1'' := (hb4.cell (p := ⟨w.heap.size + 1, 1, none⟩) (by show w.heap.size + 1 < _; omega)).trans p1'
        have K5 := Lib.hid (KT.out w4 ga (HRA3.out.below hb4 HRA3.out.lt))
        have HB4 := Lib.hid (HB3.out.trans (hb4.mono (by omega)))
        clear hb4 g0 g1 g2 p0' p1' p0 p1))
    | ((go_at_call 89; refine K5.out.mono ?_; rintro e w5 ⟨rfl, hb5⟩
        have HB5 := Lib.hid (HB4.out.trans (hb5.mono HB4.out.size))
        clear hb5))
    | (go_at_call 92; refine (sample_any _ (Nat.lt_of_le_of_lt HSZ.out (by decide)) _).mono ?_; rintro e w6 ⟨rfl, rfl⟩))
  go_ret2
  exact ⟨rfl, HB0.out.trans (HB5.out.mono (by have := HS0.out; omega))⟩
end Go.Proofs.YthfiilfekofimaaGreatDoor
