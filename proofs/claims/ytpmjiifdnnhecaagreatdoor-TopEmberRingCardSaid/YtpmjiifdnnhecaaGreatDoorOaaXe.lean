/-
  Contract of Added's literal: the sum of the integers of two grids at a place.
-/
import Derived.Test.YtpmjiifdnnhecaaGreatDoorOaaXd
import Derived.Test.YtpmjiifdnnhecaaGreatDoorOaaWf
import Derived.Test.YtpmjiifdnnhecaaGreatDoorOaaWc
import Derived.Deep.DrawnRows
namespace Go.Proofs.YtpmjiifdnnhecaaGreatDoor
open Go.RowKit
set_option linter.unusedVariables false

/-- A variable that holds a grid. -/
structure GridAt (w : World) (g7 : Nat) (W H : Int) (g n c : Nat) : Prop where
  c0 : w.cell? ⟨g7, 0, none⟩ = some (.int .i64 W)
  c1 : w.cell? ⟨g7, 1, none⟩ = some (.int .i64 H)
  c2 : w.cell? ⟨g7, 2, none⟩ = some (.slice (some ⟨g, 0, none⟩) n c)
theorem GridAt.below {B : Nat} {w w' : World} {g7 : Nat} {W H : Int} {g n c : Nat} (h : GridAt w g7 W H g n c) (hb : Below B w w') (hB : g7 < B) : GridAt w' g7 W H g n c :=
  ⟨(hb.cell (p := ⟨g7, 0, none⟩) hB).trans h.c0, (hb.cell (p := ⟨g7, 1, none⟩) hB).trans h.c1, (hb.cell (p := ⟨g7, 2, none⟩) hB).trans h.c2⟩

set_option maxRecDepth 100000 in
set_option maxHeartbeats 3200000 in
theorem added1_any (W H : Int) (ga na ca gb nb cb g7 g8 : Nat) (X Y va vb : Int) (h0 : 0 ≤ W ∧ W ≤ 1048576) (hx : 0 ≤ X ∧ X ≤ 1048576) (hy : 0 ≤ Y ∧ Y ≤ 1048576) (hp : 0 ≤ Y * W ∧ Y * W ≤ 1099511627776) (ha : va.natAbs ≤ 1048576) (hb : vb.natAbs ≤ 1048576) (w : World)
    (hn : Y * W + X < na) (hn' : Y * W + X < nb) (g7l : g7 < w.heap.size) (g8l : g8 < w.heap.size) (gal : ga < w.heap.size) (gbl : gb < w.heap.size) (hA : GridAt w g7 W H ga na ca) (hB : GridAt w g8 W H gb nb cb)
    (hca : w.cell? ⟨ga, (Y * W + X).toNat, none⟩ = some (.int .i64 va)) (hcb : w.cell? ⟨gb, (Y * W + X).toNat, none⟩ = some (.int .i64 vb)) :
    Calls Tryz.prog 143 #[.agg #[.int .i64 X, .int .i64 Y], .pointer (some ⟨g7, 0, none⟩), .pointer (some ⟨g8, 0, none⟩)] w fun e w' => e = .returned (.int .i64 (va + vb)) ∧ Below w.heap.size w w' := by
  obtain ⟨a0, a1, a2⟩ := hA
  obtain ⟨b0, b1, b2⟩ := hB
  have KA : ∀ w1 : World, Below (w.heap.size + 1) (w.alloc (.cells #[.int .i64 X, .int .i64 Y] 124)) w1 → Calls Tryz.prog 142 #[.agg #[.int .i64 W, .int .i64 H, .slice (some ⟨ga, 0, none⟩) na ca], .agg #[.int .i64 X, .int .i64 Y]] w1 fun e w' => e = .returned (.int .i64 va) ∧ Below (w.heap.size + 1) (w.alloc (.cells #[.int .i64 X, .int .i64 Y] 124)) w' := fun w1 h1 => by
    have hs := h1.size
    simp at hs
    have h2 := ((Below.refl _ w).alloc (Nat.le_refl _) (.cells #[.int .i64 X, .int .i64 Y] 124)).trans (h1.mono (by omega))
    exact (at_any W H X Y ga na ca va h0 hx hy hp w1 hn (by omega) ((h2.cell (by exact gal)).trans hca)).mono fun e w' ⟨he, hw⟩ => ⟨he, h1.trans (hw.mono hs)⟩
  have KB : ∀ w1 : World, Below (w.heap.size + 1) (w.alloc (.cells #[.int .i64 X, .int .i64 Y] 124)) w1 → Calls Tryz.prog 142 #[.agg #[.int .i64 W, .int .i64 H, .slice (some ⟨gb, 0, none⟩) nb cb], .agg #[.int .i64 X, .int .i64 Y]] w1 fun e w' => e = .returned (.int .i64 vb) ∧ Below (w.heap.size + 1) (w.alloc (.cells #[.int .i64 X, .int .i64 Y] 124)) w' := fun w1 h1 => by
    have hs := h1.size
    simp at hs
    have h2 := ((Below.refl _ w).alloc (Nat.le_refl _) (.cells #[.int .i64 X, .int .i64 Y] 124)).trans (h1.mono (by omega))
    exact (at_any W H X Y gb nb cb vb h0 hx hy hp w1 hn' (by omega) ((h2.cell (by exact gbl)).trans hcb)).mono fun e w' ⟨he, hw⟩ => ⟨he, h1.trans (hw.mono hs)⟩
  have HKA := Lib.hid KA
  have HKB := Lib.hid KB
  clear KA KB hca hcb hn hn' h0 hx hy hp
  go_enter Tryz.func143, Tryz.ntmps143
  go_wp2_with fail
  obtain ⟨W0, hW0⟩ : ∃ W0, w.alloc (.cells #[.int .i64 X, .int .i64 Y] 124) = W0 := ⟨_, rfl⟩
  have hS0 : W0.heap.size = w.heap.size + 1 := by rw [← hW0]; simp
  have hB0 : Below w.heap.size w W0 := by rw [← hW0]; exact (Below.refl _ w).alloc (Nat.le_refl _) _
  have p0 : W0.cell? ⟨w.heap.size, 0, none⟩ = some (.int .i64 X) := by rw [← hW0]; simp [go_sem]
  have p1 : W0.cell? ⟨w.heap.size, 1, none⟩ = some (.int .i64 Y) := by rw [← hW0]; simp [go_sem]
  replace a0 := (hB0.cell (p := ⟨g7, 0, none⟩) g7l).trans a0
  replace a1 := (hB0.cell (p := ⟨g7, 1, none⟩) g7l).trans a1
  replace a2 := (hB0.cell (p := ⟨g7, 2, none⟩) g7l).trans a2
  replace b0 := (hB0.cell (p := ⟨g8, 0, none⟩) g8l).trans b0
  replace b1 := (hB0.cell (p := ⟨g8, 1, none⟩) g8l).trans b1
  replace b2 := (hB0.cell (p := ⟨g8, 2, none⟩) g8l).trans b2
  have hR : Below (w.heap.size + 1) W0 W0.drew := (Below.refl (w.heap.size + 1) W0).drew
  rw [hW0] at HKA HKB ⊢
  have HB0 := Lib.hid hB0
  have HS0 := Lib.hid hS0
  clear hW0 hB0 hS0
  have hwr : IntKind.i64.wrap (va + vb) = va + vb := IntWalk.i64_in _ ⟨by omega, by omega⟩
  go_region_held3 (fun w' => w'.cell? ⟨g7, 0, none⟩ = some (.int .i64 W) ∧ w'.cell? ⟨g7, 1, none⟩ = some (.int .i64 H) ∧ w'.cell? ⟨g7, 2, none⟩ = some (.slice (some ⟨ga, 0, none⟩) na ca) ∧
      w'.cell? ⟨g8, 0, none⟩ = some (.int .i64 W) ∧ w'.cell? ⟨g8, 1, none⟩ = some (.int .i64 H) ∧ w'.cell? ⟨g8, 2, none⟩ = some (.slice (some ⟨gb, 0, none⟩) nb cb) ∧
      w'.cell? ⟨w.heap.size, 0, none⟩ = some (.int .i64 X) ∧ w'.cell? ⟨w.heap.size, 1, none⟩ = some (.int .i64 Y) ∧ Below (w.heap.size + 1) W0 w')
    (first | (go_split_ands; refine ⟨?_, ?_, ?_, ?_, ?_, ?_, ?_, ?_, ?_⟩ <;> first | assumption | ((rw [hb1.cell (by simp; try omega)]; assumption))) | go_keep)
    (first
      | (go_at_call_of 142 (Value.agg #[.int .i64 W, .int .i64 H, .slice (some ⟨ga, 0, none⟩) na ca]); refine (HKA.out _ ?_).mono ?_; rotate_left 1; rintro e w' ⟨rfl, hb1⟩; rotate_left 1; (simp [*]))
      | (go_at_call_of 142 (Value.agg #[.int .i64 W, .int .i64 H, .slice (some ⟨gb, 0, none⟩) nb cb]); refine (HKB.out _ ?_).mono ?_; rotate_left 1; rintro e w' ⟨rfl, hb1⟩; rotate_left 1; (simp [*])))
  all_goals
    go_wp2
    go_ret
    exact ⟨rfl, HB0.out.trans (hb1.mono (by omega))⟩
end Go.Proofs.YtpmjiifdnnhecaaGreatDoor

/-
  Contract of Total for a right map: the sum of its integers.
-/

namespace Go.Proofs.YtpmjiifdnnhecaaGreatDoor
open Go.RowKit
set_option linter.unusedVariables false

theorem sum_take_succ (ks : List Int) (k : Nat) (hk : k < ks.length) : (ks.take (k + 1)).sum = (ks.take k).sum + ks[k]?.getD 0 := by
  rw [List.take_succ_eq_append_getElem hk, List.sum_append, List.getElem?_eq_getElem hk]; simp
theorem sum_take_bd {ks : List Int} {M : Nat} {n : Nat} (hl : ks.length = n) (h : ∀ j, j < n → (ks[j]?.getD 0).natAbs ≤ M) : ∀ k, k ≤ n → -((M * k : Nat) : Int) ≤ (ks.take k).sum ∧ (ks.take k).sum ≤ ((M * k : Nat) : Int)
  | 0, _ => by simp
  | k + 1, hk => by
    have ih := sum_take_bd hl h k (by omega)
    have hb := h k (by omega)
    rw [sum_take_succ ks k (by omega)]
    rw [Nat.mul_succ]
    push_cast at ih ⊢
    omega

set_option maxRecDepth 100000 in
set_option maxHeartbeats 3200000 in
theorem total_any (W H : Int) (b o n c : Nat) (xs : List Nat) (ks : List Int) (w : World) (hw : RightMap w W H b o n xs ks) (hb : b < w.heap.size) :
    Calls Tryz.prog 62 #[.agg #[.int .i64 W, .int .i64 H, .slice (some ⟨b, o, none⟩) n c]] w fun e w' => e = .returned (.tuple #[.int .i64 ks.sum, .int .i64 0]) ∧ Below w.heap.size w w' := by
  have K1 : Hid (∀ w1 : World, Below w.heap.size w w1 → Calls Tryz.prog 134 #[.agg #[.int .i64 W, .int .i64 H, .slice (some ⟨b, o, none⟩) n c]] w1 fun e w' => e = .returned (.int .i64 0) ∧ Below w1.heap.size w1 w') :=
    Lib.hid fun w1 h => checkMap_any W H b o n c xs ks w1 (hw.below h hb) (by have := h.size; omega)
  have K2 : Hid (∀ w1 : World, Below w.heap.size w w1 → Calls Tryz.prog 135 #[.agg #[.int .i64 W, .int .i64 H, .slice (some ⟨b, o, none⟩) n c]] w1 fun e w' =>
      e = .returned (.agg #[.int .i64 W, .int .i64 H, .slice (some ⟨w1.heap.size + 2, 0, none⟩) n n]) ∧ w'.ownsRow (w1.heap.size + 2) 3 1 (.slice (some ⟨w1.heap.size + 2, 0, none⟩) n n) n (ks.map (Value.int .i64)) ∧ Below w1.heap.size w1 w') :=
    Lib.hid fun w1 h => gridOf_any W H b o n c xs ks w1 (hw.below h hb).toWords (by have := h.size; omega)
  have hfld : ∀ (g : Nat) (w : World), (Instr.field 225 (.agg #[.int .i64 W, .int .i64 H, .slice (some ⟨g, 0, none⟩) n n]) 2).run Tryz.prog w = .ok (.slice (some ⟨g, 0, none⟩) n n) w := fun _ _ => by kernel_rfl
  have hsm := hw.small
  have HW := Lib.hid hw
  have HBD := Lib.hid (sum_take_bd hw.lenk hw.sizes)
  clear hw
  go_enter Tryz.func62, Tryz.ntmps62
  go_wp2_with (first
    | (go_at_call 134; refine (K1.out _ ((Below.refl _ w).alloc (Nat.le_refl _) _)).mono ?_; rintro e w1 ⟨rfl, hb1⟩
       have hs1 : w.heap.size + 1 ≤ w1.heap.size := by have := hb1.size; simpa using this
       have hB1 : Below w.heap.size w w1 := ((Below.refl _ w).alloc (Nat.le_refl _) _).trans (hb1.mono (by simp))
       have c0 : w1.cell? ⟨w.heap.size, 0, none⟩ = some (.int .i64 W) := by rw [hb1.cell (by simp)]; simp [go_sem]
       have c1 : w1.cell? ⟨w.heap.size, 1, none⟩ = some (.int .i64 H) := by rw [hb1.cell (by simp)]; simp [go_sem]
       have c2 : w1.cell? ⟨w.heap.size, 2, none⟩ = some (.slice (some ⟨b, o, none⟩) n c) := by rw [hb1.cell (by simp)]; simp [go_sem]
       have HB1 := Lib.hid hB1
       clear hb1 hB1)
    | (go_at_call 135; refine (K2.out _ HB1.out).mono ?_; rintro e w2 ⟨rfl, hown2, hb2⟩
       have HB2 := Lib.hid (HB1.out.trans (hb2.mono HB1.out.size))
       have HO2 := Lib.hid hown2
       clear hb2 hown2 c0 c1 c2))
  go_loop [5, 17] (fun x i => ∃ k : Nat, k ≤ n ∧ i = .int .i64 k ∧ x = .int .i64 (ks.take k).sum) (fun _ i => n - (intOf i).toNat)
  case atStart => exact ⟨0, Nat.zero_le _, rfl, rfl⟩
  case round =>
    obtain ⟨k, hk, rfl, rfl⟩ := hrel
    have hbd := HBD.out k hk
    by_cases hlt : k < n
    · have hcell : w2.cell? ⟨w1.heap.size + 2, k, none⟩ = some (.int .i64 (ks[k]?.getD 0)) := owns_cell HO2.out (by
        rw [List.getElem?_map, List.getElem?_eq_getElem (by have := HW.out.lenk; omega)]; rfl)
      have hz := HW.out.sizes k hlt
      have hS := sum_take_succ ks k (by have := HW.out.lenk; omega)
      have HS := Lib.hid hS
      have hb3 : -67108864 ≤ (ks.take k).sum ∧ (ks.take k).sum ≤ 67108864 := by
        have : 16384 * k ≤ 67108864 := by omega
        omega
      clear hS hbd
      go_wp2
      go_round
      case rel => exact ⟨k + 1, by omega, by go_num, by rw [HS.out]⟩
      case measure => simp [intOf]; omega
    · go_wp2
      go_ret2
      obtain rfl : k = n := by omega
      exact ⟨by rw [List.take_of_length_le (by have := HW.out.lenk; omega)]; rfl, HB2.out⟩
end Go.Proofs.YtpmjiifdnnhecaaGreatDoor

/-
  What stands behind the two grids of Added; blocks behind stores and new blocks.
-/
namespace Go.Proofs.YtpmjiifdnnhecaaGreatDoor
open Go.RowKit
set_option linter.unusedVariables false
attribute [local go_sem ↓] Go.wp_at_zero Go.wp_at_succ

/-- Integers that lie in a block. -/
structure RowAt (w : World) (g n : Nat) (ks : List Int) : Prop where
  lt : g < w.heap.size
  cells : ∀ j, j < n → w.cell? ⟨g, j, none⟩ = some (.int .i64 (ks[j]?.getD 0))
theorem RowAt.below {B : Nat} {w w' : World} {g n : Nat} {ks : List Int} (h : RowAt w g n ks) (hb : Below B w w') (hB : g < B) : RowAt w' g n ks :=
  ⟨Nat.lt_of_lt_of_le h.lt hb.size, fun j hj => (hb.cell (p := ⟨g, j, none⟩) hB).trans (h.cells j hj)⟩
theorem grid_row (W H : Int) (b o n c : Nat) (xs : List Nat) (ks : List Int) (w : World) (hw : Words w b o n xs ks) (hb : b < w.heap.size) :
    Calls Tryz.prog 135 #[.agg #[.int .i64 W, .int .i64 H, .slice (some ⟨b, o, none⟩) n c]] w fun e w' =>
      ∃ g, e = .returned (.agg #[.int .i64 W, .int .i64 H, .slice (some ⟨g, 0, none⟩) n n]) ∧ w.heap.size ≤ g ∧ RowAt w' g n ks ∧ Below w.heap.size w w' :=
  (gridOf_any W H b o n c xs ks w hw hb).mono fun e w' ⟨he, ho, hB⟩ => ⟨_, he, by omega, ⟨(ho.lt _ rfl).2, fun j hj => owns_cell ho (by
    rw [List.getElem?_map, List.getElem?_eq_getElem (by rw [hw.lenk]; exact hj)]; rfl)⟩, hB⟩

theorem bcell {W w1 : World} (hb : Below W.heap.size W w1) : (∀ b o, b < W.heap.size → w1.cell? ⟨b, o, none⟩ = W.cell? ⟨b, o, none⟩) ∧ (∀ b o, b < W.heap.size → w1.frozen? ⟨b, o, none⟩ = W.frozen? ⟨b, o, none⟩) :=
  ⟨fun b o h => hb.cell (p := ⟨b, o, none⟩) h, fun b o h => hb.frozen (p := ⟨b, o, none⟩) h⟩
/-- Below, closed to what takes conjunctions apart. -/
def Blw (N : Nat) (w w' : World) : Prop := Below N w w'
/-- What stands behind the two grids. -/
def GridsMade (w W0 : World) (W H : Int) (n : Nat) (ks js : List Int) (s7 s8 : Value) (wx : World) : Prop :=
  ∃ g7 g8 ga gb : Nat, s7 = .pointer (some ⟨g7, 0, none⟩) ∧ s8 = .pointer (some ⟨g8, 0, none⟩) ∧ GridAt wx g7 W H ga n n ∧ GridAt wx g8 W H gb n n ∧ RowAt wx ga n ks ∧ RowAt wx gb n js ∧ g7 < wx.heap.size ∧ g8 < wx.heap.size ∧ Below (w.heap.size + 3) W0 wx
theorem placesTo_get (W k j : Nat) (h : j < k) : (placesTo W k)[j]? = some (j % W, j / W) := by
  rw [placesTo, List.getElem?_map, List.getElem?_range h]; rfl
theorem idx_lt {W H n : Nat} {p : Nat × Nat} (h1 : p.1 < W) (h2 : p.2 < H) (hn : W * H = n) : p.2 * W + p.1 < n := by
  have := Nat.mul_le_mul_right W (show p.2 + 1 ≤ H by omega)
  rw [Nat.add_mul, Nat.one_mul, Nat.mul_comm H W, hn] at this
  omega
theorem RowAt.set {w : World} {g n : Nat} {ks : List Int} (h : RowAt w g n ks) {p : Addr} (hp : p.block ≠ g) (v : Value) : RowAt (w.setCell p v) g n ks :=
  ⟨by simpa [World.setCell] using h.lt, fun j hj => (World.cell?_setCell_other w p ⟨g, j, none⟩ v (fun e => hp (by rw [e]))).trans (h.cells j hj)⟩
theorem RowAt.alloc {w : World} {g n : Nat} {ks : List Int} (h : RowAt w g n ks) (o : Obj) : RowAt (w.alloc o) g n ks := h.below ((Below.refl _ w).alloc (Nat.le_refl _) o) h.lt
theorem blk_set_other {w : World} {B : Nat} {o : Obj} (h : w.heap[B]? = some o) {p : Addr} (hp : p.block ≠ B) (v : Value) : (w.setCell p v).heap[B]? = some o := by
  rw [← h]; exact Below.heap_setCell _ _ _ _ (fun e => hp e.symm)
theorem blk_alloc_other {w : World} {B : Nat} {o : Obj} (h : w.heap[B]? = some o) (x : Obj) : (w.alloc x).heap[B]? = some o := (Below.heap_alloc _ _ _ (Array.getElem?_eq_some_iff.1 h).1).trans h
theorem blk_drew {w : World} {B : Nat} {o : Obj} (h : w.heap[B]? = some o) : w.drew.heap[B]? = some o := h
theorem blk_alloc_new (w : World) (o : Obj) : (w.alloc o).heap[w.heap.size]? = some o := heap_alloc_new w o
theorem blk_alloc_new1 (w : World) (o o' : Obj) : ((w.alloc o').alloc o).heap[w.heap.size + 1]? = some o := heap_alloc2_new w _ _
theorem blk_alloc_at (w : World) (o : Obj) {B : Nat} (h : w.heap.size = B) : (w.alloc o).heap[B]? = some o := by rw [← h]; exact blk_alloc_new w o
theorem blk_set3 {w : World} {B : Nat} {T : TypeId} {x y z : Value} (h : w.heap[B]? = some (.cells #[x, y, z] T (0, 0))) (a b c : Value) :
    (((w.setCell ⟨B, 0, none⟩ a).setCell ⟨B, 1, none⟩ b).setCell ⟨B, 2, none⟩ c).heap[B]? = some (.cells #[a, b, c] T (0, 0)) := by
  simp only [World.setCell, Array.getElem?_modify, if_true, h, Option.map_some]
  simp
theorem GridAt.of_blk {w : World} {B : Nat} {T : TypeId} {W H : Int} {g n c : Nat} (h : w.heap[B]? = some (.cells #[.int .i64 W, .int .i64 H, .slice (some ⟨g, 0, none⟩) n c] T (0, 0))) : GridAt w B W H g n c :=
  ⟨by rw [cell_of_row w B 0 _ _ (0, 0) h]; rfl, by rw [cell_of_row w B 1 _ _ (0, 0) h]; rfl, by rw [cell_of_row w B 2 _ _ (0, 0) h]; rfl⟩
theorem lt_of_blk {w : World} {B : Nat} {o : Obj} (h : w.heap[B]? = some o) : B < w.heap.size := (Array.getElem?_eq_some_iff.1 h).1
theorem below_alloc {N : Nat} {W0 W1 : World} (h : Below N W0 W1) (hN : N ≤ W0.heap.size) (o : Obj) : Below N W0 (W1.alloc o) := h.alloc (Nat.le_trans hN h.size) o

end Go.Proofs.YtpmjiifdnnhecaaGreatDoor
