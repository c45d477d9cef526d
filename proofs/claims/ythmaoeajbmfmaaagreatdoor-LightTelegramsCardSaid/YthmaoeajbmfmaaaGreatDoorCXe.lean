/-
  Contract of Added's literal: the sum of the integers of two grids at a place.
-/
import Derived.Test.YthmaoeajbmfmaaaGreatDoorCXd
import Derived.Test.YthmaoeajbmfmaaaGreatDoorCFc
import Derived.Test.YthmaoeajbmfmaaaGreatDoorCHb
import Derived.Deep.DrawnRows
import Derived.Test.YthmaoeajbmfmaaaGreatDoorCGa
import Derived.Test.YthmaoeajbmfmaaaGreatDoorCWh
import Derived.Test.YthmaoeajbmfmaaaGreatDoorCWj
import Derived.Test.YthmaoeajbmfmaaaGreatDoorCHa
namespace Go.Proofs.YthmaoeajbmfmaaaGreatDoor
open Go.RowKit
set_option linter.unusedVariables false

/-- A variable that holds a grid. -/
structure GridAt (w : World) (g7 : Nat) (W H : Int) (g n c : Nat) : Prop where
  c0 : w.cell? ⟨g7, 0, none⟩ = some (.int .i64 W)
  c1 : w.cell? ⟨g7, 1, none⟩ = some (.int .i64 H)
  c2 : w.cell? ⟨g7, 2, none⟩ = some (.slice (some ⟨g, 0, none⟩) n c)
theorem GridAt.below {B : Nat} {w w' : World} {g7 : Nat} {W H : Int} {g n c : Nat} (h : GridAt w g7 W H g n c) (hb : Below B w w') (hB : g7 < B) : GridAt w' g7 W H g n c :=
  ⟨(hb.cell (p := ⟨g7, 0, none⟩) hB).trans h.c0, (hb.cell (p := ⟨g7, 1, none⟩) hB).trans h.c1, (hb.cell (p := ⟨g7, 2, none⟩) hB).trans h.c2⟩

set_option maxRecDepth 100000 in
set_option maxHeartbeats 3200000 in
theorem added1_any (W H : Int) (ga na ca gb nb cb g7 g8 : Nat) (X Y va vb : Int) (h0 : 0 ≤ W ∧ W ≤ 1048576) (hx : 0 ≤ X ∧ X ≤ 1048576) (hy : 0 ≤ Y ∧ Y ≤ 1048576) (hp : 0 ≤ Y * W ∧ Y * W ≤ 1099511627776) (ha : va.natAbs ≤ 1048576) (hb : vb.natAbs ≤ 1048576) (w : World)
    (hn : Y * W + X < na) (hn' : Y * W + X < nb) (g7l : g7 < w.heap.size) (g8l : g8 < w.heap.size) (gal : ga < w.heap.size) (gbl : gb < w.heap.size) (hA : GridAt w g7 W H ga na ca) (hB : GridAt w g8 W H gb nb cb)
    (hca : w.cell? ⟨ga, (Y * W + X).toNat, none⟩ = some (.int .i64 va)) (hcb : w.cell? ⟨gb, (Y * W + X).toNat, none⟩ = some (.int .i64 vb)) :
    Calls Tryz.prog 124 #[.agg #[.int .i64 X, .int .i64 Y], .pointer (some ⟨g7, 0, none⟩), .pointer (some ⟨g8, 0, none⟩)] w fun e w' => e = .returned (.int .i64 (va + vb)) ∧ Below w.heap.size w w' := by
  obtain ⟨a0, a1, a2⟩ := hA
  obtain ⟨b0, b1, b2⟩ := hB
  have KA : ∀ w1 : World, Below (w.heap.size + 1) (w.alloc (.cells #[.int .i64 X, .int .i64 Y] 99)) w1 → Calls Tryz.prog 119 #[.agg #[.int .i64 W, .int .i64 H, .slice (some ⟨ga, 0, none⟩) na ca], .agg #[.int .i64 X, .int .i64 Y]] w1 fun e w' => e = .returned (.int .i64 va) ∧ Below (w.heap.size + 1) (w.alloc (.cells #[.int .i64 X, .int .i64 Y] 99)) w' := fun w1 h1 => by
    have hs := h1.size
    simp at hs
    have h2 := ((Below.refl _ w).alloc (Nat.le_refl _) (.cells #[.int .i64 X, .int .i64 Y] 99)).trans (h1.mono (by omega))
    exact (at_any W H X Y ga na ca va h0 hx hy hp w1 hn (by omega) ((h2.cell (by exact gal)).trans hca)).mono fun e w' ⟨he, hw⟩ => ⟨he, h1.trans (hw.mono hs)⟩
  have KB : ∀ w1 : World, Below (w.heap.size + 1) (w.alloc (.cells #[.int .i64 X, .int .i64 Y] 99)) w1 → Calls Tryz.prog 119 #[.agg #[.int .i64 W, .int .i64 H, .slice (some ⟨gb, 0, none⟩) nb cb], .agg #[.int .i64 X, .int .i64 Y]] w1 fun e w' => e = .returned (.int .i64 vb) ∧ Below (w.heap.size + 1) (w.alloc (.cells #[.int .i64 X, .int .i64 Y] 99)) w' := fun w1 h1 => by
    have hs := h1.size
    simp at hs
    have h2 := ((Below.refl _ w).alloc (Nat.le_refl _) (.cells #[.int .i64 X, .int .i64 Y] 99)).trans (h1.mono (by omega))
    exact (at_any W H X Y gb nb cb vb h0 hx hy hp w1 hn' (by omega) ((h2.cell (by exact gbl)).trans hcb)).mono fun e w' ⟨he, hw⟩ => ⟨he, h1.trans (hw.mono hs)⟩
  have HKA := Lib.hid KA
  have HKB := Lib.hid KB
  clear KA KB hca hcb hn hn' h0 hx hy hp
  go_enter Tryz.func124, Tryz.ntmps124
  go_wp2_with fail
  obtain ⟨W0, hW0⟩ : ∃ W0, w.alloc (.cells #[.int .i64 X, .int .i64 Y] 99) = W0 := ⟨_, rfl⟩
  have hS0 : W0.heap.size = w.heap.size + 1 := by rw [← hW0]; simp
  have hB0 : Below w.heap.size w W0 := by rw [← hW0]; exact (Below.refl _ w).alloc (Nat.le_refl _) _
  have p0 : W0.cell? ⟨w.heap.size, 0, none⟩ = some (.int .i64 X) := by rw [← hW0]; simp [go_sem]
  have p1 : W0.cell? ⟨w.heap.size, 1, none⟩ = some (.int .i64 Y) := by rw [← hW0]; simp [go_sem]
  replace a0 := (hB0.cell (p := ⟨g7, 0, none⟩) g7l).trans a0
  replace a1 := (hB0.cell (p := ⟨g7, 1, none⟩) g7l).trans a1
  replace a2 := (hB0.cell (p := ⟨g7, 2, none⟩) g7l).trans a2
  replace b0 := (hB0.cell (p := ⟨g8, 0, none⟩) g8l).trans b0
  replace b1 := (hB0.cell (p := ⟨g8, 1, none⟩) g8l).trans b1
  replace b2 := (hB0.cell (p := ⟨g8, 2, none⟩) g8l).trans b2
  have hR : Below (w.heap.size + 1) W0 W0.drew := (Below.refl (w.heap.size + 1) W0).drew
  rw [hW0] at HKA HKB ⊢
  have HB0 := Lib.hid hB0
  have HS0 := Lib.hid hS0
  clear hW0 hB0 hS0
  have hwr : IntKind.i64.wrap (va + vb) = va + vb := IntWalk.i64_in _ ⟨by omega, by omega⟩
  go_region_held3 (fun w' => w'.cell? ⟨g7, 0, none⟩ = some (.int .i64 W) ∧ w'.cell? ⟨g7, 1, none⟩ = some (.int .i64 H) ∧ w'.cell? ⟨g7, 2, none⟩ = some (.slice (some ⟨ga, 0, none⟩) na ca) ∧
      w'.cell? ⟨g8, 0, none⟩ = some (.int .i64 W) ∧ w'.cell? ⟨g8, 1, none⟩ = some (.int .i64 H) ∧ w'.cell? ⟨g8, 2, none⟩ = some (.slice (some ⟨gb, 0, none⟩) nb cb) ∧
      w'.cell? ⟨w.heap.size, 0, none⟩ = some (.int .i64 X) ∧ w'.cell? ⟨w.heap.size, 1, none⟩ = some (.int .i64 Y) ∧ Below (w.heap.size + 1) W0 w')
    (first | (go_split_ands; refine ⟨?_, ?_, ?_, ?_, ?_, ?_, ?_, ?_, ?_⟩ <;> first | assumption | ((rw [hb1.cell (by simp; try omega)]; assumption))) | go_keep)
    (first
      | (go_at_call_of 119 (Value.agg #[.int .i64 W, .int .i64 H, .slice (some ⟨ga, 0, none⟩) na ca]); refine (HKA.out _ ?_).mono ?_; rotate_left 1; rintro e w' ⟨rfl, hb1⟩; rotate_left 1; (simp [*]))
      | (go_at_call_of 119 (Value.agg #[.int .i64 W, .int .i64 H, .slice (some ⟨gb, 0, none⟩) nb cb]); refine (HKB.out _ ?_).mono ?_; rotate_left 1; rintro e w' ⟨rfl, hb1⟩; rotate_left 1; (simp [*])))
  all_goals
    go_wp2
    go_ret
    exact ⟨rfl, HB0.out.trans (hb1.mono (by omega))⟩
end Go.Proofs.YthmaoeajbmfmaaaGreatDoor

/-
  Contract of Total for a right map: the sum of its integers.
-/
namespace Go.Proofs.YthmaoeajbmfmaaaGreatDoor
open Go.RowKit
set_option linter.unusedVariables false

theorem sum_take_succ (ks : List Int) (k : Nat) (hk : k < ks.length) : (ks.take (k + 1)).sum = (ks.take k).sum + ks[k]?.getD 0 := by
  rw [List.take_succ_eq_append_getElem hk, List.sum_append, List.getElem?_eq_getElem hk]; simp
theorem sum_take_bd {ks : List Int} {M : Nat} {n : Nat} (hl : ks.length = n) (h : ∀ j, j < n → (ks[j]?.getD 0).natAbs ≤ M) : ∀ k, k ≤ n → -((M * k : Nat) : Int) ≤ (ks.take k).sum ∧ (ks.take k).sum ≤ ((M * k : Nat) : Int)
  | 0, _ => by simp
  | k + 1, hk => by
    have ih := sum_take_bd hl h k (by omega)
    have hb := h k (by omega)
    rw [sum_take_succ ks k (by omega)]
    rw [Nat.mul_succ]
    push_cast at ih ⊢
    omega

set_option maxRecDepth 100000 in
set_option maxHeartbeats 3200000 in
theorem total_any (W H : Int) (b o n c : Nat) (xs : List Nat) (ks : List Int) (w : World) (hw : RightMap w W H b o n xs ks) (hb : b < w.heap.size) :
    Calls Tryz.prog 44 #[.agg #[.int .i64 W, .int .i64 H, .slice (some ⟨b, o, none⟩) n c]] w fun e w' => e = .returned (.tuple #[.int .i64 ks.sum, .int .i64 0]) ∧ Below w.heap.size w w' := by
  have K1 : Hid (∀ w1 : World, Below w.heap.size w w1 → Calls Tryz.prog 89 #[.agg #[.int .i64 W, .int .i64 H, .slice (some ⟨b, o, none⟩) n c]] w1 fun e w' => e = .returned (.int .i64 0) ∧ Below w1.heap.size w1 w') :=
    Lib.hid fun w1 h => checkMap_any W H b o n c xs ks w1 (hw.below h hb) (by have := h.size; omega)
  have K2 : Hid (∀ w1 : World, Below w.heap.size w w1 → Calls Tryz.prog 91 #[.agg #[.int .i64 W, .int .i64 H, .slice (some ⟨b, o, none⟩) n c]] w1 fun e w' =>
      e = .returned (.agg #[.int .i64 W, .int .i64 H, .slice (some ⟨w1.heap.size + 2, 0, none⟩) n n]) ∧ w'.ownsRow (w1.heap.size + 2) 3 1 (.slice (some ⟨w1.heap.size + 2, 0, none⟩) n n) n (ks.map (Value.int .i64)) ∧ Below w1.heap.size w1 w') :=
    Lib.hid fun w1 h => gridOf_any W H b o n c xs ks w1 (hw.below h hb).toWords (by have := h.size; omega)
  have hfld : ∀ (g : Nat) (w : World), (Instr.field 162 (.agg #[.int .i64 W, .int .i64 H, .slice (some ⟨g, 0, none⟩) n n]) 2).run Tryz.prog w = .ok (.slice (some ⟨g, 0, none⟩) n n) w := fun _ _ => by kernel_rfl
  have hsm := hw.small
  have HW := Lib.hid hw
  have HBD := Lib.hid (sum_take_bd hw.lenk hw.sizes)
  clear hw
  go_enter Tryz.func44, Tryz.ntmps44
  go_wp2_with (first
    | (go_at_call 89; refine (K1.out _ ((Below.refl _ w).alloc (Nat.le_refl _) _)).mono ?_; rintro e w1 ⟨rfl, hb1⟩
       have hs1 : w.heap.size + 1 ≤ w1.heap.size := by have := hb1.size; simpa using this
       have hB1 : Below w.heap.size w w1 := ((Below.refl _ w).alloc (Nat.le_refl _) _).trans (hb1.mono (by simp))
       have c0 : w1.cell? ⟨w.heap.size, 0, none⟩ = some (.int .i64 W) := by rw [hb1.cell (by simp)]; simp [go_sem]
       have c1 : w1.cell? ⟨w.heap.size, 1, none⟩ = some (.int .i64 H) := by rw [hb1.cell (by simp)]; simp [go_sem]
       have c2 : w1.cell? ⟨w.heap.size, 2, none⟩ = some (.slice (some ⟨b, o, none⟩) n c) := by rw [hb1.cell (by simp)]; simp [go_sem]
       have HB1 := Lib.hid hB1
       clear hb1 hB1)
    | (go_at_call 91; refine (K2.out _ HB1.out).mono ?_; rintro e w2 ⟨rfl, hown2, hb2⟩
       have HB2 := Lib.hid (HB1.out.trans (hb2.mono HB1.out.size))
       have HO2 := Lib.hid hown2
       clear hb2 hown2 c0 c1 c2))
  go_loop [5, 17] (fun x i => ∃ k : Nat, k ≤ n ∧ i = .int .i64 k ∧ x = .int .i64 (ks.take k).sum) (fun _ i => n - (intOf i).toNat)
  case atStart => exact ⟨0, Nat.zero_le _, rfl, rfl⟩
  case round =>
    obtain ⟨k, hk, rfl, rfl⟩ := hrel
    have hbd := HBD.out k hk
    by_cases hlt : k < n
    · have hcell : w2.cell? ⟨w1.heap.size + 2, k, none⟩ = some (.int .i64 (ks[k]?.getD 0)) := owns_cell HO2.out (by
        rw [List.getElem?_map, List.getElem?_eq_getElem (by have := HW.out.lenk; omega)]; rfl)
      have hz := HW.out.sizes k hlt
      have hS := sum_take_succ ks k (by have := HW.out.lenk; omega)
      have HS := Lib.hid hS
      have hb3 : -67108864 ≤ (ks.take k).sum ∧ (ks.take k).sum ≤ 67108864 := by
        have : 16384 * k ≤ 67108864 := by omega
        omega
      clear hS hbd
      go_wp2
      go_round
      case rel => exact ⟨k + 1, by omega, by go_num, by rw [HS.out]⟩
      case measure => simp [intOf]; omega
    · go_wp2
      go_ret2
      obtain rfl : k = n := by omega
      exact ⟨by rw [List.take_of_length_le (by have := HW.out.lenk; omega)]; rfl, HB2.out⟩
end Go.Proofs.YthmaoeajbmfmaaaGreatDoor

/-
  What stands behind the two grids of Added; blocks behind stores and new blocks.
-/
namespace Go.Proofs.YthmaoeajbmfmaaaGreatDoor
open Go.RowKit
set_option linter.unusedVariables false
attribute [local go_sem ↓] Go.wp_at_zero Go.wp_at_succ

/-- Integers that lie in a block. -/
structure RowAt (w : World) (g n : Nat) (ks : List Int) : Prop where
  lt : g < w.heap.size
  cells : ∀ j, j < n → w.cell? ⟨g, j, none⟩ = some (.int .i64 (ks[j]?.getD 0))
theorem RowAt.below {B : Nat} {w w' : World} {g n : Nat} {ks : List Int} (h : RowAt w g n ks) (hb : Below B w w') (hB : g < B) : RowAt w' g n ks :=
  ⟨Nat.lt_of_lt_of_le h.lt hb.size, fun j hj => (hb.cell (p := ⟨g, j, none⟩) hB).trans (h.cells j hj)⟩
theorem grid_row (W H : Int) (b o n c : Nat) (xs : List Nat) (ks : List Int) (w : World) (hw : Words w b o n xs ks) (hb : b < w.heap.size) :
    Calls Tryz.prog 91 #[.agg #[.int .i64 W, .int .i64 H, .slice (some ⟨b, o, none⟩) n c]] w fun e w' =>
      ∃ g, e = .returned (.agg #[.int .i64 W, .int .i64 H, .slice (some ⟨g, 0, none⟩) n n]) ∧ w.heap.size ≤ g ∧ RowAt w' g n ks ∧ Below w.heap.size w w' :=
  (gridOf_any W H b o n c xs ks w hw hb).mono fun e w' ⟨he, ho, hB⟩ => ⟨_, he, by omega, ⟨(ho.lt _ rfl).2, fun j hj => owns_cell ho (by
    rw [List.getElem?_map, List.getElem?_eq_getElem (by rw [hw.lenk]; exact hj)]; rfl)⟩, hB⟩

theorem bcell {W w1 : World} (hb : Below W.heap.size W w1) : (∀ b o, b < W.heap.size → w1.cell? ⟨b, o, none⟩ = W.cell? ⟨b, o, none⟩) ∧ (∀ b o, b < W.heap.size → w1.frozen? ⟨b, o, none⟩ = W.frozen? ⟨b, o, none⟩) :=
  ⟨fun b o h => hb.cell (p := ⟨b, o, none⟩) h, fun b o h => hb.frozen (p := ⟨b, o, none⟩) h⟩
/-- Below, closed to what takes conjunctions apart. -/
def Blw (N : Nat) (w w' : World) : Prop := Below N w w'
/-- What stands behind the two grids. -/
def GridsMade (w W0 : World) (W H : Int) (n : Nat) (ks js : List Int) (s7 s8 : Value) (wx : World) : Prop :=
  ∃ g7 g8 ga gb : Nat, s7 = .pointer (some ⟨g7, 0, none⟩) ∧ s8 = .pointer (some ⟨g8, 0, none⟩) ∧ GridAt wx g7 W H ga n n ∧ GridAt wx g8 W H gb n n ∧ RowAt wx ga n ks ∧ RowAt wx gb n js ∧ g7 < wx.heap.size ∧ g8 < wx.heap.size ∧ Below (w.heap.size + 3) W0 wx
theorem placesTo_get (W k j : Nat) (h : j < k) : (placesTo W k)[j]? = some (j % W, j / W) := by
  rw [placesTo, List.getElem?_map, List.getElem?_range h]; rfl
theorem idx_lt {W H n : Nat} {p : Nat × Nat} (h1 : p.1 < W) (h2 : p.2 < H) (hn : W * H = n) : p.2 * W + p.1 < n := by
  have := Nat.mul_le_mul_right W (show p.2 + 1 ≤ H by omega)
  rw [Nat.add_mul, Nat.one_mul, Nat.mul_comm H W, hn] at this
  omega
theorem RowAt.set {w : World} {g n : Nat} {ks : List Int} (h : RowAt w g n ks) {p : Addr} (hp : p.block ≠ g) (v : Value) : RowAt (w.setCell p v) g n ks :=
  ⟨by simpa [World.setCell] using h.lt, fun j hj => (World.cell?_setCell_other w p ⟨g, j, none⟩ v (fun e => hp (by rw [e]))).trans (h.cells j hj)⟩
theorem RowAt.alloc {w : World} {g n : Nat} {ks : List Int} (h : RowAt w g n ks) (o : Obj) : RowAt (w.alloc o) g n ks := h.below ((Below.refl _ w).alloc (Nat.le_refl _) o) h.lt
theorem blk_set_other {w : World} {B : Nat} {o : Obj} (h : w.heap[B]? = some o) {p : Addr} (hp : p.block ≠ B) (v : Value) : (w.setCell p v).heap[B]? = some o := by
  rw [← h]; exact Below.heap_setCell _ _ _ _ (fun e => hp e.symm)
theorem blk_alloc_other {w : World} {B : Nat} {o : Obj} (h : w.heap[B]? = some o) (x : Obj) : (w.alloc x).heap[B]? = some o := (Below.heap_alloc _ _ _ (Array.getElem?_eq_some_iff.1 h).1).trans h
theorem blk_drew {w : World} {B : Nat} {o : Obj} (h : w.heap[B]? = some o) : w.drew.heap[B]? = some o := h
theorem blk_alloc_new (w : World) (o : Obj) : (w.alloc o).heap[w.heap.size]? = some o := heap_alloc_new w o
theorem blk_alloc_new1 (w : World) (o o' : Obj) : ((w.alloc o').alloc o).heap[w.heap.size + 1]? = some o := heap_alloc2_new w _ _
theorem blk_alloc_at (w : World) (o : Obj) {B : Nat} (h : w.heap.size = B) : (w.alloc o).heap[B]? = some o := by rw [← h]; exact blk_alloc_new w o
theorem blk_set3 {w : World} {B : Nat} {T : TypeId} {x y z : Value} (h : w.heap[B]? = some (.cells #[x, y, z] T (0, 0))) (a b c : Value) :
    (((w.setCell ⟨B, 0, none⟩ a).setCell ⟨B, 1, none⟩ b).setCell ⟨B, 2, none⟩ c).heap[B]? = some (.cells #[a, b, c] T (0, 0)) := by
  simp only [World.setCell, Array.getElem?_modify, if_true, h, Option.map_some]
  simp
theorem GridAt.of_blk {w : World} {B : Nat} {T : TypeId} {W H : Int} {g n c : Nat} (h : w.heap[B]? = some (.cells #[.int .i64 W, .int .i64 H, .slice (some ⟨g, 0, none⟩) n c] T (0, 0))) : GridAt w B W H g n c :=
  ⟨by rw [cell_of_row w B 0 _ _ (0, 0) h]; rfl, by rw [cell_of_row w B 1 _ _ (0, 0) h]; rfl, by rw [cell_of_row w B 2 _ _ (0, 0) h]; rfl⟩
theorem lt_of_blk {w : World} {B : Nat} {o : Obj} (h : w.heap[B]? = some o) : B < w.heap.size := (Array.getElem?_eq_some_iff.1 h).1
theorem below_alloc {N : Nat} {W0 W1 : World} (h : Below N W0 W1) (hN : N ≤ W0.heap.size) (o : Obj) : Below N W0 (W1.alloc o) := h.alloc (Nat.le_trans hN h.size) o

end Go.Proofs.YthmaoeajbmfmaaaGreatDoor

/-
  Contracts of the reference's checks of telegrams, for every telegram.
-/
namespace Go.Proofs.YthmaoeajbmfmaaaGreatDoor
open Go.RowKit
set_option linter.unusedVariables false
set_option linter.unusedSimpArgs false

theorem rangeErr_or (n lo hi : Int) : (lo ≤ n ∧ n ≤ hi ∧ rangeErr n lo hi = 0) ∨ (¬ (lo ≤ n ∧ n ≤ hi) ∧ rangeErr n lo hi = 3) := by
  by_cases h : lo ≤ n ∧ n ≤ hi
  · exact .inl ⟨h.1, h.2, rangeErr_in h.1 h.2⟩
  · exact .inr ⟨h, rangeErr_out (by omega)⟩
theorem vectorErr_or (x y z : Int) : ((-1048576 ≤ x ∧ x ≤ 1048576) ∧ (-1048576 ≤ y ∧ y ≤ 1048576) ∧ (-1048576 ≤ z ∧ z ≤ 1048576) ∧ vectorErr x y z = 0) ∨
    (¬ ((-1048576 ≤ x ∧ x ≤ 1048576) ∧ (-1048576 ≤ y ∧ y ≤ 1048576) ∧ (-1048576 ≤ z ∧ z ≤ 1048576)) ∧ vectorErr x y z = 3) := by
  unfold vectorErr
  rcases rangeErr_or x (-1048576) 1048576 with ⟨a, b, h1⟩ | ⟨a, h1⟩ <;> rcases rangeErr_or y (-1048576) 1048576 with ⟨a2, b2, h2⟩ | ⟨a2, h2⟩ <;> rcases rangeErr_or z (-1048576) 1048576 with ⟨a3, b3, h3⟩ | ⟨a3, h3⟩ <;> rw [h1, h2, h3] <;> simp only [firstNZ]
  · exact .inl ⟨⟨a, b⟩, ⟨a2, b2⟩, ⟨a3, b3⟩, by simp⟩
  all_goals exact .inr ⟨by omega, by simp⟩
theorem telErr_first (s c o x y z : Int) : firstNZ [rangeErr s 0 255, rangeErr c 0 65535, rangeErr o 0 255, vectorErr x y z] = telErr s c o x y z := by
  by_cases h : GoodT s c o x y z
  · rw [telErr_good h]
    rw [rangeErr_in h.st.1 h.st.2, rangeErr_in h.ct.1 h.ct.2, rangeErr_in h.od.1 h.od.2]
    rcases vectorErr_or x y z with ⟨_, _, _, h4⟩ | ⟨hn, h4⟩
    · rw [h4]; simp [firstNZ]
    · exact absurd ⟨h.vx, h.vy, h.vz⟩ hn
  · rw [telErr_bad h]
    rcases rangeErr_or s 0 255 with ⟨a, b, h1⟩ | ⟨a, h1⟩ <;> rcases rangeErr_or c 0 65535 with ⟨a2, b2, h2⟩ | ⟨a2, h2⟩ <;> rcases rangeErr_or o 0 255 with ⟨a3, b3, h3⟩ | ⟨a3, h3⟩ <;> rcases vectorErr_or x y z with ⟨v1, v2, v3, h4⟩ | ⟨hn, h4⟩ <;> rw [h1, h2, h3, h4] <;> simp only [firstNZ] <;> first | (simp; done) | exact absurd ⟨⟨a, b⟩, ⟨a2, b2⟩, ⟨a3, b3⟩, v1, v2, v3⟩ h

set_option maxRecDepth 100000 in
set_option maxHeartbeats 6400000 in
theorem refCheckTelegram_all (s c o x y z : Int) (w : World) :
    Calls Tryz.prog 22 #[.agg #[.int .i64 s, .int .i64 c, .int .i64 o, .int .i64 x, .int .i64 y, .int .i64 z]] w fun e w' => e = .returned (.int .i64 (telErr s c o x y z)) ∧ Below w.heap.size w w' := by
  obtain ⟨W0, hW0⟩ : ∃ W0, w.alloc (.cells #[.int .i64 s, .int .i64 c, .int .i64 o, .int .i64 x, .int .i64 y, .int .i64 z] 43) = W0 := ⟨_, rfl⟩
  have HB0 : Hid (Below w.heap.size w W0) := Lib.hid (by rw [← hW0]; exact (Below.refl _ w).alloc (Nat.le_refl _) _)
  have hS0 : w.heap.size < W0.heap.size := by rw [← hW0]; simp
  have a0 : W0.cell? ⟨w.heap.size, 0, none⟩ = some (.int .i64 s) := by rw [← hW0]; simp [go_sem]
  have a1 : W0.cell? ⟨w.heap.size, 1, none⟩ = some (.int .i64 c) := by rw [← hW0]; simp [go_sem]
  have a2 : W0.cell? ⟨w.heap.size, 2, none⟩ = some (.int .i64 o) := by rw [← hW0]; simp [go_sem]
  have a3 : W0.cell? ⟨w.heap.size, 3, none⟩ = some (.int .i64 x) := by rw [← hW0]; simp [go_sem]
  have a4 : W0.cell? ⟨w.heap.size, 4, none⟩ = some (.int .i64 y) := by rw [← hW0]; simp [go_sem]
  have a5 : W0.cell? ⟨w.heap.size, 5, none⟩ = some (.int .i64 z) := by rw [← hW0]; simp [go_sem]
  have hR : Blw W0.heap.size W0 W0.drew := show Below _ _ _ from (Below.refl W0.heap.size W0).drew
  have KV : Hid (∀ w1 : World, Blw W0.heap.size W0 w1 → Calls Tryz.prog 83 #[.agg #[.int .i64 x, .int .i64 y, .int .i64 z]] w1 fun e w' => e = .returned (.int .i64 (vectorErr x y z)) ∧ Below W0.heap.size W0 w') :=
    Lib.hid fun w1 (h : Below W0.heap.size W0 w1) => (refCheckVector_all x y z w1).mono fun e w' ⟨he, hb⟩ => ⟨he, h.trans (hb.mono h.size)⟩
  have KF := Lib.hid (telErr_first s c o x y z)
  obtain ⟨r, hr⟩ : ∃ r, telErr s c o x y z = r := ⟨_, rfl⟩
  rw [hr] at KF ⊢
  clear hr
  go_enter Tryz.func22, Tryz.ntmps22
  go_upto_region 1 with fail
  try rw [hW0]
  clear hW0
  go_region_held3 (fun w' => w'.cell? ⟨w.heap.size, 0, none⟩ = some (.int .i64 s) ∧ w'.cell? ⟨w.heap.size, 1, none⟩ = some (.int .i64 c) ∧ w'.cell? ⟨w.heap.size, 2, none⟩ = some (.int .i64 o) ∧ w'.cell? ⟨w.heap.size, 3, none⟩ = some (.int .i64 x) ∧ w'.cell? ⟨w.heap.size, 4, none⟩ = some (.int .i64 y) ∧ w'.cell? ⟨w.heap.size, 5, none⟩ = some (.int .i64 z) ∧ Blw W0.heap.size W0 w')
    (first | (go_split_ands; refine ⟨?_, ?_, ?_, ?_, ?_, ?_, ?_⟩ <;> first | (with_reducible assumption) | exact hb2 | ((rw [hb2.cell (by show _ < W0.heap.size; omega)]; assumption))) | (go_split_ands; refine ⟨?_, ?_, ?_, ?_, ?_, ?_, ?_⟩ <;> first | ((rw [(hb2.alloc hb2.size _).cell (by show _ < W0.heap.size; omega)]; assumption)) | exact (hb2.alloc hb2.size _ : Below _ _ _)) | go_keep)
    (first
      | (go_at_call 82; refine (refCheckRange_any _ _ _ _).mono ?_; rintro e w2 ⟨rfl, rfl⟩)
      | (go_at_call 83; refine (KV.out _ (by assumption)).mono ?_; rintro e w2 ⟨rfl, hb2⟩)
      | ((go_at_call 81; refine (refFirst_any _ 0 4 4 [rangeErr s 0 255, rangeErr c 0 65535, rangeErr o 0 255, vectorErr x y z] rfl (by omega) _ ?_).mono ?_; rotate_left 1; rintro e w' ⟨rfl, rfl⟩; rw [KF.out]; rotate_left 1; (intro j hj; match j, hj with | 0, _ => simp [go_sem] | 1, _ => simp [go_sem] | 2, _ => simp [go_sem] | 3, _ => simp [go_sem]))))
  all_goals
    go_wp2_with fail
    go_ret
    exact ⟨rfl, HB0.out.trans ((hb2.alloc hb2.size _).mono HB0.out.size)⟩

/-- A slice, nil or not, of telegrams. -/
def AnyTels (w : World) (a : Option Addr) (n : Nat) (L : List Tel) : Prop := L.length = n ∧ ∀ j, j < n → ∃ b q, a = some ⟨b, q, none⟩ ∧ b < w.heap.size ∧ TelsAt w b q L
theorem AnyTels.kept {w w' : World} {a : Option Addr} {n : Nat} {L : List Tel} (h : AnyTels w a n L) (hb : Below w.heap.size w w') : AnyTels w' a n L :=
  ⟨h.1, fun j hj => by
    obtain ⟨b, q, e, h1, h2⟩ := h.2 j hj
    exact ⟨b, q, e, Nat.lt_of_lt_of_le h1 hb.size, h2.kept hb h1⟩⟩
noncomputable def Tel.err (t : Tel) : Int := telErr t.s t.c t.o t.x t.y t.z
/-- The first error of telegrams. -/
noncomputable def telsErr (L : List Tel) : Int := firstNZ (L.map Tel.err)
theorem Tel.err_or (t : Tel) : (t.err = 0 ∧ t.Good) ∨ t.err = 3 := by
  by_cases h : t.Good
  · exact .inl ⟨telErr_good h, h⟩
  · exact .inr (telErr_bad h)

end Go.Proofs.YthmaoeajbmfmaaaGreatDoor

/-
  Contracts of Decode for any 24 bytes, and of telegramAt at any place of any stream.
-/
namespace Go.Proofs.YthmaoeajbmfmaaaGreatDoor
open Go.RowKit
set_option linter.unusedVariables false
set_option linter.unusedSimpArgs false

def byteAt (F : List Int) (j : Nat) : Int := F[j]?.getD 0
/-- The telegram that bytes would be. -/
def telOf (F : List Int) : Tel := ⟨byteAt F 1, numOf [byteAt F 2, byteAt F 3], byteAt F 4, numOf [byteAt F 5, byteAt F 6, byteAt F 7, byteAt F 8] - 1048576, numOf [byteAt F 9, byteAt F 10, byteAt F 11, byteAt F 12] - 1048576, numOf [byteAt F 13, byteAt F 14, byteAt F 15, byteAt F 16] - 1048576⟩
def Tel.tail (t : Tel) : List Int := tail7 t.s t.c t.o t.x t.y t.z
def Tel.agg (t : Tel) : Value := .agg #[.int .i64 t.s, .int .i64 t.c, .int .i64 t.o, .int .i64 t.x, .int .i64 t.y, .int .i64 t.z]
noncomputable def decErr (F : List Int) : Int := if byteAt F 0 ≠ 77 then 1 else if F.drop 17 ≠ (telOf F).tail then 27 else (telOf F).err
noncomputable def decTel (F : List Int) : Tel := if decErr F = 0 then telOf F else tel0
def Bytes24 (F : List Int) : Prop := F.length = 24 ∧ ∀ v ∈ F, 0 ≤ v ∧ v ≤ 255
theorem list24 {F : List Int} (h : F.length = 24) : ∃ f0 f1 f2 f3 f4 f5 f6 f7 f8 f9 f10 f11 f12 f13 f14 f15 f16 R, F = f0 :: ([f1, f2, f3, f4, f5, f6, f7, f8, f9, f10, f11, f12, f13, f14, f15, f16] ++ R) ∧ R.length = 7 := by
  match F, h with
  | [f0, f1, f2, f3, f4, f5, f6, f7, f8, f9, f10, f11, f12, f13, f14, f15, f16, a, b, c, d, e, f, g], _ => exact ⟨f0, f1, f2, f3, f4, f5, f6, f7, f8, f9, f10, f11, f12, f13, f14, f15, f16, [a, b, c, d, e, f, g], rfl, rfl⟩
/-- Bytes that begin with the mark are those of their telegram. -/
theorem raw_telOf (F : List Int) (h : Bytes24 F) (h0 : byteAt F 0 = 77) :
    F = rawF (telOf F).s (telOf F).c (telOf F).o (telOf F).x (telOf F).y (telOf F).z (F.drop 17) ∧ (F.drop 17).length = 7 ∧ FitT (telOf F).s (telOf F).c (telOf F).o (telOf F).x (telOf F).y (telOf F).z := by
  obtain ⟨hl, hb⟩ := h
  obtain ⟨f0, f1, f2, f3, f4, f5, f6, f7, f8, f9, f10, f11, f12, f13, f14, f15, f16, R, rfl, hR⟩ := list24 hl
  obtain rfl : f0 = 77 := h0
  obtain ⟨e1, e2⟩ := raw_of f1 f2 f3 f4 f5 f6 f7 f8 f9 f10 f11 f12 f13 f14 f15 f16 R (fun v hv => hb v (by
    refine List.mem_cons_of_mem _ (List.mem_append_left _ hv)))
  refine ⟨?_, by simpa using hR, e2⟩
  exact e1

theorem decode_all (F : List Int) (h : Bytes24 F) (w : World) :
    Calls Tryz.prog 20 #[.agg (F.map (Value.int .u8)).toArray] w fun e w' => e = .returned (.tuple #[(decTel F).agg, .int .i64 (decErr F)]) ∧ Below w.heap.size w w' := by
  by_cases h0 : byteAt F 0 = 77
  · obtain ⟨e1, hR, hf⟩ := raw_telOf F h h0
    by_cases hT : F.drop 17 = (telOf F).tail
    · have hE : decErr F = (telOf F).err := by unfold decErr; rw [if_neg (by simp [h0]), if_neg (by simp [hT])]
      have eF : F = frame (telOf F).s (telOf F).c (telOf F).o (telOf F).x (telOf F).y (telOf F).z := by
        rw [frame_raw]
        have e2 : rawF (telOf F).s (telOf F).c (telOf F).o (telOf F).x (telOf F).y (telOf F).z (F.drop 17) = rawF (telOf F).s (telOf F).c (telOf F).o (telOf F).x (telOf F).y (telOf F).z (tail7 (telOf F).s (telOf F).c (telOf F).o (telOf F).x (telOf F).y (telOf F).z) := by rw [hT]; rfl
        exact e1.trans e2
      unfold decTel
      rw [hE]
      by_cases hg : (telOf F).Good
      · have e0 : (telOf F).err = 0 := telErr_good hg
        rw [e0, if_pos rfl]
        have hd := decode_any _ _ _ _ _ _ hg w
        rw [← eF] at hd
        exact hd
      · have e0 : (telOf F).err = 3 := telErr_bad hg
        rw [e0, if_neg (by decide)]
        have hd := decode_range _ _ _ _ _ _ hf hg w
        rw [← eF] at hd
        exact hd
    · have hE : decErr F = 27 := by unfold decErr; rw [if_neg (by simp [h0]), if_pos hT]
      unfold decTel
      rw [hE, if_neg (by decide)]
      have hd := decode_check _ _ _ _ _ _ (F.drop 17) hR hT hf w
      rw [← e1] at hd
      exact hd
  · have hE : decErr F = 1 := by unfold decErr; rw [if_pos h0]
    unfold decTel
    rw [hE, if_neg (by decide)]
    exact decode_form F h.1 h0 w

set_option maxRecDepth 100000 in
set_option maxHeartbeats 3200000 in
theorem telegramAt_end (a : Option Addr) (n cp k : Nat) (hk : k ≤ n) (hn : n ≤ 12288) (h : n < k + 24) (w : World) :
    Calls Tryz.prog 79 #[.slice a n cp, .int .i64 k] w fun e w' => e = .returned (.tuple #[tel0.agg, .bool false]) ∧ Below w.heap.size w w' := by
  have i1 : (n : Int) - (k : Int) < 24 := by omega
  have i2 : (n : Int) ≤ 12288 := by omega
  have i3 : (k : Int) ≤ (n : Int) := by omega
  have r2 : (w.alloc (.cells #[.int .i64 0, .int .i64 0, .int .i64 0, .int .i64 0, .int .i64 0, .int .i64 0] 48)).heap[w.heap.size]? = some (.cells #[.int .i64 0, .int .i64 0, .int .i64 0, .int .i64 0, .int .i64 0, .int .i64 0] 48 (0, 0)) := heap_alloc_new w _
  have HB : Hid (Below w.heap.size w (w.alloc (.cells #[.int .i64 0, .int .i64 0, .int .i64 0, .int .i64 0, .int .i64 0, .int .i64 0] 48))) := Lib.hid ((Below.refl _ w).alloc (Nat.le_refl _) _)
  obtain ⟨W1, hW1⟩ : ∃ W1, (w.alloc (.cells #[.int .i64 0, .int .i64 0, .int .i64 0, .int .i64 0, .int .i64 0, .int .i64 0] 48)) = W1 := ⟨_, rfl⟩
  rw [hW1] at r2 HB
  have R2 := Lib.hid r2
  clear r2
  go_enter Tryz.func79, Tryz.ntmps79
  go_upto_region 1 with fail
  try rw [hW1]
  clear hW1
  go_wp2_with (refine wpList_store_row rfl 48 (.tmp 4) (.tmp 14) rfl w.heap.size rfl _ rfl 48 _ R2.out ?i2 ?i3 ?i4 ?_)
  case i2 => rfl
  case i3 => kernel_rfl
  case i4 => first | exact ⟨rfl, rfl, rfl, rfl, rfl, rfl⟩ | exact rfl | simp
  go_wp2
  refine bodyPost_ret (results_row_tmp Tryz.results79 _ _ w.heap.size 48 _ (0, 0) _ rfl (setRow_heap W1 _ _ _ _ _ R2.out) Tryz.underlying48 rfl (by kernel_rfl)) rfl ⟨rfl, ?_⟩
  exact HB.out.trans ((OnlyBlk.setRow W1 w.heap.size _).below HB.out.size (by omega))

set_option maxRecDepth 100000 in
set_option maxHeartbeats 3200000 in
theorem telegramAt_raw (F : List Int) (hF : F.length = 24) (s c o x y z r : Int) (ok : Bool) (hok : (r == 0) = ok) (hK : ∀ w : World, Calls Tryz.prog 20 #[.agg (F.map (Value.int .u8)).toArray] w fun e w' => e = .returned (.tuple #[.agg #[.int .i64 s, .int .i64 c, .int .i64 o, .int .i64 x, .int .i64 y, .int .i64 z], .int .i64 r]) ∧ Below w.heap.size w w') (b q n cp : Nat) (k : Nat) (hk : k + 24 ≤ n) (hn : n ≤ 12288) (hcp : n ≤ cp) (hcq : cp ≤ 9223372036854775807) (w : World) (hb : b < w.heap.size)
    (hc : w.rangeAt b (q + k) ((F).map (Value.int .u8))) :
    Calls Tryz.prog 79 #[.slice (some ⟨b, q, none⟩) n cp, .int .i64 k] w fun e w' =>
      e = .returned (.tuple #[.agg #[.int .i64 s, .int .i64 c, .int .i64 o, .int .i64 x, .int .i64 y, .int .i64 z], .bool ok]) ∧ Below w.heap.size w w' := by
  have K1 := Lib.hid hK
  clear hK
  obtain ⟨V, hV⟩ : ∃ V, ((F).map (Value.int .u8)) = V := ⟨_, rfl⟩
  have V24 : V.length = 24 := by rw [← hV]; simp [hF]
  have V1 : ∀ v ∈ V, v.oneCell' = true := by
    rw [← hV]; intro v hv
    obtain ⟨u, _, rfl⟩ := List.mem_map.1 hv
    rfl
  rw [hV] at K1 hc
  have HC := Lib.hid hc
  clear hV hc
  have i1 : ((k : Int) + 24 ≤ (n : Int)) := by omega
  have i2 : ((n : Int) ≤ (cp : Int)) := by omega
  have i3 : ((n : Int) ≤ 12288) := by omega
  have i4 : ((k : Int) ≤ (n : Int)) := by omega
  have i5 : k ≤ n := by omega
  have i6 : (0 : Int) ≤ (k : Int) := by omega
  have i7 : ((k : Int) ≤ (cp : Int)) := by omega
  go_enter Tryz.func79, Tryz.ntmps79
  go_wp2_with fail
  obtain ⟨W2, hW2⟩ : ∃ W2, ((w.alloc (.cells #[.int .i64 0, .int .i64 0, .int .i64 0, .int .i64 0, .int .i64 0, .int .i64 0] 48)).alloc (.cells ((List.replicate 24 (Value.int .u8 0)).toArray) 44)) = W2 := ⟨_, rfl⟩
  have z2 : W2.heap.size = w.heap.size + 2 := by rw [← hW2]; simp
  have hB2 : Below w.heap.size w W2 := by rw [← hW2]; exact (((Below.refl _ w).alloc (Nat.le_refl _) _).alloc (by simp) _)
  have r0 : W2.heap[w.heap.size]? = some (.cells #[.int .i64 0, .int .i64 0, .int .i64 0, .int .i64 0, .int .i64 0, .int .i64 0] 48 (0, 0)) := by
    rw [← hW2, Below.heap_alloc _ _ _ (by simp)]
    exact heap_alloc_new w _
  have r1 : W2.heap[w.heap.size + 1]? = some (.cells ((List.replicate 24 (Value.int .u8 0)).toArray) 44 (0, 0)) := by
    rw [← hW2]
    exact heap_alloc2_new w _ _
  simp only [List.replicate] at hW2
  rw [hW2]
  clear hW2
  obtain ⟨W3, hW3⟩ : ∃ W3, W2.drew = W3 := ⟨_, rfl⟩
  have hcp' : (Builtin.copy_ #[45, 45] 3 #[.slice (some ⟨w.heap.size + 1, 0, none⟩) 24 24, .slice (some ⟨b, q + k, none⟩) (n - k) (cp - k)]).run Tryz.prog W2.drew = .ok (goInt 24) (W2.drew.setRow (w.heap.size + 1) V.toArray) := by
    have e := run_copy_row (P := Tryz.prog) W2.drew 45 45 3 5 (w.heap.size + 1) 0 24 24 ⟨b, q + k, none⟩ (n - k) (cp - k) _ 44 V Tryz.underlying45 (by kernel_rfl) (show W2.drew.heap[w.heap.size + 1]? = _ from r1)
      (by rw [V24]; show 24 = Nat.min (n - k) 24; simp only [Nat.min_def]; split <;> omega)
      (fun j v hv => by rw [Addr.add_mid]; exact (hB2.cell (w' := W2) hb).trans (HC.out j v hv)) (by simp [V24]) V1
    rw [V24] at e
    simpa [V24] using e
  refine wp_region_still_tail 4 (by kernel_rfl) (by kernel_rfl) ?_
  simp only [List.take_succ_cons, List.take_zero, List.drop_succ_cons, List.drop_zero]
  change wpStill _ _ W2.drew (fun a' => wpList _ _ _ _ a' W2.drew) _ _
  rw [hW3] at hcp' ⊢
  have HW3 := Lib.hid hW3
  have R0 := Lib.hid r0
  have R1 := Lib.hid r1
  have HB2 := Lib.hid hB2
  clear hW3 r0 r1 hB2
  repeat still_step
  refine wpStill_nil ?_
  have R3 := Lib.hid (setRow_heap W3 (w.heap.size + 1) _ V.toArray _ _ (by rw [← HW3.out]; exact R1.out : W3.heap[w.heap.size + 1]? = _))
  have Q3 : Hid ((W3.setRow (w.heap.size + 1) V.toArray).heap[w.heap.size]? = some (.cells #[.int .i64 0, .int .i64 0, .int .i64 0, .int .i64 0, .int .i64 0, .int .i64 0] 48 (0, 0))) := Lib.hid (by
    rw [setRow_other W3 _ _ _ (by omega), ← HW3.out]; exact R0.out)
  have HB3 : Hid (Below w.heap.size w (W3.setRow (w.heap.size + 1) V.toArray)) := Lib.hid (by
    have e : Below w.heap.size w W3 := by rw [← HW3.out]; exact HB2.out.drew
    exact e.trans ((OnlyBlk.setRow W3 (w.heap.size + 1) _).below e.size (by omega)))
  have Z3 : w.heap.size + 2 ≤ (W3.setRow (w.heap.size + 1) V.toArray).heap.size := by rw [← HW3.out]; simp [z2]
  have hi36 : (Tryz.prog.info? 44).map (·.size) = some V.toArray.size := by rw [size24]; simp [V24]
  obtain ⟨W4, hW4⟩ : ∃ W4, W3.setRow (w.heap.size + 1) V.toArray = W4 := ⟨_, rfl⟩
  rw [hW4] at hcp' R3 Q3 HB3 Z3
  clear hW4 z2
  go_wp2_with (first
    | (refine wpList_load_row rfl 44 (.tmp 6) rfl (w.heap.size + 1) rfl 44 _ (0, 0) _ R3.out Tryz.underlying44 rfl hi36 ?_)
    | (refine wpList_store_row rfl 48 (.tmp 4) (.tmp 25) rfl w.heap.size rfl _ rfl 48 _ Q4.out ?i2 ?i3 ?i4 ?_)
    | ((go_at_call 20; refine (K1.out _).mono ?_; rintro e w4 ⟨rfl, hb4⟩
        have hs4 := hb4.size
        have Q4 : Hid ((w4.alloc (.cells #[.int .i64 s, .int .i64 c, .int .i64 o, .int .i64 x, .int .i64 y, .int .i64 z] 48)).heap[w.heap.size]? = some (.cells #[.int .i64 0, .int .i64 0, .int .i64 0, .int .i64 0, .int .i64 0, .int .i64 0] 48 (0, 0))) := Lib.hid (by
          rw [Below.heap_alloc _ _ _ (by omega), hb4.block _ (by omega)]; exact Q3.out)
        have HB4 := Lib.hid ((HB3.out.trans (hb4.mono (by omega))).alloc (by omega) (.cells #[.int .i64 s, .int .i64 c, .int .i64 o, .int .i64 x, .int .i64 y, .int .i64 z] 48))
        clear hb4)))
  case i2 => rfl
  case i3 => kernel_rfl
  case i4 => exact ⟨rfl, rfl, rfl, rfl, rfl, rfl⟩
  go_wp2
  refine bodyPost_ret (results_row_tmp Tryz.results79 _ _ w.heap.size 48 _ (0, 0) _ rfl (setRow_heap _ _ _ _ _ _ Q4.out) Tryz.underlying48 rfl (by kernel_rfl)) rfl ⟨rfl, ?_⟩
  exact HB4.out.trans ((OnlyBlk.setRow _ w.heap.size _).below HB4.out.size (by omega))

def streamAt (S : List Int) (k : Nat) : List Int := (S.drop k).take 24
noncomputable def okAt (S : List Int) (n k : Nat) : Bool := if k + 24 ≤ n then (decErr (streamAt S k) == 0) else false
noncomputable def telAt (S : List Int) (n k : Nat) : Tel := if k + 24 ≤ n then decTel (streamAt S k) else tel0
def BytesV (S : List Int) (n : Nat) : Prop := S.length = n ∧ ∀ v ∈ S, 0 ≤ v ∧ v ≤ 255
theorem streamAt_bytes {S : List Int} {n k : Nat} (h : BytesV S n) (hk : k + 24 ≤ n) : Bytes24 (streamAt S k) := by
  refine ⟨by unfold streamAt; rw [List.length_take, List.length_drop, h.1]; omega, fun v hv => h.2 v (List.mem_of_mem_drop (List.mem_of_mem_take hv))⟩

theorem telegramAt_all (S : List Int) (b q n cp k : Nat) (hS : BytesV S n) (hk : k ≤ n) (hn : n ≤ 12288) (hcp : n ≤ cp) (hcq : cp ≤ 9223372036854775807) (w : World) (hb : b < w.heap.size) (hc : w.rangeAt b q (S.map (Value.int .u8))) :
    Calls Tryz.prog 79 #[.slice (some ⟨b, q, none⟩) n cp, .int .i64 k] w fun e w' => e = .returned (.tuple #[(telAt S n k).agg, .bool (okAt S n k)]) ∧ Below w.heap.size w w' := by
  by_cases h : k + 24 ≤ n
  · have hF := streamAt_bytes hS h
    unfold telAt okAt
    rw [if_pos h, if_pos h]
    refine telegramAt_raw (streamAt S k) hF.1 _ _ _ _ _ _ (decErr (streamAt S k)) _ rfl (fun w => decode_all _ hF w) b q n cp k h hn hcp hcq w hb ?_
    intro j v hv
    have hj : j < 24 := by
      have := (List.getElem?_eq_some_iff.1 hv).1
      rw [List.length_map, hF.1] at this
      exact this
    have h2 := hc (k + j) v (by
      rw [← hv, List.getElem?_map, List.getElem?_map]
      unfold streamAt
      rw [List.getElem?_take_of_lt hj, List.getElem?_drop])
    rw [show q + k + j = q + (k + j) by omega]
    exact h2
  · unfold telAt okAt
    rw [if_neg h, if_neg h]
    exact telegramAt_end _ n cp k hk hn (by omega) w
end Go.Proofs.YthmaoeajbmfmaaaGreatDoor

/-
  Contracts of the reference's Checksum, Number and Bytes.
-/
namespace Go.Proofs.YthmaoeajbmfmaaaGreatDoor
open Go.RowKit
set_option linter.unusedVariables false
set_option linter.unusedSimpArgs false

set_option maxHeartbeats 1600000 in
theorem refChecksum_any (f o n c : Nat) (l : List Int) (w : World) (hl : l.length = n) (hm : n ≤ 100000) (hbd : ∀ j, j < n → 0 ≤ l[j]?.getD 0 ∧ l[j]?.getD 0 ≤ 255)
    (hc : ∀ j, j < n → w.cell? ⟨f, o + j, none⟩ = some (.int .u8 (l[j]?.getD 0))) :
    Calls Tryz.prog 86 #[.slice (some ⟨f, o, none⟩) n c] w fun e w' => e = .returned (.int .i64 (chkOf l)) ∧ w = w' := by
  have Hl := Lib.hid hl
  have Hc := Lib.hid hc
  have Hb := Lib.hid hbd
  clear hl hc hbd
  go_enter Tryz.func86, Tryz.ntmps86
  go_wp2
  go_loop [3, 4] (fun x i => ∃ k : Nat, k ≤ n ∧ i = .int .i64 k ∧ x = .int .i64 (chkOf (l.take k))) (fun _ i => n - (intOf i).toNat)
  case atStart => exact ⟨0, Nat.zero_le _, rfl, rfl⟩
  case round =>
    obtain ⟨k, hk, rfl, rfl⟩ := hrel
    have hx := chk_bd (l.take k)
    by_cases hlt : k < n
    · have hcell := Hc.out k hlt
      have hb := Hb.out k hlt
      have HS : Hid (chkOf (l.take (k + 1)) = (277 * chkOf (l.take k) + l[k]?.getD 0) % 16777199) := foldl_take_succ _ _ _ _ (by have := Hl.out; omega) 0
      go_wp2
      go_round
      case rel => exact ⟨k + 1, by omega, by go_num, by rw [HS.out]⟩
      case measure => simp [intOf]; omega
    · go_wp2
      go_ret
      exact ⟨ret_int (by rw [List.take_of_length_le (by have := Hl.out; omega)]), rfl⟩

set_option maxHeartbeats 1600000 in
theorem refNumber_any (f o n c : Nat) (l : List Int) (w : World) (hl : l.length = n) (hm : n ≤ 4) (hbd : ∀ j, j < n → 0 ≤ l[j]?.getD 0 ∧ l[j]?.getD 0 ≤ 255)
    (hc : ∀ j, j < n → w.cell? ⟨f, o + j, none⟩ = some (.int .u8 (l[j]?.getD 0))) :
    Calls Tryz.prog 87 #[.slice (some ⟨f, o, none⟩) n c] w fun e w' => e = .returned (.int .i64 (numOf l)) ∧ w = w' := by
  have Hl := Lib.hid hl
  have Hc := Lib.hid hc
  have Hb := Lib.hid hbd
  clear hl hc hbd
  go_enter Tryz.func87, Tryz.ntmps87
  go_wp2
  go_loop [3, 4] (fun x i => ∃ k : Nat, k ≤ n ∧ i = .int .i64 k ∧ x = .int .i64 (numOf (l.take k)) ∧ 0 ≤ numOf (l.take k) ∧ numOf (l.take k) < lim k) (fun _ i => n - (intOf i).toNat)
  case atStart => exact ⟨0, Nat.zero_le _, rfl, rfl, by simp [numOf], by simp [numOf, lim]⟩
  case round =>
    obtain ⟨k, hk, rfl, rfl, hx0, hx1⟩ := hrel
    by_cases hlt : k < n
    · have hcell := Hc.out k hlt
      have hb := Hb.out k hlt
      have HS : Hid (numOf (l.take (k + 1)) = numOf (l.take k) * 256 + l[k]?.getD 0) := foldl_take_succ _ _ _ _ (by have := Hl.out; omega) 0
      have hL := lim_succ k (by omega)
      have hx2 : numOf (l.take k) ≤ 4294967295 := by omega
      have H1 := Lib.hid hx1
      have HL := Lib.hid hL
      clear hx1 hL
      go_wp2
      go_round
      case rel => exact ⟨k + 1, by omega, by go_num, by rw [HS.out, Int.mul_comm], by rw [HS.out]; omega, by rw [HS.out, HL.out.1]; have := H1.out; omega⟩
      case measure => simp [intOf]; omega
    · go_wp2
      go_ret
      exact ⟨ret_int (by rw [List.take_of_length_le (by have := Hl.out; omega)]), rfl⟩

/-- The first so many of a number's bytes, the highest one first. -/
def bytesL (v : Int) (m k : Nat) : List Int := (List.range k).map (fun j => byt v (m - 1 - j))
theorem bytesL_succ (v : Int) (m k : Nat) : (bytesL v m (k + 1)).map (Value.int .u8) = (bytesL v m k).map (Value.int .u8) ++ [.int .u8 (byt v (m - 1 - k))] := by
  simp [bytesL, List.range_succ]
theorem bytesL_4 (v : Int) : bytesL v 4 4 = [byt v 3, byt v 2, byt v 1, byt v 0] := rfl
theorem bytesL_2 (v : Int) : bytesL v 2 2 = [byt v 1, byt v 0] := rfl
theorem pow_div (v : Int) (j : Nat) : v / 256 ^ j / 256 = v / 256 ^ (j + 1) := by
  rw [Int.pow_succ, Int.ediv_ediv_of_nonneg (Int.pow_nonneg (by decide))]
theorem pow_div_bd (v : Int) (j : Nat) (h0 : 0 ≤ v) (h1 : v ≤ 4294967295) : 0 ≤ v / 256 ^ j ∧ v / 256 ^ j ≤ 4294967295 := by
  have h : (0 : Int) < 256 ^ j := Int.pow_pos (by decide)
  exact ⟨Int.ediv_nonneg h0 (by omega), Int.le_trans (Int.ediv_le_self _ h0) h1⟩
theorem Tryz.infoByteH : (Tryz.prog.info? 5).map (fun i => (i.zero, i.size, i.bytes)) = some (some (.int .u8 0), 1, 1) := by kernel_rfl

set_option maxRecDepth 100000 in
set_option maxHeartbeats 3200000 in
theorem refBytes_any (v : Int) (m : Nat) (h0 : 0 ≤ v) (h1 : v ≤ 4294967295) (hm : m ≤ 4) (w : World) :
    Calls Tryz.prog 84 #[.int .i64 v, .int .i64 m] w fun e w' => ∃ u, e = .returned u ∧ w'.ownsRow w.heap.size 5 1 u m ((bytesL v m m).map (Value.int .u8)) ∧ Below w.heap.size w w' := by
  obtain ⟨i0, hi, hz0, hz1, hz2⟩ := info_parts Tryz.infoByteH
  have i1 : (m : Int) ≤ 4 := by omega
  go_enter Tryz.func84, Tryz.ntmps84
  go_wp2
  go_loopw [5, 6] (fun out i wr => ∃ k : Nat, k ≤ m ∧ i = .int .i64 ((m : Int) - 1 - (k : Int)) ∧ wr.ownsRow w.heap.size 5 1 out k ((bytesL v m k).map (Value.int .u8)) ∧ Below w.heap.size w wr)
    (fun _ i _ => (intOf i + 1).toNat)
  case atStart => exact ⟨0, Nat.zero_le _, by simp, World.ownsRow_nil _ _ _ _, Below.refl _ _⟩
  case round =>
    obtain ⟨k, hk, rfl, hown, hnx⟩ := hrel
    have hsz : w.heap.size ≤ wr.heap.size := hnx.size
    by_cases hlt : k < m
    · obtain ⟨d, hd⟩ : ∃ d : Nat, m - 1 - k = d := ⟨_, rfl⟩
      have ed : (m : Int) - 1 - (k : Int) = (d : Int) := by omega
      have ed2 : (m : Int) - 1 - ((k + 1 : Nat) : Int) = (d : Int) - 1 := by omega
      have hS := bytesL_succ v m k
      rw [hd] at hS
      rw [ed]
      have HS := Lib.hid hS
      have HD2 := Lib.hid ed2
      have hd4 : (d : Int) ≤ 4 := by omega
      have hd0 : (0 : Int) ≤ (d : Int) := by omega
      clear hd ed ed2 hS
      go_wp2_with fail
      go_loop [7, 8] (fun x y => ∃ j : Nat, j ≤ d ∧ x = .int .i64 (v / 256 ^ j) ∧ y = .int .i64 j) (fun _ y => d - (intOf y).toNat)
      case atStart => exact ⟨0, Nat.zero_le _, by simp, rfl⟩
      case round =>
        obtain ⟨j, hj, rfl, rfl⟩ := hrel
        have hb := pow_div_bd v j h0 h1
        have HP := Lib.hid (pow_div v j)
        by_cases hjl : j < d
        · have h4 : (j : Int) < (d : Int) := by omega
          obtain ⟨x, hx⟩ : ∃ x, v / 256 ^ j = x := ⟨_, rfl⟩
          rw [hx] at hb HP ⊢
          clear hx
          go_wp2_with fail
          go_round
          case rel => exact ⟨j + 1, by omega, by rw [HP.out], by go_num⟩
          case measure => first | (simp [intOf]; done) | (simp [intOf]; omega)
        · obtain rfl : j = d := by omega
          have h4 : ¬ ((j : Int) < (j : Int)) := by omega
          have hbb := byt_bd v j
          have hby : v / 256 ^ j % 256 = byt v j := rfl
          obtain ⟨x, hx⟩ : ∃ x, v / 256 ^ j = x := ⟨_, rfl⟩
          rw [hx] at hb hby ⊢
          obtain ⟨y, hy⟩ : ∃ y, byt v j = y := ⟨_, rfl⟩
          rw [hy] at hby hbb HS
          have hm4 : x % 256 = y := hby
          clear hx hy HP hby
          go_wp2_with (at_builtin; refine wpList_append_own _ rfl (.tmp 23) (.tmp 27) 45 rfl w.heap.size 5 i0 (.int .u8 0) 1 1 Tryz.underlying45 hi hz0 hz1 hz2 rfl (by decide) _ k _ rfl (hown.alloc _) ⟨wr.heap.size, 0, none⟩ 1 1 [.int .u8 y] rfl rfl (cell_one_new _ _ _) (by intro u hu; simp at hu; subst hu; rfl) (by unfold maxLen; omega) (by omega) (by simp; omega) ?_; intro v' w3 hown3 hgrow3 _)
          have hlt' := hown.lt
          go_roundw
          case rel => exact ⟨k + 1, by omega, by rw [HD2.out], by rw [HS.out]; exact hown3, (hnx.alloc hsz _).grown hgrow3 (by simp; omega) (fun q hq => (hlt' q hq).1)⟩
          case measure => simp [intOf]
    · obtain rfl : k = m := by omega
      have i2 : ¬ (0 ≤ (k : Int) - 1 - (k : Int)) := by omega
      have HO := Lib.hid hown
      have HX := Lib.hid hnx
      clear hown hnx
      go_wp2
      go_ret
      exact ⟨_, rfl, HO.out, HX.out⟩
end Go.Proofs.YthmaoeajbmfmaaaGreatDoor
