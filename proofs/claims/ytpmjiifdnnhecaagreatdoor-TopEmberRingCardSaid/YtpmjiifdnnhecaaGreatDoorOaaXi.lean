/-
  Contracts of Turned's literal and of Turned for a right map: the map that is turned to the right.
-/
import Derived.Test.YtpmjiifdnnhecaaGreatDoorOaaXf
import Derived.Test.YtpmjiifdnnhecaaGreatDoorOaaXe
import Derived.Test.YtpmjiifdnnhecaaGreatDoorOaaXg
import Derived.Test.YtpmjiifdnnhecaaGreatDoorOaaWh
import Derived.Test.YtpmjiifdnnhecaaGreatDoorOaaWk
import Derived.Test.YtpmjiifdnnhecaaGreatDoorOaaMb
import Derived.OrdersHeld
import Derived.OrdersIn
import Derived.AtR
namespace Go.Proofs.YtpmjiifdnnhecaaGreatDoor
open Go.RowKit
set_option linter.unusedVariables false

set_option maxRecDepth 100000 in
set_option maxHeartbeats 3200000 in
theorem turned1_any (W H X Y : Nat) (g n c g7 : Nat) (v : Int) (hW : W ≤ 64) (hH : H ≤ 64) (hX : X < H) (hY : Y < W) (w : World)
    (hn : (H - 1 - X) * W + Y < n) (g7l : g7 < w.heap.size) (gl : g < w.heap.size) (hA : GridAt w g7 W H g n c)
    (hc : w.cell? ⟨g, (H - 1 - X) * W + Y, none⟩ = some (.int .i64 v)) :
    Calls Tryz.prog 144 #[.agg #[.int .i64 X, .int .i64 Y], .pointer (some ⟨g7, 0, none⟩)] w fun e w' => e = .returned (.int .i64 v) ∧ Below w.heap.size w w' := by
  obtain ⟨a0, a1, a2⟩ := hA
  have m1 : (H - 1 - X) * W ≤ 64 * 64 := Nat.mul_le_mul (by omega) hW
  have eZ : ((H : Int) - 1 - (X : Int)) = ((H - 1 - X : Nat) : Int) := by omega
  have e2 : ((H : Int) - 1 - (X : Int)) * (W : Int) = (((H - 1 - X) * W : Nat) : Int) := by rw [eZ]; push_cast; rfl
  have e1 : (((H : Int) - 1 - (X : Int)) * (W : Int) + (Y : Int)).toNat = (H - 1 - X) * W + Y := by rw [e2]; omega
  have K : ∀ w1 : World, Below w.heap.size w w1 → Calls Tryz.prog 142 #[.agg #[.int .i64 W, .int .i64 H, .slice (some ⟨g, 0, none⟩) n c], .agg #[.int .i64 Y, .int .i64 ((H : Int) - 1 - (X : Int))]] w1 fun e w' => e = .returned (.int .i64 v) ∧ Below w1.heap.size w1 w' := fun w1 h => by
    have hs := h.size
    exact at_any W H Y ((H : Int) - 1 - (X : Int)) g n c v (by omega) (by omega) (by omega) (by rw [e2]; omega) w1 (by rw [e2]; omega) (by omega) (by rw [e1]; exact (h.cell (p := ⟨g, _, none⟩) gl).trans hc)
  have HK := Lib.hid K
  have n0 := World.new_ne w _ a0
  have i1 : (H : Int) ≤ 64 := by omega
  have i2 : (X : Int) < (H : Int) := by omega
  clear K e1 e2 eZ hc
  go_enter Tryz.func144, Tryz.ntmps144
  go_wp2_with (go_at_call 142; refine (HK.out _ ((Below.refl _ w).alloc (Nat.le_refl _) _)).mono ?_; rintro e w' ⟨rfl, hb1⟩)
  go_ret
  exact ⟨rfl, ((Below.refl _ w).alloc (Nat.le_refl _) _).trans (hb1.mono (by simp))⟩

set_option maxRecDepth 100000 in
set_option maxHeartbeats 3200000 in
theorem turned_any (W H : Nat) (b o n c : Nat) (xs : List Nat) (ks : List Int) (w : World) (hA : RightMap w W H b o n xs ks) (hb : b < w.heap.size) :
    Calls Tryz.prog 66 #[.agg #[.int .i64 W, .int .i64 H, .slice (some ⟨b, o, none⟩) n c]] w fun e w' =>
      ∃ g, e = .returned (.tuple #[.agg #[.int .i64 H, .int .i64 W, .slice (some ⟨g, 0, none⟩) n n], .int .i64 0]) ∧ g < w'.heap.size ∧
        (∀ j, j < n → w'.cell? ⟨g, j, none⟩ = some (.float .f32 (smpOf (ks[(H - 1 - j % H) * W + j / H]?.getD 0)))) ∧ Below w.heap.size w w' := by
  obtain ⟨W0, hW0⟩ : ∃ W0, (w.alloc (.cells #[.int .i64 W, .int .i64 H, .slice (some ⟨b, o, none⟩) n c] 121)).alloc (.cells #[.int .i64 0, .int .i64 0, .slice none 0 0] 121) = W0 := ⟨_, rfl⟩
  have hB0 : Below w.heap.size w W0 := by rw [← hW0]; exact ((Below.refl _ w).alloc (Nat.le_refl _) _).alloc (by simp) _
  have hS0 : W0.heap.size = w.heap.size + 2 := by rw [← hW0]; simp
  have a0 : W0.cell? ⟨w.heap.size, 0, none⟩ = some (.int .i64 W) := by rw [← hW0]; simp [go_sem]
  have a1 : W0.cell? ⟨w.heap.size, 1, none⟩ = some (.int .i64 H) := by rw [← hW0]; simp [go_sem]
  have a2 : W0.cell? ⟨w.heap.size, 2, none⟩ = some (.slice (some ⟨b, o, none⟩) n c) := by rw [← hW0]; simp [go_sem]
  have z0 : W0.cell? ⟨w.heap.size + 1, 0, none⟩ = some (.int .i64 0) := by rw [← hW0]; simp [go_sem]
  have z1 : W0.cell? ⟨w.heap.size + 1, 1, none⟩ = some (.int .i64 0) := by rw [← hW0]; simp [go_sem]
  have z2 : W0.cell? ⟨w.heap.size + 1, 2, none⟩ = some (.slice none 0 0) := by rw [← hW0]; simp [go_sem]
  have zf : ∀ j, W0.frozen? ⟨w.heap.size + 1, j, none⟩ = false := fun j => by rw [← hW0]; simp [go_sem]
  have K1 := Lib.hid (checkMap_any W H b o n c xs ks W0 (hA.below hB0 hb) (by omega))
  have K2 : Hid (∀ w1 : World, Below W0.heap.size W0 w1 → Calls Tryz.prog 135 #[.agg #[.int .i64 W, .int .i64 H, .slice (some ⟨b, o, none⟩) n c]] w1 fun e w' =>
      ∃ g, e = .returned (.agg #[.int .i64 W, .int .i64 H, .slice (some ⟨g, 0, none⟩) n n]) ∧ w1.heap.size ≤ g ∧ RowAt w' g n ks ∧ Below w1.heap.size w1 w') := Lib.hid (fun w1 h => by
    have h1 := h.size
    have h2 := hB0.trans (h.mono (by omega))
    exact grid_row W H b o n c xs ks w1 (hA.below h2 hb).toWords (by omega))
  have HB0 := Lib.hid hB0
  have HS0 := Lib.hid hS0
  have HRA := Lib.hid hA
  clear hA hB0
  go_enter Tryz.func66, Tryz.ntmps66
  go_wp2_with (first
    | ((go_at_call 134; refine K1.out.mono ?_; rintro e w1 ⟨rfl, hb1⟩
        have hs1 := hb1.size
        have a0' := (hb1.cell (p := ⟨w.heap.size, 0, none⟩) (by show w.heap.size < _; omega)).trans a0
        have a1' := (hb1.cell (p := ⟨w.heap.size, 1, none⟩) (by show w.heap.size < _; omega)).trans a1
        have a2' := (hb1.cell (p := ⟨w.heap.size, 2, none⟩) (by show w.heap.size < _; omega)).trans a2
        have K3 := Lib.hid (K2.out w1 hb1)))
    | ((go_at_call 135; refine K3.out.mono ?_; rintro e w2 ⟨ga, rfl, hga, hRA, hb2⟩
        have hs2 := hb2.size
        have hRA2 := hRA.below ((Below.refl _ w2).alloc (Nat.le_refl _) (.cells #[.int .i64 W, .int .i64 H, .slice (some ⟨ga, 0, none⟩) n n] 225)) hRA.lt
        obtain ⟨W3, hW3⟩ : ∃ W3, w2.alloc (.cells #[.int .i64 W, .int .i64 H, .slice (some ⟨ga, 0, none⟩) n n] 225) = W3 := ⟨_, rfl⟩
        have hS3 : W3.heap.size = w2.heap.size + 1 := by rw [← hW3]; simp
        have hB3 : Below W0.heap.size W0 W3 := by rw [← hW3]; exact (hb1.trans (hb2.mono hs1)).alloc (by omega) _
        have hG3 : GridAt W3 w2.heap.size W H ga n n := by rw [← hW3]; exact ⟨by simp [go_sem], by simp [go_sem], by simp [go_sem]⟩
        rw [hW3] at hRA2
        have z0' := (hB3.cell (p := ⟨w.heap.size + 1, 0, none⟩) (by show w.heap.size + 1 < _; omega)).trans z0
        have z1' := (hB3.cell (p := ⟨w.heap.size + 1, 1, none⟩) (by show w.heap.size + 1 < _; omega)).trans z1
        have z2' := (hB3.cell (p := ⟨w.heap.size + 1, 2, none⟩) (by show w.heap.size + 1 < _; omega)).trans z2
        have zf' : ∀ j, W3.frozen? ⟨w.heap.size + 1, j, none⟩ = false := fun j => (hB3.frozen (p := ⟨w.heap.size + 1, j, none⟩) (by show w.heap.size + 1 < _; omega)).trans (zf j)
        have hN : W * H = n := by have := HRA.out.area; exact_mod_cast this
        have KP := Lib.hid (callsIn_wide.1 (painted_turned H W (by have := HRA.out.hei; omega) (by have := HRA.out.wid; omega) w2.heap.size W3 (fun p => ks[(H - 1 - p.1) * W + p.2]?.getD 0) (fun p => by
            by_cases hj : (H - 1 - p.1) * W + p.2 < n
            · exact HRA.out.sizes _ hj
            · rw [List.getElem?_eq_none (by rw [HRA.out.lenk]; omega)]; simp) (fun p W1 hp h1 => by
          have hlt : (H - 1 - p.1) * W + p.2 < n := idx_lt (p := (p.2, H - 1 - p.1)) hp.2 (by omega) hN
          have hW := HRA.out.wid
          have hH := HRA.out.hei
          have hsz := h1.size
          have hR1 := hRA2.below h1 hRA2.lt
          exact turned1_any W H p.1 p.2 ga n n w2.heap.size _ (by omega) (by omega) hp.1 hp.2 W1 hlt (by omega) hR1.lt (hG3.below h1 (by omega)) (hR1.cells _ hlt))))
        have gg0 := hG3.c0
        have gg1 := hG3.c1
        have HZ := Lib.hid zf'
        have HB3 := Lib.hid hB3
        have HN := Lib.hid hN
        clear hRA hRA2 a0 a1 a2 a0' a1' a2' z0 z1 z2 zf zf' hB3 hN hb1 hb2 hG3))
    | ((go_at_call 138; refine KP.out.mono ?_; rintro e w5 ⟨g, rfl, hown5, hb5⟩
        have s0 : w5.cell? ⟨w.heap.size + 1, 0, none⟩ = some (.int .i64 0) := (hb5.cell (p := ⟨w.heap.size + 1, 0, none⟩) (by show w.heap.size + 1 < _; omega)).trans z0'
        have s1 : w5.cell? ⟨w.heap.size + 1, 1, none⟩ = some (.int .i64 0) := (hb5.cell (p := ⟨w.heap.size + 1, 1, none⟩) (by show w.heap.size + 1 < _; omega)).trans z1'
        have s2 : w5.cell? ⟨w.heap.size + 1, 2, none⟩ = some (.slice none 0 0) := (hb5.cell (p := ⟨w.heap.size + 1, 2, none⟩) (by show w.heap.size + 1 < _; omega)).trans z2'
        have f0 : w5.frozen? ⟨w.heap.size + 1, 0, none⟩ = false := (hb5.frozen (p := ⟨w.heap.size + 1, 0, none⟩) (by show w.heap.size + 1 < _; omega)).trans (HZ.out 0)
        have f1 : w5.frozen? ⟨w.heap.size + 1, 1, none⟩ = false := (hb5.frozen (p := ⟨w.heap.size + 1, 1, none⟩) (by show w.heap.size + 1 < _; omega)).trans (HZ.out 1)
        have f2 : w5.frozen? ⟨w.heap.size + 1, 2, none⟩ = false := (hb5.frozen (p := ⟨w.heap.size + 1, 2, none⟩) (by show w.heap.size + 1 < _; omega)).trans (HZ.out 2))))
  have hN := HN.out
  have hsz5 := hb5.size
  have hg5 : W3.heap.size ≤ g ∧ g < w5.heap.size := hown5.lt g rfl
  rw [Nat.mul_comm H W, hN] at hown5
  refine bodyPost_ret (v := .tuple #[.agg #[.int .i64 H, .int .i64 W, .slice (some ⟨g, 0, none⟩) n n], .int .i64 0]) (by simp [results, Tryz.results66, go_sem, s0, s1, s2, Nat.mul_comm H W, hN]) rfl ⟨g, rfl, ?_, ?_, ?_⟩
  · simp; omega
  · intro j hj
    refine owns_cell (ownsRow_setCell_below (ownsRow_setCell_below (ownsRow_setCell_below hown5 (by dsimp only; omega) _) (by dsimp only; omega) _) (by dsimp only; omega) _) ?_
    rw [List.getElem?_map, placesTo_get H n j hj, Option.map_some]
  · exact (((HB0.out.trans (HB3.out.mono (by omega))).trans (hb5.mono (by omega))).setCell (p := ⟨w.heap.size + 1, 0, none⟩) (by dsimp only; omega) _ |>.setCell (p := ⟨w.heap.size + 1, 1, none⟩) (by dsimp only; omega) _).setCell (p := ⟨w.heap.size + 1, 2, none⟩) (by dsimp only; omega) _
end Go.Proofs.YtpmjiifdnnhecaaGreatDoor

/-
  Contract of slices.Clone at integers that lie in a block.
-/

namespace Go.Proofs.YtpmjiifdnnhecaaGreatDoor
open Go.RowKit
set_option linter.unusedVariables false

set_option maxRecDepth 100000 in
set_option maxHeartbeats 3200000 in
theorem clone_any {w : World} (g n c : Nat) (ks : List Int) (hx : ks.length = n) (hn1 : 1 ≤ n) (hm : n ≤ 4096) (hb : g < w.heap.size)
    (hc : ∀ j, j < n → w.cell? ⟨g, j, none⟩ = some (.int .i64 (ks[j]?.getD 0))) :
    Calls Tryz.prog 148 #[.slice (some ⟨g, 0, none⟩) n c] w fun e w' =>
      ∃ g' cap, e = .returned (.slice (some ⟨g', 0, none⟩) n cap) ∧ w'.ownsRow w.heap.size 3 1 (.slice (some ⟨g', 0, none⟩) n cap) n (ks.map (Value.int .i64)) ∧ Below w.heap.size w w' := by
  obtain ⟨i0, hi, hz0, hz1, hz2⟩ := info_parts Tryz.infoInt
  have Hx := Lib.hid hx
  have Hc := Lib.hid hc
  clear hx hc
  have hnil : ∀ w : World, (binOp .eql 157 (.slice (some ⟨g, 0, none⟩) n c) (.slice none 0 0)).run Tryz.prog w = .ok (.bool false) w := fun w => Lib.run_eql_slice_nil w _ _ _ _ _ _ _ Tryz.underlying157
  go_enter Tryz.func148, Tryz.ntmps148
  go_wp2_with (at_builtin; go_loud (refine wpList_append_own _ rfl (.tmp 5) (.tmp 6) 157 rfl w.heap.size 3 i0 (.int .i64 0) 1 8 Tryz.underlying157 hi hz0 hz1 hz2 rfl (by decide) (.slice (some ⟨w.heap.size, 0, none⟩) 0 0) 0 [] rfl ?c0 ⟨g, 0, none⟩ n c (ks.map (Value.int .i64)) rfl (by simp [Hx.out]) ?c1 ?c2 ?c3 ?c4 ?c5 ?_))
  case c0 => exact World.ownsRow_made (base := w.heap.size) (e := 3) (size := 1) w #[] 0 (by simp) (by unfold maxLen; omega) rfl
  case c1 =>
    intro j u hu
    have hj : j < n := by have := (List.getElem?_eq_some_iff.1 hu).1; simp [Hx.out] at this; exact this
    have hadd : (⟨g, 0, none⟩ : Addr).add j = ⟨g, j, none⟩ := by unfold Addr.add; split <;> simp_all
    have e : u = .int .i64 (ks[j]?.getD 0) := by
      have hj' : j < ks.length := by rw [Hx.out]; exact hj
      simp [List.getElem?_map, List.getElem?_eq_getElem hj'] at hu
      simp [hj', hu]
    rw [hadd, e]
    exact ((Below.refl _ w).alloc (Nat.le_refl _) _ |>.cell (by exact hb)).trans (Hc.out j hj)
  case c2 => intro u hu; obtain ⟨x, _, rfl⟩ := List.mem_map.1 hu; rfl
  case c3 => unfold maxLen; omega
  case c4 => omega
  case c5 => simp
  intro v' w1 hown hgrow _
  obtain ⟨g', cap, rfl, _⟩ := owns_some hown hn1
  have hb1 : Below w.heap.size w w1 := ((Below.refl w.heap.size w).alloc (Nat.le_refl _) _).grown hgrow (by simp) (fun k hk => by cases hk; simp)
  clear hgrow
  go_wp2
  go_ret
  exact ⟨g', cap, rfl, hown, hb1⟩
end Go.Proofs.YtpmjiifdnnhecaaGreatDoor

/-
  What stays while Spread's inner loop writes the copy's integers.
-/

namespace Go.Proofs.YtpmjiifdnnhecaaGreatDoor
open Go.RowKit Go.Shelf
set_option linter.unusedVariables false

/-- The blocks of Spread's round. -/
structure SpP where
  B7 : Nat
  B8 : Nat
  Bw : Nat
  Bx : Nat
  ga : Nat
  gb : Nat
  gn : Nat
  o7 : Obj
  o8 : Obj
  ow : Obj
  ox : Obj
  oa : Obj
  on : Obj
  N : Nat
  M : Nat
  n : Nat
  cb : Nat
  T : TypeId
  W0 : World
  W1 : World
def SpP.Apart (p : SpP) : Prop := p.gb ≠ p.B7 ∧ p.gb ≠ p.B8 ∧ p.gb ≠ p.Bw ∧ p.gb ≠ p.Bx ∧ p.gb ≠ p.ga ∧ p.gb ≠ p.gn ∧ p.M ≤ p.gb
structure SpW (p : SpP) (cs : List Int) (w : World) : Prop where
  own : w.ownsRow p.N p.T 1 (.slice (some ⟨p.gb, 0, none⟩) p.n p.cb) p.n (cs.map (Value.int .i64))
  b7 : w.heap[p.B7]? = some p.o7
  b8 : w.heap[p.B8]? = some p.o8
  bw : w.heap[p.Bw]? = some p.ow
  bx : w.heap[p.Bx]? = some p.ox
  ba : w.heap[p.ga]? = some p.oa
  bn : w.heap[p.gn]? = some p.on
  bel : Below p.M p.W0 w
  keeps : KeepsOthers p.W1 w
theorem SpW.below {p : SpP} {cs : List Int} {w w' : World} (h : SpW p cs w) (hM : p.M ≤ p.W0.heap.size) (hb : Below w.heap.size w w') : SpW p cs w' :=
  ⟨owns_kept h.own hb (Nat.le_refl _), (hb.block _ (lt_of_blk h.b7)).trans h.b7, (hb.block _ (lt_of_blk h.b8)).trans h.b8, (hb.block _ (lt_of_blk h.bw)).trans h.bw, (hb.block _ (lt_of_blk h.bx)).trans h.bx, (hb.block _ (lt_of_blk h.ba)).trans h.ba,
    (hb.block _ (lt_of_blk h.bn)).trans h.bn, h.bel.trans (hb.mono (Nat.le_trans hM h.bel.size)), h.keeps.trans (KeepsOthers.of_below hb)⟩
theorem SpW.drew {p : SpP} {cs : List Int} {w : World} (h : SpW p cs w) : SpW p cs w.drew :=
  ⟨h.own.drew, h.b7, h.b8, h.bw, h.bx, h.ba, h.bn, h.bel.drew, h.keeps.trans (KeepsOthers.drew w)⟩
theorem SpW.alloc {p : SpP} {cs : List Int} {w : World} (h : SpW p cs w) (hM : p.M ≤ p.W0.heap.size) (o : Obj) : SpW p cs (w.alloc o) :=
  h.below hM ((Below.refl _ w).alloc (Nat.le_refl _) o)
theorem SpW.store {p : SpP} {cs : List Int} {w : World} (h : SpW p cs w) (ha : p.Apart) (j : Nat) (v : Int) : SpW p (cs.set j v) (w.setCell ⟨p.gb, j, none⟩ (.int .i64 v)) := by
  obtain ⟨n1, n2, n3, n4, n5, n6, n7⟩ := ha
  refine ⟨?_, blk_set_other h.b7 n1 _, blk_set_other h.b8 n2 _, blk_set_other h.bw n3 _, blk_set_other h.bx n4 _, blk_set_other h.ba n5 _, blk_set_other h.bn n6 _, h.bel.setCell n7 _, h.keeps.trans (KeepsOthers.setCell _ _ _)⟩
  rw [List.map_set]
  exact (h.own.stored j (.int .i64 v)).1
theorem SpW.cell {p : SpP} {cs : List Int} {w : World} (h : SpW p cs w) {j : Nat} (hj : j < cs.length) : w.cell? ⟨p.gb, j, none⟩ = some (.int .i64 (cs[j]?.getD 0)) :=
  owns_cell h.own (by rw [List.getElem?_map, List.getElem?_eq_getElem hj]; rfl)
theorem SpW.frozen {p : SpP} {cs : List Int} {w : World} (h : SpW p cs w) (j : Nat) : w.frozen? ⟨p.gb, j, none⟩ = false := h.own.frozenAt j
end Go.Proofs.YtpmjiifdnnhecaaGreatDoor

/-
  A region that draws its order, inside a fence and inside a round: an operation that yields its value in every world of which S holds may be taken first; S is shown anew behind each other one, but not behind the last.
-/
namespace Go.Proofs.YtpmjiifdnnhecaaGreatDoor
open Go

section
variable {F : Fence} {n : Nat} {P : Program} {ops : Array Oper} {Q : Exit → Act → World → Prop} {md : Region.Mode} {S : World → Prop}

def YHIn (P : Program) (ops : Array Oper) (S : World → Prop) (o : Oper) (v : Value) (a : Act) : Prop := YieldsIf P ops S o v a ∧ ∀ w, o.about P w a.eval = none

theorem YHIn.wpOpIn {i : Nat} {o : Oper} {v : Value} {a : Act} (hi : ops[i]? = some o) (hd : ∀ c, o.op ≠ .defer c) (hy : YHIn P ops S o v a)
    {K : Act → World → Prop} {w : World} (hS : S w) (h : K (a.put o.dst v) w) : Go.wpOpIn F n P ops Q i K a w := by
  unfold Go.wpOpIn
  simp only [hi]
  have hab : ∀ f, o.about P w a.eval = some f → F.fn f := fun f hf => by rw [hy.2 w] at hf; cases hf
  rcases hy.1 with ⟨hw, hv⟩ | ⟨hw, rfl⟩
  · simp only [hw, if_true, Oper.wpIn, Oper.semAt_eq _ _ _ hd, hv w hS, Oper.uponIn]; exact ⟨hab, h⟩
  · simp only [hw, Bool.false_eq_true, if_false]; exact ⟨hab, h⟩

theorem YHIn.of_same {o : Oper} {v : Value} {a a' : Act} (hy : YHIn P ops S o v a) (he : execOp a'.eval o = execOp a.eval o)
    (hw : Region.wanted o (yielded ops a'.tmps) = Region.wanted o (yielded ops a.tmps)) (hb : ∀ w, o.about P w a'.eval = o.about P w a.eval) : YHIn P ops S o v a' :=
  ⟨hy.1.of_same he hw, fun w => by rw [hb w]; exact hy.2 w⟩

theorem wpOpIn_putH {j : Nat} {oi oj : Oper} {v : Value} (hj : ops[j]? = some oj) (hdj : ∀ c, oj.op ≠ .defer c) (hap : oi.apart ops oj = true)
    (hsi : ∀ cs b, oi.op ≠ .select cs b) (hsj : ∀ cs b, oj.op ≠ .select cs b)
    (hQ : ∀ c a w, Q (.panic c) (a.put oi.dst v) w → Q (.panic c) a w) {K : Act → World → Prop} {a : Act} {w : World}
    (hy : YHIn P ops S oi v a) (h : Go.wpOpIn F n P ops Q j K (a.put oi.dst v) w) :
    Go.wpOpIn F n P ops Q j (fun a' w' => YHIn P ops S oi v a' ∧ K (a'.put oi.dst v) w') a w := by
  obtain ⟨h1, h2, h3⟩ := Oper.apart_spec hap
  have keep : ∀ (a : Act), YHIn P ops S oi v a → ∀ u, YHIn P ops S oi v (a.put oj.dst u) := fun a hy u =>
    hy.of_same (execOp_put oi hsi a oj.dst u h3) (wanted_put oi a oj.dst u h3) (fun w => about_put oi w a oj.dst u h3)
  unfold Go.wpOpIn at *
  simp only [hj] at *
  rw [wanted_put oj a oi.dst v h1, about_put oj w a oi.dst v h1] at h
  split
  · rename_i hw
    simp only [hw, if_true] at h
    unfold Oper.wpIn at *
    rw [about_put oj w a oi.dst v h1] at h
    refine ⟨h.1, ?_⟩
    have h := h.2
    rw [Oper.semAt_eq _ _ _ hdj, execOp_put oj hsj a oi.dst v h1] at h
    rw [Oper.semAt_eq _ _ _ hdj]
    generalize (execOp a.eval oj).run P w = r at *
    cases r with
    | ok x w' =>
      cases x <;> simp only [Oper.uponIn] at h ⊢
      case value u => exact ⟨keep a hy u, by rw [← Act.put_comm a v u h2]; exact h⟩
      case skip => exact ⟨keep a hy _, by rw [← Act.put_comm a v undef h2]; exact h⟩
      case defer d =>
        refine ⟨(hy.of_same rfl rfl (fun _ => rfl) : YHIn P ops S oi v { a with defers := d :: a.defers }) |> fun q => keep _ q _, ?_⟩
        rw [← Act.put_comm _ v undef h2, ← Act.put_defers]
        exact h
      case enter f args =>
        refine ⟨h.1, CallsIn.mono h.2 fun e w'' he => ?_⟩
        cases e with
        | returned u => exact ⟨keep a hy u, by rw [← Act.put_comm a v u h2]; exact he⟩
        | panicked c => exact hQ _ _ _ he
        | outgrown => exact he
      case row row args => exact ⟨h.1, RowsIn.mono h.2 fun u w'' he => ⟨keep a hy u, by rw [← Act.put_comm a v u h2]; exact he⟩⟩
      case round l f tmps assign body =>
        refine ⟨h.1, RoundIn.mono h.2 fun e w'' he => ?_⟩
        cases e with
        | returned u => exact ⟨keep a hy u, by rw [← Act.put_comm a v u h2]; exact he⟩
        | panicked c => exact hQ _ _ _ he
        | outgrown => exact he
    | halt x w' =>
      cases x <;> simp only [Oper.uponIn] at h ⊢
      case panic u => exact hQ _ _ _ h
  · rename_i hw
    simp only [hw] at h
    exact ⟨h.1, keep a hy _, by rw [← Act.put_comm a v undef h2]; exact h.2⟩

/-- Operation j waits for every other one. -/
def lastB (md : Region.Mode) (ops : Array Oper) (j : Nat) : Bool := (List.range ops.size).all fun k => k == j || match ops[j]? with | some oj => oj.after.any (fun e => Region.binds md e && e.on == k) | none => false
def noDefer (ops : Array Oper) : Bool := ops.toList.all fun o => match o.op with | .defer _ => false | _ => true
theorem noDefer_spec {j : Nat} {o : Oper} (h : noDefer ops = true) (ho : ops[j]? = some o) : ∀ c, o.op ≠ .defer c := fun c e => by
  unfold noDefer at h
  rw [List.all_eq_true] at h
  have := h o (by rw [Array.mem_toList_iff]; exact Array.mem_of_getElem? ho)
  rw [e] at this
  cases this

def wpAnyHIn (F : Fence) (n : Nat) (P : Program) (md : Region.Mode) (ops : Array Oper) (Q : Exit → Act → World → Prop) (S : World → Prop) : Nat → Array Bool → Act → World → Prop
  | 0, listed, a, w => Region.ready md ops listed = [] ∧ Q .normal a w
  | fuel + 1, listed, a, w =>
    (Region.ready md ops listed = [] → Q .normal a w) ∧
    ∀ i ∈ Region.ready md ops listed, wpOpIn F n P ops Q i (fun a' w' => (S w' ∧ wpAnyHIn F n P md ops Q S fuel (listed.setIfInBounds i true) a' w') ∨ (lastB md ops i = true ∧ Region.ready md ops (listed.setIfInBounds i true) = [] ∧ Q .normal a' w')) a w

theorem wpAnyIn_of_held : ∀ (fuel : Nat) (listed : Array Bool) (a : Act) (w : World), wpAnyHIn F n P md ops Q S fuel listed a w → wpAnyIn F n P md ops Q fuel listed a w
  | 0, _, _, _, h => h
  | fuel + 1, _, _, _, h => ⟨h.1, fun i hi => wpOpIn_mono (fun a' w' h' => by
      rcases h' with h' | h'
      · exact wpAnyIn_of_held fuel _ a' w' h'.2
      · exact wpAnyIn_done h'.2.1 h'.2.2 fuel) (h.2 i hi)⟩

theorem wpAnyHIn_first {i : Nat} {oi : Oper} {v : Value} (hnd : noDefer ops = true) (hi : ops[i]? = some oi) (hsel : ∀ (j : Nat) (o : Oper) cs b, ops[j]? = some o → o.op ≠ .select cs b)
    (hQ : ∀ c a w, Q (.panic c) (a.put oi.dst v) w → Q (.panic c) a w) :
    ∀ (fuel : Nat) (listed : Array Bool) (a : Act) (w : World),
      (∀ j oj, ops[j]? = some oj → j ≠ i → listed.getD j true = false → (∀ e ∈ oj.after, Region.binds md e = true → e.on ≠ i) → oi.apart ops oj = true) →
      i ∈ Region.ready md ops listed → YHIn P ops S oi v a → S w →
      wpAnyHIn F n P md ops Q S fuel (listed.setIfInBounds i true) (a.put oi.dst v) w → wpAnyHIn F n P md ops Q S (fuel + 1) listed a w := by
  intro fuel
  have hil : i < ops.size := (Array.getElem?_eq_some_iff.1 hi).1
  induction fuel with
  | zero =>
    intro listed a w _ hr hy hS H
    refine ⟨fun h => (by rw [h] at hr; cases hr), fun j hj => ?_⟩
    by_cases hji : j = i
    · subst hji; exact hy.wpOpIn hi (noDefer_spec hnd hi) hS (.inl ⟨hS, H⟩)
    · have := ready_mono hj hji
      rw [H.1] at this
      cases this
  | succ fuel ih =>
    intro listed a w hfree hr hy hS H
    refine ⟨fun h => (by rw [h] at hr; cases hr), fun j hj => ?_⟩
    by_cases hji : j = i
    · subst hji; exact hy.wpOpIn hi (noDefer_spec hnd hi) hS (.inl ⟨hS, H⟩)
    · have h1 := H.2 j (ready_mono hj hji)
      obtain ⟨hjun, oj, hoj, hall⟩ := mem_ready.1 hj
      have hnot : ∀ e ∈ oj.after, Region.binds md e = true → e.on ≠ i := fun e he hb heq => by
        have h1 := hall e he hb
        have h0 := (mem_ready.1 hr).1
        rw [heq] at h1
        rcases Nat.lt_or_ge i listed.size with h' | h'
        · simp [h'] at h0 h1; rw [h0] at h1; cases h1
        · simp [Array.getElem?_eq_none h'] at h1
      have h2 := wpOpIn_putH hoj (noDefer_spec hnd hoj) (hfree j oj hoj hji hjun hnot) (fun cs b => hsel i oi cs b hi) (fun cs b => hsel j oj cs b hoj) hQ hy h1
      have hfree' : ∀ k ok, ops[k]? = some ok → k ≠ i → (listed.setIfInBounds j true).getD k true = false →
          (∀ e ∈ ok.after, Region.binds md e = true → e.on ≠ i) → oi.apart ops ok = true := fun k ok hk hki hun hno => by
        refine hfree k ok hk hki ?_ hno
        by_cases hjk : j = k
        · subst hjk; exact hjun
        · rw [getD_set_ne true hjk] at hun; exact hun
      refine wpOpIn_mono (fun a' w' h3 => ?_) h2
      rcases h3.2 with h4 | h4
      · refine .inl ⟨h4.1, ih (listed.setIfInBounds j true) a' w' hfree' (ready_mono hr (Ne.symm hji)) h3.1 h4.1 ?_⟩
        rw [Array.setIfInBounds_comm _ _ hji]
        exact h4.2
      · exfalso
        have hl := h4.1
        unfold lastB at hl
        rw [List.all_eq_true] at hl
        have hx := hl i (List.mem_range.2 hil)
        rw [hoj] at hx
        simp only [Bool.or_eq_true, beq_iff_eq] at hx
        rcases hx with hx | hx
        · exact hji hx.symm
        · rw [Array.any_eq_true] at hx
          obtain ⟨m, hm, he⟩ := hx
          simp only [Bool.and_eq_true, beq_iff_eq] at he
          exact hnot _ (Array.getElem_mem hm) he.1 he.2

theorem wpAnyHIn_take {i : Nat} {oi : Oper} {v : Value} {fuel : Nat} {listed : Array Bool} {a : Act} {w : World} (hi : ops[i]? = some oi)
    (hnd : noDefer ops = true) (hs : Region.noSelect ops = true) (hf : Region.free md ops listed i = true) (hr : (Region.ready md ops listed).contains i = true)
    (hQ : ∀ c a w, Q (.panic c) (a.put oi.dst v) w → Q (.panic c) a w) (hy : YHIn P ops S oi v a) (hS : S w)
    (h : wpAnyHIn F n P md ops Q S fuel (listed.setIfInBounds i true) (a.put oi.dst v) w) : wpAnyHIn F n P md ops Q S (fuel + 1) listed a w :=
  wpAnyHIn_first hnd hi (Region.noSelect_spec hs) hQ fuel listed a w (Region.free_spec hi hf) (by simpa using hr) hy hS h

/-- One operation alone may come up. -/
theorem wpAnyHIn_one {i : Nat} {o : Oper} {fuel : Nat} {listed : Array Bool} {a : Act} {w : World} (hr : Region.ready md ops listed = [i]) (ho : ops[i]? = some o)
    (h : ∀ K' : Act → World → Prop, (∀ a w, S w → wpAnyHIn F n P md ops Q S fuel (listed.setIfInBounds i true) a w → K' a w) → if Region.wanted o (yielded ops a.tmps) = true then Oper.wpIn F n P o a w K' Q else (∀ f, o.about P w a.eval = some f → F.fn f) ∧ K' (a.put o.dst undef) w) :
    wpAnyHIn F n P md ops Q S (fuel + 1) listed a w :=
  ⟨fun h0 => (by rw [hr] at h0; cases h0), fun j hj => by
    rw [hr] at hj
    obtain rfl : j = i := by simpa using hj
    exact wpOpIn_step ho fun K' hK => h K' fun a w hS hw => hK a w (.inl ⟨hS, hw⟩)⟩
/-- The last one: S is not asked behind it. -/
theorem wpAnyHIn_end {i : Nat} {o : Oper} {fuel : Nat} {listed : Array Bool} {a : Act} {w : World} (hr : Region.ready md ops listed = [i]) (ho : ops[i]? = some o) (hl : lastB md ops i = true) (he : Region.ready md ops (listed.setIfInBounds i true) = [])
    (h : ∀ K' : Act → World → Prop, (∀ a w, Q .normal a w → K' a w) → if Region.wanted o (yielded ops a.tmps) = true then Oper.wpIn F n P o a w K' Q else (∀ f, o.about P w a.eval = some f → F.fn f) ∧ K' (a.put o.dst undef) w) :
    wpAnyHIn F n P md ops Q S (fuel + 1) listed a w :=
  ⟨fun h0 => (by rw [hr] at h0; cases h0), fun j hj => by
    rw [hr] at hj
    obtain rfl : j = i := by simpa using hj
    exact wpOpIn_step ho fun K' hK => h K' fun a w hq => hK a w (.inr ⟨hl, he, hq⟩)⟩
theorem wpIn_region_heldI {id : Nat} {a : Act} {w : World} (S : World → Prop) (hm : P.follows .mixedOrders = true)
    (h : wpAnyHIn F n P .any ops Q S ops.size (Array.replicate ops.size false) a { w with drawn := w.drawn + 1 }) : (Code.region id ops true).wpIn F n P Q a w :=
  wpIn_region_any hm (wpAnyIn_of_held _ _ _ _ h)
end
end Go.Proofs.YtpmjiifdnnhecaaGreatDoor
