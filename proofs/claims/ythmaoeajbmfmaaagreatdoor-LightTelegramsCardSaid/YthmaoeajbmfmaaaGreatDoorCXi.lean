/-
  Contracts of Turned's literal and of Turned for a right map: the map that is turned to the right.
-/
import Derived.Test.YthmaoeajbmfmaaaGreatDoorCXf
import Derived.Test.YthmaoeajbmfmaaaGreatDoorCXe
import Derived.Test.YthmaoeajbmfmaaaGreatDoorCHj
import Derived.Test.YthmaoeajbmfmaaaGreatDoorCWh
import Derived.Test.YthmaoeajbmfmaaaGreatDoorCWj
namespace Go.Proofs.YthmaoeajbmfmaaaGreatDoor
open Go.RowKit
set_option linter.unusedVariables false

set_option maxRecDepth 100000 in
set_option maxHeartbeats 3200000 in
theorem turned1_any (W H X Y : Nat) (g n c g7 : Nat) (v : Int) (hW : W ≤ 64) (hH : H ≤ 64) (hX : X < H) (hY : Y < W) (w : World)
    (hn : (H - 1 - X) * W + Y < n) (g7l : g7 < w.heap.size) (gl : g < w.heap.size) (hA : GridAt w g7 W H g n c)
    (hc : w.cell? ⟨g, (H - 1 - X) * W + Y, none⟩ = some (.int .i64 v)) :
    Calls Tryz.prog 134 #[.agg #[.int .i64 X, .int .i64 Y], .pointer (some ⟨g7, 0, none⟩)] w fun e w' => e = .returned (.int .i64 v) ∧ Below w.heap.size w w' := by
  obtain ⟨a0, a1, a2⟩ := hA
  have m1 : (H - 1 - X) * W ≤ 64 * 64 := Nat.mul_le_mul (by omega) hW
  have eZ : ((H : Int) - 1 - (X : Int)) = ((H - 1 - X : Nat) : Int) := by omega
  have e2 : ((H : Int) - 1 - (X : Int)) * (W : Int) = (((H - 1 - X) * W : Nat) : Int) := by rw [eZ]; push_cast; rfl
  have e1 : (((H : Int) - 1 - (X : Int)) * (W : Int) + (Y : Int)).toNat = (H - 1 - X) * W + Y := by rw [e2]; omega
  have K : ∀ w1 : World, Below w.heap.size w w1 → Calls Tryz.prog 119 #[.agg #[.int .i64 W, .int .i64 H, .slice (some ⟨g, 0, none⟩) n c], .agg #[.int .i64 Y, .int .i64 ((H : Int) - 1 - (X : Int))]] w1 fun e w' => e = .returned (.int .i64 v) ∧ Below w1.heap.size w1 w' := fun w1 h => by
    have hs := h.size
    exact at_any W H Y ((H : Int) - 1 - (X : Int)) g n c v (by omega) (by omega) (by omega) (by rw [e2]; omega) w1 (by rw [e2]; omega) (by omega) (by rw [e1]; exact (h.cell (p := ⟨g, _, none⟩) gl).trans hc)
  have HK := Lib.hid K
  have n0 := World.new_ne w _ a0
  have i1 : (H : Int) ≤ 64 := by omega
  have i2 : (X : Int) < (H : Int) := by omega
  clear K e1 e2 eZ hc
  go_enter Tryz.func134, Tryz.ntmps134
  go_wp2_with (go_at_call 119; refine (HK.out _ ((Below.refl _ w).alloc (Nat.le_refl _) _)).mono ?_; rintro e w' ⟨rfl, hb1⟩)
  go_ret
  exact ⟨rfl, ((Below.refl _ w).alloc (Nat.le_refl _) _).trans (hb1.mono (by simp))⟩

set_option maxRecDepth 100000 in
set_option maxHeartbeats 3200000 in
theorem turned_any (W H : Nat) (b o n c : Nat) (xs : List Nat) (ks : List Int) (w : World) (hA : RightMap w W H b o n xs ks) (hb : b < w.heap.size) :
    Calls Tryz.prog 51 #[.agg #[.int .i64 W, .int .i64 H, .slice (some ⟨b, o, none⟩) n c]] w fun e w' =>
      ∃ g, e = .returned (.tuple #[.agg #[.int .i64 H, .int .i64 W, .slice (some ⟨g, 0, none⟩) n n], .int .i64 0]) ∧ g < w'.heap.size ∧
        (∀ j, j < n → w'.cell? ⟨g, j, none⟩ = some (.float .f32 (smpOf (ks[(H - 1 - j % H) * W + j / H]?.getD 0)))) ∧ Below w.heap.size w w' := by
  obtain ⟨W0, hW0⟩ : ∃ W0, (w.alloc (.cells #[.int .i64 W, .int .i64 H, .slice (some ⟨b, o, none⟩) n c] 70)).alloc (.cells #[.int .i64 0, .int .i64 0, .slice none 0 0] 70) = W0 := ⟨_, rfl⟩
  have hB0 : Below w.heap.size w W0 := by rw [← hW0]; exact ((Below.refl _ w).alloc (Nat.le_refl _) _).alloc (by simp) _
  have hS0 : W0.heap.size = w.heap.size + 2 := by rw [← hW0]; simp
  have a0 : W0.cell? ⟨w.heap.size, 0, none⟩ = some (.int .i64 W) := by rw [← hW0]; simp [go_sem]
  have a1 : W0.cell? ⟨w.heap.size, 1, none⟩ = some (.int .i64 H) := by rw [← hW0]; simp [go_sem]
  have a2 : W0.cell? ⟨w.heap.size, 2, none⟩ = some (.slice (some ⟨b, o, none⟩) n c) := by rw [← hW0]; simp [go_sem]
  have z0 : W0.cell? ⟨w.heap.size + 1, 0, none⟩ = some (.int .i64 0) := by rw [← hW0]; simp [go_sem]
  have z1 : W0.cell? ⟨w.heap.size + 1, 1, none⟩ = some (.int .i64 0) := by rw [← hW0]; simp [go_sem]
  have z2 : W0.cell? ⟨w.heap.size + 1, 2, none⟩ = some (.slice none 0 0) := by rw [← hW0]; simp [go_sem]
  have zf : ∀ j, W0.frozen? ⟨w.heap.size + 1, j, none⟩ = false := fun j => by rw [← hW0]; simp [go_sem]
  have K1 := Lib.hid (checkMap_any W H b o n c xs ks W0 (hA.below hB0 hb) (by omega))
  have K2 : Hid (∀ w1 : World, Below W0.heap.size W0 w1 → Calls Tryz.prog 91 #[.agg #[.int .i64 W, .int .i64 H, .slice (some ⟨b, o, none⟩) n c]] w1 fun e w' =>
      ∃ g, e = .returned (.agg #[.int .i64 W, .int .i64 H, .slice (some ⟨g, 0, none⟩) n n]) ∧ w1.heap.size ≤ g ∧ RowAt w' g n ks ∧ Below w1.heap.size w1 w') := Lib.hid (fun w1 h => by
    have h1 := h.size
    have h2 := hB0.trans (h.mono (by omega))
    exact grid_row W H b o n c xs ks w1 (hA.below h2 hb).toWords (by omega))
  have HB0 := Lib.hid hB0
  have HS0 := Lib.hid hS0
  have HRA := Lib.hid hA
  clear hA hB0
  go_enter Tryz.func51, Tryz.ntmps51
  go_wp2_with (first
    | ((go_at_call 89; refine K1.out.mono ?_; rintro e w1 ⟨rfl, hb1⟩
        have hs1 := hb1.size
        have a0' := (hb1.cell (p := ⟨w.heap.size, 0, none⟩) (by show w.heap.size < _; omega)).trans a0
        have a1' := (hb1.cell (p := ⟨w.heap.size, 1, none⟩) (by show w.heap.size < _; omega)).trans a1
        have a2' := (hb1.cell (p := ⟨w.heap.size, 2, none⟩) (by show w.heap.size < _; omega)).trans a2
        have K3 := Lib.hid (K2.out w1 hb1)))
    | ((go_at_call 91; refine K3.out.mono ?_; rintro e w2 ⟨ga, rfl, hga, hRA, hb2⟩
        have hs2 := hb2.size
        have hRA2 := hRA.below ((Below.refl _ w2).alloc (Nat.le_refl _) (.cells #[.int .i64 W, .int .i64 H, .slice (some ⟨ga, 0, none⟩) n n] 162)) hRA.lt
        obtain ⟨W3, hW3⟩ : ∃ W3, w2.alloc (.cells #[.int .i64 W, .int .i64 H, .slice (some ⟨ga, 0, none⟩) n n] 162) = W3 := ⟨_, rfl⟩
        have hS3 : W3.heap.size = w2.heap.size + 1 := by rw [← hW3]; simp
        have hB3 : Below W0.heap.size W0 W3 := by rw [← hW3]; exact (hb1.trans (hb2.mono hs1)).alloc (by omega) _
        have hG3 : GridAt W3 w2.heap.size W H ga n n := by rw [← hW3]; exact ⟨by simp [go_sem], by simp [go_sem], by simp [go_sem]⟩
        rw [hW3] at hRA2
        have z0' := (hB3.cell (p := ⟨w.heap.size + 1, 0, none⟩) (by show w.heap.size + 1 < _; omega)).trans z0
        have z1' := (hB3.cell (p := ⟨w.heap.size + 1, 1, none⟩) (by show w.heap.size + 1 < _; omega)).trans z1
        have z2' := (hB3.cell (p := ⟨w.heap.size + 1, 2, none⟩) (by show w.heap.size + 1 < _; omega)).trans z2
        have zf' : ∀ j, W3.frozen? ⟨w.heap.size + 1, j, none⟩ = false := fun j => (hB3.frozen (p := ⟨w.heap.size + 1, j, none⟩) (by show w.heap.size + 1 < _; omega)).trans (zf j)
        have hN : W * H = n := by have := HRA.out.area; exact_mod_cast this
        have KP := Lib.hid (callsIn_wide.1 (painted_turned H W (by have := HRA.out.hei; omega) (by have := HRA.out.wid; omega) w2.heap.size W3 (fun p => ks[(H - 1 - p.1) * W + p.2]?.getD 0) (fun p => by
            by_cases hj : (H - 1 - p.1) * W + p.2 < n
            · exact HRA.out.sizes _ hj
            · rw [List.getElem?_eq_none (by rw [HRA.out.lenk]; omega)]; simp) (fun p W1 hp h1 => by
          have hlt : (H - 1 - p.1) * W + p.2 < n := idx_lt (p := (p.2, H - 1 - p.1)) hp.2 (by omega) hN
          have hW := HRA.out.wid
          have hH := HRA.out.hei
          have hsz := h1.size
          have hR1 := hRA2.below h1 hRA2.lt
          exact turned1_any W H p.1 p.2 ga n n w2.heap.size _ (by omega) (by omega) hp.1 hp.2 W1 hlt (by omega) hR1.lt (hG3.below h1 (by omega)) (hR1.cells _ hlt))))
        have gg0 := hG3.c0
        have gg1 := hG3.c1
        have HZ := Lib.hid zf'
        have HB3 := Lib.hid hB3
        have HN := Lib.hid hN
        clear hRA hRA2 a0 a1 a2 a0' a1' a2' z0 z1 z2 zf zf' hB3 hN hb1 hb2 hG3))
    | ((go_at_call 117; refine KP.out.mono ?_; rintro e w5 ⟨g, rfl, hown5, hb5⟩
        have s0 : w5.cell? ⟨w.heap.size + 1, 0, none⟩ = some (.int .i64 0) := (hb5.cell (p := ⟨w.heap.size + 1, 0, none⟩) (by show w.heap.size + 1 < _; omega)).trans z0'
        have s1 : w5.cell? ⟨w.heap.size + 1, 1, none⟩ = some (.int .i64 0) := (hb5.cell (p := ⟨w.heap.size + 1, 1, none⟩) (by show w.heap.size + 1 < _; omega)).trans z1'
        have s2 : w5.cell? ⟨w.heap.size + 1, 2, none⟩ = some (.slice none 0 0) := (hb5.cell (p := ⟨w.heap.size + 1, 2, none⟩) (by show w.heap.size + 1 < _; omega)).trans z2'
        have f0 : w5.frozen? ⟨w.heap.size + 1, 0, none⟩ = false := (hb5.frozen (p := ⟨w.heap.size + 1, 0, none⟩) (by show w.heap.size + 1 < _; omega)).trans (HZ.out 0)
        have f1 : w5.frozen? ⟨w.heap.size + 1, 1, none⟩ = false := (hb5.frozen (p := ⟨w.heap.size + 1, 1, none⟩) (by show w.heap.size + 1 < _; omega)).trans (HZ.out 1)
        have f2 : w5.frozen? ⟨w.heap.size + 1, 2, none⟩ = false := (hb5.frozen (p := ⟨w.heap.size + 1, 2, none⟩) (by show w.heap.size + 1 < _; omega)).trans (HZ.out 2))))
  have hN := HN.out
  have hsz5 := hb5.size
  have hg5 : W3.heap.size ≤ g ∧ g < w5.heap.size := hown5.lt g rfl
  rw [Nat.mul_comm H W, hN] at hown5
  refine bodyPost_ret (v := .tuple #[.agg #[.int .i64 H, .int .i64 W, .slice (some ⟨g, 0, none⟩) n n], .int .i64 0]) (by simp [results, Tryz.results51, go_sem, s0, s1, s2, Nat.mul_comm H W, hN]) rfl ⟨g, rfl, ?_, ?_, ?_⟩
  · simp; omega
  · intro j hj
    refine owns_cell (ownsRow_setCell_below (ownsRow_setCell_below (ownsRow_setCell_below hown5 (by dsimp only; omega) _) (by dsimp only; omega) _) (by dsimp only; omega) _) ?_
    rw [List.getElem?_map, placesTo_get H n j hj, Option.map_some]
  · exact (((HB0.out.trans (HB3.out.mono (by omega))).trans (hb5.mono (by omega))).setCell (p := ⟨w.heap.size + 1, 0, none⟩) (by dsimp only; omega) _ |>.setCell (p := ⟨w.heap.size + 1, 1, none⟩) (by dsimp only; omega) _).setCell (p := ⟨w.heap.size + 1, 2, none⟩) (by dsimp only; omega) _
end Go.Proofs.YthmaoeajbmfmaaaGreatDoor

/-
  Contract of slices.Clone at integers that lie in a block.
-/
namespace Go.Proofs.YthmaoeajbmfmaaaGreatDoor
open Go.RowKit
set_option linter.unusedVariables false

set_option maxRecDepth 100000 in
set_option maxHeartbeats 3200000 in
theorem clone_any {w : World} (g n c : Nat) (ks : List Int) (hx : ks.length = n) (hn1 : 1 ≤ n) (hm : n ≤ 4096) (hb : g < w.heap.size)
    (hc : ∀ j, j < n → w.cell? ⟨g, j, none⟩ = some (.int .i64 (ks[j]?.getD 0))) :
    Calls Tryz.prog 128 #[.slice (some ⟨g, 0, none⟩) n c] w fun e w' =>
      ∃ g' cap, e = .returned (.slice (some ⟨g', 0, none⟩) n cap) ∧ w'.ownsRow w.heap.size 3 1 (.slice (some ⟨g', 0, none⟩) n cap) n (ks.map (Value.int .i64)) ∧ Below w.heap.size w w' := by
  obtain ⟨i0, hi, hz0, hz1, hz2⟩ := info_parts Tryz.infoInt
  have Hx := Lib.hid hx
  have Hc := Lib.hid hc
  clear hx hc
  have hnil : ∀ w : World, (binOp .eql 122 (.slice (some ⟨g, 0, none⟩) n c) (.slice none 0 0)).run Tryz.prog w = .ok (.bool false) w := fun w => Lib.run_eql_slice_nil w _ _ _ _ _ _ _ Tryz.underlying122
  go_enter Tryz.func128, Tryz.ntmps128
  go_wp2_with (at_builtin; go_loud (refine wpList_append_own _ rfl (.tmp 5) (.tmp 6) 122 rfl w.heap.size 3 i0 (.int .i64 0) 1 8 Tryz.underlying122 hi hz0 hz1 hz2 rfl (by decide) (.slice (some ⟨w.heap.size, 0, none⟩) 0 0) 0 [] rfl ?c0 ⟨g, 0, none⟩ n c (ks.map (Value.int .i64)) rfl (by simp [Hx.out]) ?c1 ?c2 ?c3 ?c4 ?c5 ?_))
  case c0 => exact World.ownsRow_made (base := w.heap.size) (e := 3) (size := 1) w #[] 0 (by simp) (by unfold maxLen; omega) rfl
  case c1 =>
    intro j u hu
    have hj : j < n := by have := (List.getElem?_eq_some_iff.1 hu).1; simp [Hx.out] at this; exact this
    have hadd : (⟨g, 0, none⟩ : Addr).add j = ⟨g, j, none⟩ := by unfold Addr.add; split <;> simp_all
    have e : u = .int .i64 (ks[j]?.getD 0) := by
      have hj' : j < ks.length := by rw [Hx.out]; exact hj
      simp [List.getElem?_map, List.getElem?_eq_getElem hj'] at hu
      simp [hj', hu]
    rw [hadd, e]
    exact ((Below.refl _ w).alloc (Nat.le_refl _) _ |>.cell (by exact hb)).trans (Hc.out j hj)
  case c2 => intro u hu; obtain ⟨x, _, rfl⟩ := List.mem_map.1 hu; rfl
  case c3 => unfold maxLen; omega
  case c4 => omega
  case c5 => simp
  intro v' w1 hown hgrow _
  obtain ⟨g', cap, rfl, _⟩ := owns_some hown hn1
  have hb1 : Below w.heap.size w w1 := ((Below.refl w.heap.size w).alloc (Nat.le_refl _) _).grown hgrow (by simp) (fun k hk => by cases hk; simp)
  clear hgrow
  go_wp2
  go_ret
  exact ⟨g', cap, rfl, hown, hb1⟩
end Go.Proofs.YthmaoeajbmfmaaaGreatDoor

/-
  What stays while Spread's inner loop writes the copy's integers.
-/
namespace Go.Proofs.YthmaoeajbmfmaaaGreatDoor
open Go.RowKit Go.Shelf
set_option linter.unusedVariables false

/-- The blocks of Spread's round. -/
structure SpP where
  B7 : Nat
  B8 : Nat
  Bw : Nat
  Bx : Nat
  ga : Nat
  gb : Nat
  gn : Nat
  o7 : Obj
  o8 : Obj
  ow : Obj
  ox : Obj
  oa : Obj
  on : Obj
  N : Nat
  M : Nat
  n : Nat
  cb : Nat
  T : TypeId
  W0 : World
  W1 : World
def SpP.Apart (p : SpP) : Prop := p.gb ≠ p.B7 ∧ p.gb ≠ p.B8 ∧ p.gb ≠ p.Bw ∧ p.gb ≠ p.Bx ∧ p.gb ≠ p.ga ∧ p.gb ≠ p.gn ∧ p.M ≤ p.gb
structure SpW (p : SpP) (cs : List Int) (w : World) : Prop where
  own : w.ownsRow p.N p.T 1 (.slice (some ⟨p.gb, 0, none⟩) p.n p.cb) p.n (cs.map (Value.int .i64))
  b7 : w.heap[p.B7]? = some p.o7
  b8 : w.heap[p.B8]? = some p.o8
  bw : w.heap[p.Bw]? = some p.ow
  bx : w.heap[p.Bx]? = some p.ox
  ba : w.heap[p.ga]? = some p.oa
  bn : w.heap[p.gn]? = some p.on
  bel : Below p.M p.W0 w
  keeps : KeepsOthers p.W1 w
theorem SpW.below {p : SpP} {cs : List Int} {w w' : World} (h : SpW p cs w) (hM : p.M ≤ p.W0.heap.size) (hb : Below w.heap.size w w') : SpW p cs w' :=
  ⟨owns_kept h.own hb (Nat.le_refl _), (hb.block _ (lt_of_blk h.b7)).trans h.b7, (hb.block _ (lt_of_blk h.b8)).trans h.b8, (hb.block _ (lt_of_blk h.bw)).trans h.bw, (hb.block _ (lt_of_blk h.bx)).trans h.bx, (hb.block _ (lt_of_blk h.ba)).trans h.ba,
    (hb.block _ (lt_of_blk h.bn)).trans h.bn, h.bel.trans (hb.mono (Nat.le_trans hM h.bel.size)), h.keeps.trans (KeepsOthers.of_below hb)⟩
theorem SpW.drew {p : SpP} {cs : List Int} {w : World} (h : SpW p cs w) : SpW p cs w.drew :=
  ⟨h.own.drew, h.b7, h.b8, h.bw, h.bx, h.ba, h.bn, h.bel.drew, h.keeps.trans (KeepsOthers.drew w)⟩
theorem SpW.alloc {p : SpP} {cs : List Int} {w : World} (h : SpW p cs w) (hM : p.M ≤ p.W0.heap.size) (o : Obj) : SpW p cs (w.alloc o) :=
  h.below hM ((Below.refl _ w).alloc (Nat.le_refl _) o)
theorem SpW.store {p : SpP} {cs : List Int} {w : World} (h : SpW p cs w) (ha : p.Apart) (j : Nat) (v : Int) : SpW p (cs.set j v) (w.setCell ⟨p.gb, j, none⟩ (.int .i64 v)) := by
  obtain ⟨n1, n2, n3, n4, n5, n6, n7⟩ := ha
  refine ⟨?_, blk_set_other h.b7 n1 _, blk_set_other h.b8 n2 _, blk_set_other h.bw n3 _, blk_set_other h.bx n4 _, blk_set_other h.ba n5 _, blk_set_other h.bn n6 _, h.bel.setCell n7 _, h.keeps.trans (KeepsOthers.setCell _ _ _)⟩
  rw [List.map_set]
  exact (h.own.stored j (.int .i64 v)).1
theorem SpW.cell {p : SpP} {cs : List Int} {w : World} (h : SpW p cs w) {j : Nat} (hj : j < cs.length) : w.cell? ⟨p.gb, j, none⟩ = some (.int .i64 (cs[j]?.getD 0)) :=
  owns_cell h.own (by rw [List.getElem?_map, List.getElem?_eq_getElem hj]; rfl)
theorem SpW.frozen {p : SpP} {cs : List Int} {w : World} (h : SpW p cs w) (j : Nat) : w.frozen? ⟨p.gb, j, none⟩ = false := h.own.frozenAt j
end Go.Proofs.YthmaoeajbmfmaaaGreatDoor
