/-
  Contract of Peak for a right map: the greatest sample and its first place.
-/
import Derived.Test.YtfdkmmllemkogaaGreatDoorOXk
import Derived.Test.YtfdkmmllemkogaaGreatDoorOZa
namespace Go.Proofs.YtfdkmmllemkogaaGreatDoor
open Go.RowKit Go.Shelf
set_option linter.unusedVariables false
set_option linter.unusedSimpArgs false
attribute [local go_sem] Oper.semAt_some

/-- The first place of the greatest integer among some places, from the first place on. -/
def peak1 (W : Nat) (ks : List Int) (q p : Nat × Nat) : Nat × Nat := if ks[q.2 * W + q.1]?.getD 0 < ks[p.2 * W + p.1]?.getD 0 then p else q
def peakTo (W : Nat) (ks : List Int) (ps : List (Nat × Nat)) : Nat × Nat := ps.foldl (peak1 W ks) (0, 0)
theorem peakTo_snoc (W : Nat) (ks : List Int) (ps : List (Nat × Nat)) (p : Nat × Nat) : peakTo W ks (ps ++ [p]) = peak1 W ks (peakTo W ks ps) p := by simp [peakTo]
theorem peakTo_in {W H : Nat} (ks : List Int) (hW : 0 < W) (hH : 0 < H) (ps : List (Nat × Nat)) (h : ∀ p ∈ ps, p.1 < W ∧ p.2 < H) : (peakTo W ks ps).1 < W ∧ (peakTo W ks ps).2 < H := by
  have key : ∀ (ps : List (Nat × Nat)) (q : Nat × Nat), (q.1 < W ∧ q.2 < H) → (∀ p ∈ ps, p.1 < W ∧ p.2 < H) → (ps.foldl (peak1 W ks) q).1 < W ∧ (ps.foldl (peak1 W ks) q).2 < H := by
    intro ps
    induction ps with
    | nil => intro q hq _; exact hq
    | cons p ps ih =>
      intro q hq h
      refine ih _ ?_ (fun r hr => h r (List.mem_cons_of_mem _ hr))
      unfold peak1
      split
      · exact h p List.mem_cons_self
      · exact hq
  exact key ps (0, 0) ⟨hW, hH⟩ h
theorem rowf_own {β : Type} (B : Nat) (f : β → Array Value) (t : TypeId) : Own (fun (s : β) W => W.heap[B]? = some (.cells (f s) t (0, 0))) := fun s X Y row h hg hr =>
  (hg.block B (Array.getElem?_eq_some_iff.1 h).1 (fun e => by obtain ⟨o, ho, hc⟩ := hr B e.symm; rw [h] at ho; cases ho; cases hc)).trans h
theorem blk_set2 {w : World} {B : Nat} {T : TypeId} {x y : Value} (h : w.heap[B]? = some (.cells #[x, y] T (0, 0))) (a b : Value) : ((w.setCell ⟨B, 0, none⟩ a).setCell ⟨B, 1, none⟩ b).heap[B]? = some (.cells #[a, b] T (0, 0)) := by
  simp only [World.setCell, Array.getElem?_modify, if_true, h, Option.map_some]
  simp

theorem results_tmp_row_tmp {P : Program} {fn : Func} {s p u : Tmp} {ty : TypeId} (h : fn.results = #[.tmp s, .cell p ty, .tmp u]) (tmps : Array Value) (w : World) (g : Nat) (t : TypeId) (cs : Array Value) (fr : Nat × Nat) (d : TypeDesc)
    (hp : tmps.getD p undef = .pointer (some ⟨g, 0, none⟩)) (hg : w.heap[g]? = some (.cells cs t fr))
    (hu : P.underlying ty = some d) (hd : (match d with | .struct _ | .array _ _ => true | _ => false) = true) (hi : (P.info? ty).map (·.size) = some cs.size) :
    (results fn tmps).run P w = .ok (.tuple #[tmps.getD s undef, .agg cs, tmps.getD u undef]) w := by
  have hp' : tmps[p]?.getD undef = .pointer (some ⟨g, 0, none⟩) := by simpa using hp
  simp [results, h, hp', asAddr, Sem.run_bind, Result.andThen, run_loadVar_row w g t ty cs fr d hg hu hd hi]

set_option maxRecDepth 100000 in
set_option maxHeartbeats 6400000 in
theorem peak_any (W H : Nat) (b o c n : Nat) (xs : List Nat) (ks : List Int) (w : World) (hA : RightMap w W H b o n xs ks) (hb : b < w.heap.size) :
    Calls Tryz.prog 40 #[.agg #[.int .i64 W, .int .i64 H, .slice (some ⟨b, o, none⟩) n c]] w fun e w' =>
      e = .returned (.tuple #[.float .f32 (smpOf (ks[(peakTo W ks (placesTo W (H * W))).2 * W + (peakTo W ks (placesTo W (H * W))).1]?.getD 0)), .agg #[.int .i64 (peakTo W ks (placesTo W (H * W))).1, .int .i64 (peakTo W ks (placesTo W (H * W))).2], .int .i64 0]) ∧ Below w.heap.size w w' := by
  have hR0 := peakTo_in (W := W) (H := H) ks (by have := hA.wid; omega) (by have := hA.hei; omega) (placesTo W (H * W)) (fun p hp => by
    obtain ⟨j, hj, rfl⟩ := List.mem_map.1 hp
    have hWp : 0 < W := by have := hA.wid; omega
    exact ⟨Nat.mod_lt _ hWp, Nat.div_lt_of_lt_mul (by rw [Nat.mul_comm W H]; exact List.mem_range.1 hj)⟩)
  obtain ⟨⟨rx, ry⟩, hR⟩ : ∃ R, peakTo W ks (placesTo W (H * W)) = R := ⟨_, rfl⟩
  rw [hR] at hR0 ⊢
  dsimp only at hR0 ⊢
  obtain ⟨kr, hkr⟩ : ∃ kr : Int, ks[ry * W + rx]?.getD 0 = kr := ⟨_, rfl⟩
  rw [hkr]
  have HR := Lib.hid hR
  have HKR := Lib.hid hkr
  clear hR hkr
  obtain ⟨W0, hW0⟩ : ∃ W0, (w.alloc (.cells #[.int .i64 W, .int .i64 H, .slice (some ⟨b, o, none⟩) n c] 54)).alloc (.cells #[.int .i64 0, .int .i64 0] 50) = W0 := ⟨_, rfl⟩
  have hB0 : Below w.heap.size w W0 := by rw [← hW0]; exact ((Below.refl _ w).alloc (Nat.le_refl _) _).alloc (by simp) _
  have hS0 : W0.heap.size = w.heap.size + 2 := by rw [← hW0]; simp
  have a0 : W0.cell? ⟨w.heap.size, 0, none⟩ = some (.int .i64 W) := by rw [← hW0]; simp [go_sem]
  have a1 : W0.cell? ⟨w.heap.size, 1, none⟩ = some (.int .i64 H) := by rw [← hW0]; simp [go_sem]
  have a2 : W0.cell? ⟨w.heap.size, 2, none⟩ = some (.slice (some ⟨b, o, none⟩) n c) := by rw [← hW0]; simp [go_sem]
  have zP : W0.heap[w.heap.size + 1]? = some (.cells #[.int .i64 0, .int .i64 0] 50 (0, 0)) := by rw [← hW0]; exact blk_alloc_at _ _ (by simp)
  have K1 := Lib.hid (checkMap_any W H b o n c xs ks W0 (hA.below hB0 hb) (by omega))
  have K2 : Hid (∀ w1 : World, Below W0.heap.size W0 w1 → Calls Tryz.prog 123 #[.agg #[.int .i64 W, .int .i64 H, .slice (some ⟨b, o, none⟩) n c]] w1 fun e w' =>
      ∃ g, e = .returned (.agg #[.int .i64 W, .int .i64 H, .slice (some ⟨g, 0, none⟩) n n]) ∧ w1.heap.size ≤ g ∧ RowAt w' g n ks ∧ Below w1.heap.size w1 w') := Lib.hid (fun w1 h => by
    have h1 := h.size
    have h2 := hB0.trans (h.mono (by omega))
    exact grid_row W H b o n c xs ks w1 (hA.below h2 hb).toWords (by omega))
  have HB0 := Lib.hid hB0
  have HS0 := Lib.hid hS0
  have HRA := Lib.hid hA
  clear hA hB0
  refine (callsIn_wide (n := 6)).1 ?_
  refine callsIn_of_wp_marks Tryz.func40 rfl trivial ?_ rfl
  simp only [Tryz.ntmps40, List.size_toArray, List.length_cons, List.length_nil, Nat.reduceAdd, Nat.reduceSub, Array.replicate_succ, Array.replicate_zero, List.push_toArray, List.append_toArray, List.nil_append, List.cons_append]
  refine wpIn_wide.2 ?_
  go_upto_region 1 with fail
  try rw [hW0]
  clear hW0
  go_upto_region 6 with (first
    | ((go_at_call 47; refine K1.out.mono ?_; rintro e w1 ⟨rfl, hb1⟩
        have hs1 := hb1.size
        have a0' := (hb1.cell (p := ⟨w.heap.size, 0, none⟩) (by show w.heap.size < _; omega)).trans a0
        have a1' := (hb1.cell (p := ⟨w.heap.size, 1, none⟩) (by show w.heap.size < _; omega)).trans a1
        have a2' := (hb1.cell (p := ⟨w.heap.size, 2, none⟩) (by show w.heap.size < _; omega)).trans a2
        have K3 := Lib.hid (K2.out w1 hb1)))
    | ((go_at_call 123; refine K3.out.mono ?_; rintro e w2 ⟨ga, rfl, hga, hRA, hb2⟩)))
  have hs2 := hb2.size
  obtain ⟨W5, hW5⟩ : ∃ W5, (w2.alloc (.cells #[.int .i64 W, .int .i64 H, .slice (some ⟨ga, 0, none⟩) n n] 188)).alloc (.cells #[.int .i64 0, .int .i64 0] 50) = W5 := ⟨_, rfl⟩
  have hBG : Below w2.heap.size w2 W5 := by rw [← hW5]; exact ((Below.refl _ w2).alloc (Nat.le_refl _) _).alloc (by simp) _
  have hS5 : W5.heap.size = w2.heap.size + 2 := by rw [← hW5]; simp
  have hB5 : Below W0.heap.size W0 W5 := (hb1.trans (hb2.mono hs1)).trans (hBG.mono (by omega))
  have e7 : W5.heap[w2.heap.size]? = some (.cells #[.int .i64 W, .int .i64 H, .slice (some ⟨ga, 0, none⟩) n n] 188 (0, 0)) := by rw [← hW5]; exact blk_alloc_other (blk_alloc_new _ _) _
  have e8 : W5.heap[w2.heap.size + 1]? = some (.cells #[.int .i64 0, .int .i64 0] 50 (0, 0)) := by rw [← hW5]; exact blk_alloc_new1 _ _ _
  have hRow : RowAt W5 ga n ks := hRA.below hBG hRA.lt
  obtain ⟨q0, q1, q2⟩ := GridAt.of_blk e7
  obtain ⟨oa, hoa⟩ : ∃ oa, W5.heap[ga]? = some oa := ⟨_, Array.getElem?_eq_getElem hRow.lt⟩
  have hoc : oa.isCells = true := by
    have h := hRow.cells 0 (by have := HRA.out.wid; have := HRA.out.hei; have := Int.mul_le_mul HRA.out.wid.1 HRA.out.hei.1 (by omega) (by omega); have := HRA.out.area; omega)
    simp only [World.cell?, hoa] at h
    cases oa <;> first | rfl | (simp at h)
  have hra := hRA.lt
  have HOA := Lib.hid hoa
  have HOC := Lib.hid hoc
  have HE7 := Lib.hid e7
  have HE8 := Lib.hid e8
  have HROW := Lib.hid hRow
  have HB5 := Lib.hid hB5
  have HS5 := Lib.hid hS5
  have hN : W * H = n := by have := HRA.out.area; exact_mod_cast this
  have HN := Lib.hid hN
  clear hoa hoc e7 e8 hRow hB5 hS5 hN hRA hBG hb1 hb2 a0 a1 a2 a0' a1' a2'
  try rw [hW5]
  clear hW5
  go_wp2_with (refine (callsIn_wide.1 (places_in Fence.wide 6 trivial rfl W H W5)).mono ?_; rintro e w6 ⟨rfl, rfl⟩)
  have hS5 : w2.heap.size + 2 ≤ W5.heap.size := by have := HS5.out; omega
  obtain ⟨W7, hW7⟩ : ∃ W7, (W5.alloc (.cells #[.int .i64 W] 3)).alloc (.cells #[.int .i64 H] 3) = W7 := ⟨_, rfl⟩
  have bW : Boxed W7 W5.heap.size 3 (.int .i64 W) := by rw [← hW7]; exact (Boxed.new W5 _ _).alloc _
  have bH : Boxed W7 (W5.heap.size + 1) 3 (.int .i64 H) := by rw [← hW7]; exact blk_alloc_new1 _ _ _
  have hS7 : W5.heap.size + 2 ≤ W7.heap.size := by rw [← hW7]; simp
  have k7 : W7.heap[w2.heap.size]? = some (.cells #[.int .i64 W, .int .i64 H, .slice (some ⟨ga, 0, none⟩) n n] 188 (0, 0)) := by rw [← hW7]; exact blk_alloc_other (blk_alloc_other HE7.out _) _
  have k8 : W7.heap[w2.heap.size + 1]? = some (.cells #[.int .i64 0, .int .i64 0] 50 (0, 0)) := by rw [← hW7]; exact blk_alloc_other (blk_alloc_other HE8.out _) _
  have ka : W7.heap[ga]? = some oa := by rw [← hW7]; exact blk_alloc_other (blk_alloc_other HOA.out _) _
  have HS3 : w.heap.size + 2 ≤ W0.heap.size := by have := HS0.out; omega
  have hB7 : Below (w.heap.size + 2) W0 W7 := by rw [← hW7]; exact below_alloc (below_alloc (HB5.out.mono HS3) HS3 _) HS3 _
  have HW := HRA.out.wid
  have HH := HRA.out.hei
  have hW64 : W ≤ 64 := by omega
  have hH64 : H ≤ 64 := by omega
  have hW1 : 0 < W := by omega
  have hH1 : 0 < H := by omega
  clear HW HH
  rw [hW7]
  clear hW7
  have hro : Fence.wide.round = none := rfl
  refine (wpIn_wide (n := 6)).1 ?_
  refine wpIn_rangeFunc_ownH hro (by omega) (gf := 202) (lb := #[.pointer (some ⟨W5.heap.size + 1, 0, none⟩), .pointer (some ⟨W5.heap.size, 0, none⟩)]) rfl trivial (enters_of Tryz.func202 (by kernel_rfl) rfl)
    (places_stops Fence.wide (6 - 1) trivial hro (by omega) (W5.heap.size + 1) W5.heap.size W H hW64 hH64 W7 (by omega) (by omega) bH.cell bW.cell) KeepsWide.t KeepsWide.b (Below.refl _ _) (fun _ => rfl)
    (fun pre W1 => (W1.heap[w2.heap.size + 1]? = some (.cells #[.int .i64 (peakTo W ks (pre.map Subtype.val)).1, .int .i64 (peakTo W ks (pre.map Subtype.val)).2] 50 (0, 0)) ∧ (Boxed W1 W5.heap.size 3 (.int .i64 W) ∧ W1.heap[w2.heap.size]? = some (.cells #[.int .i64 W, .int .i64 H, .slice (some ⟨ga, 0, none⟩) n n] 188 (0, 0)) ∧ W1.heap[ga]? = some oa)) ∧ Below (w.heap.size + 2) W0 W1)
    (fun _ _ _ => False)
    (OwnFrom.and (OwnFrom.and (Own.from (rowf_own (w2.heap.size + 1) (fun pre : List (Pl W H) => #[.int .i64 (peakTo W ks (pre.map Subtype.val)).1, .int .i64 (peakTo W ks (pre.map Subtype.val)).2]) 50) _) (OwnFrom.and (Own.from (boxed_own _ _ (fun _ => .int .i64 W)) _) (OwnFrom.and (Own.from (row_own _ _ _) _) (Own.from (obj_own _ _ HOC.out) _)))) (ownFrom_below (by omega) (by omega)))
    (fun _ _ _ _ _ hs _ _ => hs)
    ⟨⟨k8, bW, k7, ka⟩, hB7⟩
    (fun p a' W1 => ∃ Bx, W5.heap.size < Bx ∧ W1.heap[Bx]? = some (.cells #[.int .i64 (p.1.1 : Nat), .int .i64 (p.1.2 : Nat)] 50 (0, 0)) ∧ a' = { tmps := #[.agg #[.int .i64 W, .int .i64 H, .slice (some ⟨b, o, none⟩) n c], .pointer (some ⟨w.heap.size, 0, none⟩), .float .f32 0, .pointer (some ⟨w.heap.size + 1, 0, none⟩), .int .i64 0, .int .i64 0, .pointer (some ⟨w2.heap.size, 0, none⟩), .pointer (some ⟨w2.heap.size + 1, 0, none⟩), .pointer (some ⟨Bx, 0, none⟩), .agg #[.int .i64 W, .int .i64 H, .slice (some ⟨b, o, none⟩) n c], .int .i64 0, .int .i64 0, .bool false, undef, undef, .agg #[.int .i64 W, .int .i64 H, .slice (some ⟨b, o, none⟩) n c], .agg #[.int .i64 W, .int .i64 H, .slice (some ⟨ga, 0, none⟩) n n], .agg #[.int .i64 0, .int .i64 0], .pointer (some ⟨w2.heap.size, 0, none⟩), .int .i64 W, .pointer (some ⟨w2.heap.size, 1, none⟩), .int .i64 H, .func (.func 202) #[] #[.pointer (some ⟨W5.heap.size + 1, 0, none⟩), .pointer (some ⟨W5.heap.size, 0, none⟩)], .agg #[.int .i64 (p.1.1 : Nat), .int .i64 (p.1.2 : Nat)], undef, undef, undef, undef, undef, undef, undef, undef, undef, undef, undef, undef, undef], defers := [] })
    (fun p a' _ X Y row hs hg hr => by obtain ⟨Bx, h1, h2, h3⟩ := hs; exact ⟨Bx, h1, row_own (β := Unit) Bx _ _ () X Y row h2 hg (fun r e => (hr r e).2), h3⟩)
    ?assign ?body ?done ?stop
  case assign =>
    rintro l pre p W1 K ⟨⟨b8, bW1, b7, ba⟩, hB1⟩ hK
    have hsz1 := hB1.size
    have hlw := bW1.lt
    gi_wp2
    exact hK _ _ ((KeepsOthers.alloc _ _).from _) (KeepsWide.of_below ((Below.refl _ W1).alloc (Nat.le_refl _) _) bW1.lt)
      ⟨⟨blk_alloc_other b8 _, bW1.alloc _, blk_alloc_other b7 _, blk_alloc_other ba _⟩, below_alloc hB1 HS3 _⟩ ⟨W1.heap.size, hlw, heap_alloc_new W1 _, rfl⟩
  case body =>
    rintro l pre p a' W1 hl ⟨r, hr⟩ ⟨⟨b8, bW1, b7, ba⟩, hB1⟩ ⟨Bx, hBx, bX, rfl⟩ hlt
    have hpin := peakTo_in (W := W) (H := H) ks hW1 hH1 (pre.map Subtype.val) (fun x hx => by
      obtain ⟨y, _, rfl⟩ := List.mem_map.1 hx
      exact y.2)
    have hsn : peakTo W ks ((pre ++ [p]).map Subtype.val) = peak1 W ks (peakTo W ks (pre.map Subtype.val)) p.1 := by rw [List.map_append, List.map_cons, List.map_nil, peakTo_snoc]
    obtain ⟨⟨px, py⟩, hQ⟩ : ∃ q, (peakTo W ks (pre.map Subtype.val)) = q := ⟨_, rfl⟩
    rw [hQ] at b8 hpin hsn
    dsimp only at b8 hpin
    have hlB := lt_of_blk bX
    have hl7 := lt_of_blk b7
    have hl8 := lt_of_blk b8
    have hlg := lt_of_blk ba
    have hx0 : W1.cell? ⟨Bx, 0, none⟩ = some (.int .i64 (p.1.1 : Nat)) := by rw [cell_of_row W1 Bx 0 _ _ (0, 0) bX]; rfl
    have hx1 : W1.cell? ⟨Bx, 1, none⟩ = some (.int .i64 (p.1.2 : Nat)) := by rw [cell_of_row W1 Bx 1 _ _ (0, 0) bX]; rfl
    have hy0 : W1.cell? ⟨w2.heap.size + 1, 0, none⟩ = some (.int .i64 px) := by rw [cell_of_row W1 _ 0 _ _ (0, 0) b8]; rfl
    have hy1 : W1.cell? ⟨w2.heap.size + 1, 1, none⟩ = some (.int .i64 py) := by rw [cell_of_row W1 _ 1 _ _ (0, 0) b8]; rfl
    obtain ⟨q0, q1, q2⟩ := GridAt.of_blk b7
    have hj : p.1.2 * W + p.1.1 < n := idx_lt p.2.1 p.2.2 HN.out
    have hjq : py * W + px < n := idx_lt (p := (px, py)) hpin.1 hpin.2 HN.out
    have hp1 := p.2.1
    have hp2 := p.2.2
    have hnn := HRA.out.small
    have KAT : ∀ (X Y : Nat), X < W → Y < H → Hid (∀ Wx : World, Below W1.heap.size W1 Wx → Calls Tryz.prog 126 #[.agg #[.int .i64 W, .int .i64 H, .slice (some ⟨ga, 0, none⟩) n n], .agg #[.int .i64 X, .int .i64 Y]] Wx fun e w' => e = .returned (.int .i64 (ks[Y * W + X]?.getD 0)) ∧ Below W1.heap.size W1 w') := fun X Y hX hY => Lib.hid (fun Wx h => by
      have hs := h.size
      have hjj : Y * W + X < n := idx_lt (p := (X, Y)) hX hY HN.out
      have hka : W1.cell? ⟨ga, Y * W + X, none⟩ = some (.int .i64 (ks[Y * W + X]?.getD 0)) := (World.cell?_of_block (w := W5) (w' := W1) (a := ⟨ga, Y * W + X, none⟩) (ba.trans HOA.out.symm)).trans (HROW.out.cells _ hjj)
      have hm1 : Y * W ≤ 64 * 64 := Nat.mul_le_mul (by omega) hW64
      have e2 : (Y : Int) * (W : Int) = ((Y * W : Nat) : Int) := by push_cast; rfl
      have ei : ((Y : Int) * (W : Int) + (X : Int)).toNat = Y * W + X := by rw [e2]; omega
      exact (at_any W H X Y ga n n _ (by omega) (by omega) (by omega) (by rw [e2]; omega) Wx (by rw [e2]; omega) (by omega) (by rw [ei]; exact (h.cell (p := ⟨ga, _, none⟩) hlg).trans hka)).mono fun e w' ⟨he, hw⟩ => ⟨he, h.trans (hw.mono hs)⟩)
    have KP := KAT p.1.1 p.1.2 hp1 hp2
    have KQ := KAT px py hpin.1 hpin.2
    obtain ⟨kj, hkj⟩ : ∃ kj : Int, ks[p.1.2 * W + p.1.1]?.getD 0 = kj := ⟨_, rfl⟩
    obtain ⟨kq, hkq⟩ : ∃ kq : Int, ks[py * W + px]?.getD 0 = kq := ⟨_, rfl⟩
    rw [hkj] at KP
    rw [hkq] at KQ
    have HSN := Lib.hid hsn
    have HKJ := Lib.hid hkj
    have HKQ := Lib.hid hkq
    have HB8 := Lib.hid b8
    have HB7 := Lib.hid b7
    have HBA := Lib.hid ba
    have HBX := Lib.hid bX
    clear hsn hkj hkq KAT hQ
    have hmix : Tryz.prog.follows Departure.mixedOrders = true := by kernel_rfl
    dsimp only
    by_cases hgt : kq < kj
    · gi_upto_region 8 with fail
      gi_cut [30] from 24 (fun s30 wx => s30 = .bool true ∧ Below W1.heap.size W1 wx)
      case first =>
        gi_region_with_o (first
          | ((refine ⟨trivial, ?_⟩; gi_at_call 126; with_reducible refine (CallsIn.inRound l (callsIn_wide.2 (KP.out _ ?_))).mono ?_; rotate_left 1; rintro e W2 ⟨rfl, hb2⟩
              have hs2' := hb2.size
              have u0 := (hb2.cell (p := ⟨w2.heap.size, 0, none⟩) hl7).trans q0
              have u1 := (hb2.cell (p := ⟨w2.heap.size, 1, none⟩) hl7).trans q1
              have u2 := (hb2.cell (p := ⟨w2.heap.size, 2, none⟩) hl7).trans q2
              have v0 := (hb2.cell (p := ⟨w2.heap.size + 1, 0, none⟩) hl8).trans hy0
              have v1 := (hb2.cell (p := ⟨w2.heap.size + 1, 1, none⟩) hl8).trans hy1
              rotate_left 1
              exact (Below.refl _ W1).drew))
          | ((refine ⟨trivial, ?_⟩; gi_at_call 126; with_reducible refine (CallsIn.inRound l (callsIn_wide.2 (KQ.out _ ?_))).mono ?_; rotate_left 1; rintro e W3 ⟨rfl, hb3⟩; rotate_left 1; exact hb2)))
        all_goals gi_wp2_with fail
        all_goals gi_meet
        all_goals exact ⟨rfl, hb3⟩
      case rest =>
        obtain ⟨rfl, hbc⟩ := hcut
        have hsc := hbc.size
        have c8 := (hbc.block _ (lt_of_blk HB8.out)).trans HB8.out
        have cX := (hbc.block _ hlB).trans HBX.out
        have c7 := (hbc.block _ (lt_of_blk HB7.out)).trans HB7.out
        have cA := (hbc.block _ (lt_of_blk HBA.out)).trans HBA.out
        have cW : Boxed wc W5.heap.size 3 (.int .i64 W) := (hbc.block _ bW1.lt).trans bW1
        have s0 : wc.cell? ⟨Bx, 0, none⟩ = some (.int .i64 (p.1.1 : Nat)) := by rw [cell_of_row wc Bx 0 _ _ (0, 0) cX]; rfl
        have s1 : wc.cell? ⟨Bx, 1, none⟩ = some (.int .i64 (p.1.2 : Nat)) := by rw [cell_of_row wc Bx 1 _ _ (0, 0) cX]; rfl
        have t0 : wc.cell? ⟨w2.heap.size + 1, 0, none⟩ = some (.int .i64 px) := by rw [cell_of_row wc _ 0 _ _ (0, 0) c8]; rfl
        have t1 : wc.cell? ⟨w2.heap.size + 1, 1, none⟩ = some (.int .i64 py) := by rw [cell_of_row wc _ 1 _ _ (0, 0) c8]; rfl
        have tf : ∀ j, wc.frozen? ⟨w2.heap.size + 1, j, none⟩ = false := fun j => by simp [World.frozen?, c8]
        have tf0 := tf 0
        have tf1 := tf 1
        have C8 := Lib.hid c8
        have C7 := Lib.hid c7
        have CA := Lib.hid cA
        have CW := Lib.hid cW
        have n7 : w2.heap.size + 1 ≠ w2.heap.size := by omega
        have nW : w2.heap.size + 1 ≠ W5.heap.size := by omega
        have nA : w2.heap.size + 1 ≠ ga := by omega
        have nB : ¬ (w2.heap.size + 1 = Bx) := by omega
        have nB' : ¬ (Bx = w2.heap.size + 1) := by omega
        have hBN : w.heap.size + 2 ≤ w2.heap.size + 1 := by have := HS0.out; omega
        clear c8 cX c7 cA cW tf hx0 hx1 hy0 hy1 q0 q1 q2
        gi_wp2
        refine ⟨(((KeepsOthers.of_below hbc).trans (KeepsOthers.setCell _ _ _)).trans (KeepsOthers.setCell _ _ _)).from _, fun _ => Boxed.cell (blk_set_other (blk_set_other CW.out nW _) nW _), ⟨?_, blk_set_other (blk_set_other CW.out nW _) nW _, blk_set_other (blk_set_other C7.out n7 _) n7 _, blk_set_other (blk_set_other CA.out nA _) nA _⟩, ((hB1.trans (hbc.mono (Nat.le_trans HS3 hB1.size))).setCell (p := ⟨w2.heap.size + 1, 0, none⟩) hBN _).setCell (p := ⟨w2.heap.size + 1, 1, none⟩) hBN _⟩
        have e1 : peakTo W ks ((pre ++ [p]).map Subtype.val) = p.1 := by rw [HSN.out, peak1, HKJ.out, HKQ.out, if_pos (by omega)]
        rw [e1]
        exact blk_set2 C8.out _ _
    · gi_upto_region 8 with fail
      gi_cut [30] from 24 (fun s30 wx => s30 = .bool false ∧ Below W1.heap.size W1 wx)
      case first =>
        gi_region_with_o (first
          | ((refine ⟨trivial, ?_⟩; gi_at_call 126; with_reducible refine (CallsIn.inRound l (callsIn_wide.2 (KP.out _ ?_))).mono ?_; rotate_left 1; rintro e W2 ⟨rfl, hb2⟩
              have hs2' := hb2.size
              have u0 := (hb2.cell (p := ⟨w2.heap.size, 0, none⟩) hl7).trans q0
              have u1 := (hb2.cell (p := ⟨w2.heap.size, 1, none⟩) hl7).trans q1
              have u2 := (hb2.cell (p := ⟨w2.heap.size, 2, none⟩) hl7).trans q2
              have v0 := (hb2.cell (p := ⟨w2.heap.size + 1, 0, none⟩) hl8).trans hy0
              have v1 := (hb2.cell (p := ⟨w2.heap.size + 1, 1, none⟩) hl8).trans hy1
              rotate_left 1
              exact (Below.refl _ W1).drew))
          | ((refine ⟨trivial, ?_⟩; gi_at_call 126; with_reducible refine (CallsIn.inRound l (callsIn_wide.2 (KQ.out _ ?_))).mono ?_; rotate_left 1; rintro e W3 ⟨rfl, hb3⟩; rotate_left 1; exact hb2)))
        all_goals gi_wp2_with fail
        all_goals gi_meet
        all_goals exact ⟨by first | rfl | exact congrArg Value.bool (decide_eq_false (by omega)), hb3⟩
      case rest =>
        obtain ⟨rfl, hbc⟩ := hcut
        have hsc := hbc.size
        have c8 := (hbc.block _ (lt_of_blk HB8.out)).trans HB8.out
        have cX := (hbc.block _ hlB).trans HBX.out
        have c7 := (hbc.block _ (lt_of_blk HB7.out)).trans HB7.out
        have cA := (hbc.block _ (lt_of_blk HBA.out)).trans HBA.out
        have cW : Boxed wc W5.heap.size 3 (.int .i64 W) := (hbc.block _ bW1.lt).trans bW1
        have s0 : wc.cell? ⟨Bx, 0, none⟩ = some (.int .i64 (p.1.1 : Nat)) := by rw [cell_of_row wc Bx 0 _ _ (0, 0) cX]; rfl
        have s1 : wc.cell? ⟨Bx, 1, none⟩ = some (.int .i64 (p.1.2 : Nat)) := by rw [cell_of_row wc Bx 1 _ _ (0, 0) cX]; rfl
        have t0 : wc.cell? ⟨w2.heap.size + 1, 0, none⟩ = some (.int .i64 px) := by rw [cell_of_row wc _ 0 _ _ (0, 0) c8]; rfl
        have t1 : wc.cell? ⟨w2.heap.size + 1, 1, none⟩ = some (.int .i64 py) := by rw [cell_of_row wc _ 1 _ _ (0, 0) c8]; rfl
        have tf : ∀ j, wc.frozen? ⟨w2.heap.size + 1, j, none⟩ = false := fun j => by simp [World.frozen?, c8]
        have tf0 := tf 0
        have tf1 := tf 1
        have C8 := Lib.hid c8
        have C7 := Lib.hid c7
        have CA := Lib.hid cA
        have CW := Lib.hid cW
        have n7 : w2.heap.size + 1 ≠ w2.heap.size := by omega
        have nW : w2.heap.size + 1 ≠ W5.heap.size := by omega
        have nA : w2.heap.size + 1 ≠ ga := by omega
        have nB : ¬ (w2.heap.size + 1 = Bx) := by omega
        have nB' : ¬ (Bx = w2.heap.size + 1) := by omega
        have hBN : w.heap.size + 2 ≤ w2.heap.size + 1 := by have := HS0.out; omega
        clear c8 cX c7 cA cW tf hx0 hx1 hy0 hy1 q0 q1 q2
        gi_wp2
        refine ⟨(KeepsOthers.of_below hbc).from _, fun _ => Boxed.cell CW.out, ⟨?_, CW.out, C7.out, CA.out⟩, hB1.trans (hbc.mono (Nat.le_trans HS3 hB1.size))⟩
        have e1 : peakTo W ks ((pre ++ [p]).map Subtype.val) = (px, py) := by rw [HSN.out, peak1, HKJ.out, HKQ.out, if_neg (by omega)]
        rw [e1]
        exact C8.out
  case done =>
    rintro D ys W1 hD hys ⟨⟨b8, bW1, b7, ba⟩, hB1⟩ hK
    rw [hys, HR.out] at b8
    dsimp only at b8
    have hsz1 := hB1.size
    have hl7 := lt_of_blk b7
    have hl8 := lt_of_blk b8
    have hlg := lt_of_blk ba
    have bR := (hB1.block (w.heap.size + 1) (by omega)).trans zP
    have hlR := lt_of_blk bR
    obtain ⟨q0, q1, q2⟩ := GridAt.of_blk b7
    have y0 : W1.cell? ⟨w2.heap.size + 1, 0, none⟩ = some (.int .i64 rx) := by rw [cell_of_row W1 _ 0 _ _ (0, 0) b8]; rfl
    have y1 : W1.cell? ⟨w2.heap.size + 1, 1, none⟩ = some (.int .i64 ry) := by rw [cell_of_row W1 _ 1 _ _ (0, 0) b8]; rfl
    have r0 : W1.cell? ⟨w.heap.size + 1, 0, none⟩ = some (.int .i64 0) := by rw [cell_of_row W1 _ 0 _ _ (0, 0) bR]; rfl
    have r1 : W1.cell? ⟨w.heap.size + 1, 1, none⟩ = some (.int .i64 0) := by rw [cell_of_row W1 _ 1 _ _ (0, 0) bR]; rfl
    have rf : ∀ j, W1.frozen? ⟨w.heap.size + 1, j, none⟩ = false := fun j => by simp [World.frozen?, bR]
    have rf0 := rf 0
    have rf1 := rf 1
    have hjj : ry * W + rx < n := idx_lt (p := (rx, ry)) hR0.1 hR0.2 HN.out
    have hsz16 := HRA.out.sizes _ hjj
    have hnn := HRA.out.small
    have KQ : Hid (∀ Wx : World, Below W1.heap.size W1 Wx → Calls Tryz.prog 126 #[.agg #[.int .i64 W, .int .i64 H, .slice (some ⟨ga, 0, none⟩) n n], .agg #[.int .i64 rx, .int .i64 ry]] Wx fun e w' => e = .returned (.int .i64 (ks[ry * W + rx]?.getD 0)) ∧ Below W1.heap.size W1 w') := Lib.hid (fun Wx h => by
      have hs := h.size
      have hka : W1.cell? ⟨ga, ry * W + rx, none⟩ = some (.int .i64 (ks[ry * W + rx]?.getD 0)) := (World.cell?_of_block (w := W5) (w' := W1) (a := ⟨ga, ry * W + rx, none⟩) (ba.trans HOA.out.symm)).trans (HROW.out.cells _ hjj)
      have hm1 : ry * W ≤ 64 * 64 := Nat.mul_le_mul (by omega) hW64
      have e2 : (ry : Int) * (W : Int) = ((ry * W : Nat) : Int) := by push_cast; rfl
      have ei : ((ry : Int) * (W : Int) + (rx : Int)).toNat = ry * W + rx := by rw [e2]; omega
      exact (at_any W H rx ry ga n n _ (by omega) (by omega) (by omega) (by rw [e2]; omega) Wx (by rw [e2]; omega) (by omega) (by rw [ei]; exact (h.cell (p := ⟨ga, _, none⟩) hlg).trans hka)).mono fun e w' ⟨he, hw⟩ => ⟨he, h.trans (hw.mono hs)⟩)
    rw [HKR.out] at KQ hsz16
    have HSZ := Lib.hid hsz16
    have HBR := Lib.hid bR
    clear hsz16 rf bR
    have hw2 : w.heap.size + 2 ≤ w2.heap.size := by have := HS0.out; omega
    have nq1 : ¬ (w2.heap.size = w.heap.size + 1) := by omega
    have nq2 : ¬ (w2.heap.size = w.heap.size) := by omega
    have nq3 : ¬ (w.heap.size + 1 = w2.heap.size) := by omega
    have nq4 : ¬ (w.heap.size = w2.heap.size) := by omega
    dsimp only
    go_upto_region 10 with fail
    go_region_held3 (fun w' => w'.cell? ⟨w2.heap.size, 0, none⟩ = some (.int .i64 W) ∧ w'.cell? ⟨w2.heap.size, 1, none⟩ = some (.int .i64 H) ∧ w'.cell? ⟨w2.heap.size, 2, none⟩ = some (.slice (some ⟨ga, 0, none⟩) n n) ∧ w'.cell? ⟨w2.heap.size + 1, 0, none⟩ = some (.int .i64 rx) ∧ w'.cell? ⟨w2.heap.size + 1, 1, none⟩ = some (.int .i64 ry))
      (first | go_keep | (go_split_ands; refine ⟨?_, ?_, ?_, ?_, ?_⟩ <;> (rw [hb2.cell (by simp; try omega)]; assumption)))
      (first
        | (go_at_call 126; refine (KQ.out _ (by first | exact Below.refl _ _ | exact (Below.refl _ _).drew)).mono ?_; rintro e W2 ⟨rfl, hb2⟩; (obtain ⟨hcc, hff⟩ := bcell hb2))
        | (go_at_call 125; refine (sample_any _ (Nat.lt_of_le_of_lt HSZ.out (by decide)) _).mono ?_; rintro e w9 ⟨rfl, rfl⟩))
    all_goals
      go_wp2_with fail
      have rM2 := (hb2.block _ hlR).trans HBR.out
      obtain ⟨WF, hWF⟩ : ∃ WF, ((W2.setCell ⟨w.heap.size + 1, 0, none⟩ (.int .i64 rx)).setCell ⟨w.heap.size + 1, 1, none⟩ (.int .i64 ry)) = WF := ⟨_, rfl⟩
      have rF : WF.heap[w.heap.size + 1]? = some (.cells #[.int .i64 rx, .int .i64 ry] 50 (0, 0)) := by rw [← hWF]; exact blk_set2 rM2 _ _
      have kF : WF.heap[D]? = some (.deferred (some [])) := by
        rw [← hWF]
        exact (((KeepsOthers.of_below hb2).trans (KeepsOthers.setCell _ _ _)).trans (KeepsOthers.setCell _ _ _)).same D _ hK rfl
      have bF9 : Below w.heap.size w WF := by
        rw [← hWF]
        exact (((HB0.out.trans (hB1.mono (by omega))).trans (hb2.mono (by have := HS0.out; omega))).setCell (p := ⟨w.heap.size + 1, 0, none⟩) (by show w.heap.size ≤ w.heap.size + 1; omega) _).setCell (p := ⟨w.heap.size + 1, 1, none⟩) (by show w.heap.size ≤ w.heap.size + 1; omega) _
      have nD : w.heap.size + 1 ≠ D := fun e => by rw [← e, rF] at kF; cases kF
      try rw [hWF]
      refine ⟨by simp, .inl ⟨_, _, rfl, run_takeDeferred kF, ?_⟩⟩
      exact ⟨_, results_tmp_row_tmp Tryz.results40 _ _ (w.heap.size + 1) 50 _ (0, 0) _ rfl ((World.putObj_heap_other nD).trans rF) Tryz.underlying50 rfl (by kernel_rfl), rfl, bF9.trans (belowK_b (w := w) (Nat.le_refl _) WF D _ _ (by omega) kF rfl rfl)⟩
  case stop =>
    rintro D c pre W1 _ _ h _
    exact h.elim
end Go.Proofs.YtfdkmmllemkogaaGreatDoor
