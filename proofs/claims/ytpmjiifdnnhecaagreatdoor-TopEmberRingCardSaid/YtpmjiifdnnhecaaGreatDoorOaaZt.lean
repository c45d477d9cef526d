/-
  Contract of Binned's literal: the sum of the integers of a block of a grid. Conditions: the block lies in the grid; the integers are those of samples.
-/
import Derived.Test.YtpmjiifdnnhecaaGreatDoorOaaZk
namespace Go.Proofs.YtpmjiifdnnhecaaGreatDoor
open Go.RowKit Go.Shelf
set_option linter.unusedVariables false
set_option linter.unusedSimpArgs false
attribute [local go_sem] Oper.semAt_some

/-- The integer at a place of a block, and the sum over some places of it. -/
def binCell (W : Nat) (ks : List Int) (s X Y : Nat) (q : Nat × Nat) : Int := ks[(Y * s + q.2) * W + (X * s + q.1)]?.getD 0
def binTo (W : Nat) (ks : List Int) (s X Y : Nat) (qs : List (Nat × Nat)) : Int := (qs.map (binCell W ks s X Y)).sum
theorem binTo_snoc (W : Nat) (ks : List Int) (s X Y : Nat) (qs : List (Nat × Nat)) (q : Nat × Nat) : binTo W ks s X Y (qs ++ [q]) = binTo W ks s X Y qs + binCell W ks s X Y q := by
  simp [binTo]
theorem binTo_bd (W : Nat) (ks : List Int) (s X Y : Nat) (h : ∀ j : Nat, (ks[j]?.getD 0 : Int).natAbs ≤ 16384) (qs : List (Nat × Nat)) : (binTo W ks s X Y qs).natAbs ≤ 16384 * qs.length := by
  unfold binTo
  induction qs with
  | nil => simp
  | cons q qs ih =>
    simp only [List.map_cons, List.sum_cons, List.length_cons]
    have := h ((Y * s + q.2) * W + (X * s + q.1))
    have e : binCell W ks s X Y q = ks[(Y * s + q.2) * W + (X * s + q.1)]?.getD 0 := rfl
    omega

set_option maxRecDepth 100000 in
set_option maxHeartbeats 6400000 in
theorem binlit_any (W H X Y s ga n g1 g2 : Nat) (ks : List Int) (hW : W ≤ 64) (hH : H ≤ 64) (hs1 : 1 ≤ s) (hs : s ≤ 64) (hX : X * s + s ≤ W) (hY : Y * s + s ≤ H) (hN : W * H = n)
    (hb : ∀ j : Nat, (ks[j]?.getD 0 : Int).natAbs ≤ 16384) (w : World) (h1 : w.cell? ⟨g1, 0, none⟩ = some (.int .i64 s)) (h2 : GridAt w g2 W H ga n n) (hR : RowAt w ga n ks) (l1 : g1 < w.heap.size) (l2 : g2 < w.heap.size) :
    Calls Tryz.prog 154 #[.agg #[.int .i64 X, .int .i64 Y], .pointer (some ⟨g1, 0, none⟩), .pointer (some ⟨g2, 0, none⟩)] w fun e w' => e = .returned (.int .i64 (binTo W ks s X Y (placesTo s (s * s)))) ∧ Below w.heap.size w w' := by
  have hX64 : X * s ≤ 64 := by omega
  have hY64 : Y * s ≤ 64 := by omega
  have hXl : X ≤ 64 := Nat.le_trans (Nat.le_mul_of_pos_right X hs1) hX64
  have hYl : Y ≤ 64 := Nat.le_trans (Nat.le_mul_of_pos_right Y hs1) hY64
  obtain ⟨xs, hxs⟩ : ∃ xs, X * s = xs := ⟨_, rfl⟩
  obtain ⟨ys, hys⟩ : ∃ ys, Y * s = ys := ⟨_, rfl⟩
  have ex : (X : Int) * (s : Int) = (xs : Int) := by rw [← hxs]; push_cast; rfl
  have ey : (Y : Int) * (s : Int) = (ys : Int) := by rw [← hys]; push_cast; rfl
  have ex2 : IntKind.i64.wrap (xs : Int) = (xs : Int) := IntWalk.i64_in _ ⟨by omega, by omega⟩
  have ey2 : IntKind.i64.wrap (ys : Int) = (ys : Int) := IntWalk.i64_in _ ⟨by omega, by omega⟩
  rw [hxs] at hX hX64
  rw [hys] at hY hY64
  have HXS := Lib.hid hxs
  have HYS := Lib.hid hys
  have HNN := Lib.hid hN
  have HBD := Lib.hid hb
  have HR := Lib.hid hR
  have HG := Lib.hid h2
  have HC1 := Lib.hid h1
  clear hxs hys hN hb hR h2 h1
  refine (callsIn_wide (n := 6)).1 ?_
  refine callsIn_of_wp_marks Tryz.func154 rfl trivial ?_ rfl
  simp only [Tryz.ntmps154, List.size_toArray, List.length_cons, List.length_nil, Nat.reduceAdd, Nat.reduceSub, Array.replicate_succ, Array.replicate_zero, List.push_toArray, List.append_toArray, List.nil_append, List.cons_append]
  refine wpIn_wide.2 ?_
  go_upto_region 2 with fail
  obtain ⟨W0, hW0⟩ : ∃ W0, (w.alloc (.cells #[.int .i64 X, .int .i64 Y] 124)).alloc (.cells #[.int .i64 0] 3) = W0 := ⟨_, rfl⟩
  have hB0 : Below w.heap.size w W0 := by rw [← hW0]; exact ((Below.refl _ w).alloc (Nat.le_refl _) _).alloc (by simp) _
  have hS0 : W0.heap.size = w.heap.size + 2 := by rw [← hW0]; simp
  have bP : W0.heap[w.heap.size]? = some (.cells #[.int .i64 X, .int .i64 Y] 124 (0, 0)) := by rw [← hW0]; exact blk_alloc_other (blk_alloc_new _ _) _
  have bA : W0.heap[w.heap.size + 1]? = some (.cells #[.int .i64 0] 3 (0, 0)) := by rw [← hW0]; exact blk_alloc_new1 _ _ _
  have c1 : W0.cell? ⟨g1, 0, none⟩ = some (.int .i64 s) := (hB0.cell (p := ⟨g1, 0, none⟩) l1).trans HC1.out
  rw [hW0]
  have HB0 := Lib.hid hB0
  have HBP := Lib.hid bP
  have HBA := Lib.hid bA
  have HS0 := Lib.hid hS0
  clear hW0 hB0 bP bA hS0
  go_wp2_with (refine (callsIn_wide.1 (places_in Fence.wide 6 trivial rfl s s _)).mono ?_; rintro e w6 ⟨rfl, rfl⟩)
  have hS0 : w.heap.size + 2 ≤ W0.heap.size := by have := HS0.out; omega
  obtain ⟨W7, hW7⟩ : ∃ W7, (W0.alloc (.cells #[.int .i64 s] 3)).alloc (.cells #[.int .i64 s] 3) = W7 := ⟨_, rfl⟩
  have bW : Boxed W7 W0.heap.size 3 (.int .i64 s) := by rw [← hW7]; exact (Boxed.new W0 _ _).alloc _
  have bH : Boxed W7 (W0.heap.size + 1) 3 (.int .i64 s) := by rw [← hW7]; exact blk_alloc_new1 _ _ _
  have hS7 : W0.heap.size + 2 ≤ W7.heap.size := by rw [← hW7]; simp
  have kP : W7.heap[w.heap.size]? = some (.cells #[.int .i64 X, .int .i64 Y] 124 (0, 0)) := by rw [← hW7]; exact blk_alloc_other (blk_alloc_other HBP.out _) _
  have kA : W7.heap[w.heap.size + 1]? = some (.cells #[.int .i64 0] 3 (0, 0)) := by rw [← hW7]; exact blk_alloc_other (blk_alloc_other HBA.out _) _
  have hB7 : Below w.heap.size w W7 := by rw [← hW7]; exact (HB0.out.alloc (by omega) _).alloc (by simp; omega) _
  try rw [hW7]
  clear hW7
  have hro : Fence.wide.round = none := rfl
  refine (wpIn_wide (n := 6)).1 ?_
  refine wpIn_rangeFunc_ownH hro (by omega) (gf := 201) (lb := #[.pointer (some ⟨W0.heap.size + 1, 0, none⟩), .pointer (some ⟨W0.heap.size, 0, none⟩)]) rfl trivial (enters_of Tryz.func201 (by kernel_rfl) rfl)
    (places_stops Fence.wide (6 - 1) trivial hro (by omega) (W0.heap.size + 1) W0.heap.size s s hs hs W7 (by omega) (by omega) bH.cell bW.cell) KeepsWide.t KeepsWide.b (Below.refl _ _) (fun _ => rfl)
    (fun pre W1 => (W1.heap[w.heap.size + 1]? = some (.cells #[.int .i64 (binTo W ks s X Y (pre.map Subtype.val))] 3 (0, 0)) ∧ (Boxed W1 W0.heap.size 3 (.int .i64 s) ∧ W1.heap[w.heap.size]? = some (.cells #[.int .i64 X, .int .i64 Y] 124 (0, 0)))) ∧ Below w.heap.size w W1)
    (fun _ _ _ => False)
    (OwnFrom.and (OwnFrom.and (Own.from (rowf_own (w.heap.size + 1) (fun pre : List (Pl s s) => #[.int .i64 (binTo W ks s X Y (pre.map Subtype.val))]) 3) _) (OwnFrom.and (Own.from (boxed_own _ _ (fun _ => .int .i64 s)) _) (Own.from (row_own _ _ _) _))) (ownFrom_below (by omega) (by omega)))
    (fun _ _ _ _ _ hs _ _ => hs)
    ⟨⟨kA, bW, kP⟩, hB7⟩
    (fun p a' W1 => ∃ Bx, W0.heap.size < Bx ∧ W1.heap[Bx]? = some (.cells #[.int .i64 (p.1.1 : Nat), .int .i64 (p.1.2 : Nat)] 124 (0, 0)) ∧ a' = { tmps := #[.agg #[.int .i64 X, .int .i64 Y], .pointer (some ⟨g1, 0, none⟩), .pointer (some ⟨g2, 0, none⟩), .pointer (some ⟨w.heap.size, 0, none⟩), .int .i64 0, .pointer (some ⟨w.heap.size + 1, 0, none⟩), .pointer (some ⟨Bx, 0, none⟩), .int .i64 s, .int .i64 s, .func (.func 201) #[] #[.pointer (some ⟨W0.heap.size + 1, 0, none⟩), .pointer (some ⟨W0.heap.size, 0, none⟩)], .agg #[.int .i64 (p.1.1 : Nat), .int .i64 (p.1.2 : Nat)], undef, undef, undef, undef, undef, undef, undef, undef, undef, undef, undef, undef, undef, undef, undef, undef, undef, undef, undef, undef], defers := [] })
    (fun p a' _ X Y row hs hg hr => by obtain ⟨Bx, h1, h2, h3⟩ := hs; exact ⟨Bx, h1, row_own (β := Unit) Bx _ _ () X Y row h2 hg (fun r e => (hr r e).2), h3⟩)
    ?assign ?body ?done ?stop
  case assign =>
    rintro l pre p W1 K ⟨⟨b8, bW1, b7⟩, hB1⟩ hK
    have hsz1 := hB1.size
    have hlw := bW1.lt
    gi_wp2
    exact hK _ _ ((KeepsOthers.alloc _ _).from _) (KeepsWide.of_below ((Below.refl _ W1).alloc (Nat.le_refl _) _) bW1.lt)
      ⟨⟨blk_alloc_other b8 _, bW1.alloc _, blk_alloc_other b7 _⟩, hB1.alloc hB1.size _⟩ ⟨W1.heap.size, hlw, heap_alloc_new W1 _, rfl⟩
  case body =>
    rintro l pre p a' W1 hl ⟨r, hr⟩ ⟨⟨b8, bW1, b7⟩, hB1⟩ ⟨Bx, hBx, bX, rfl⟩ hlt
    have hsn : binTo W ks s X Y ((pre ++ [p]).map Subtype.val) = binTo W ks s X Y (pre.map Subtype.val) + binCell W ks s X Y p.1 := by rw [List.map_append, List.map_cons, List.map_nil, binTo_snoc]
    have hac := binTo_bd W ks s X Y HBD.out (pre.map Subtype.val)
    rw [List.length_map] at hac
    have hss : s * s ≤ 4096 := Nat.le_trans (Nat.mul_le_mul hs hs) (by decide)
    obtain ⟨acc, hacc⟩ : ∃ acc : Int, binTo W ks s X Y (pre.map Subtype.val) = acc := ⟨_, rfl⟩
    rw [hacc] at hsn hac b8
    have hlB := lt_of_blk bX
    have hl7 := lt_of_blk b7
    have hl8 := lt_of_blk b8
    have hp1 := p.2.1
    have hp2 := p.2.2
    have hsz1 := hB1.size
    have hlg := HR.out.lt
    have hx0 : W1.cell? ⟨Bx, 0, none⟩ = some (.int .i64 (p.1.1 : Nat)) := by rw [cell_of_row W1 Bx 0 _ _ (0, 0) bX]; rfl
    have hx1 : W1.cell? ⟨Bx, 1, none⟩ = some (.int .i64 (p.1.2 : Nat)) := by rw [cell_of_row W1 Bx 1 _ _ (0, 0) bX]; rfl
    have hy0 : W1.cell? ⟨w.heap.size, 0, none⟩ = some (.int .i64 X) := by rw [cell_of_row W1 _ 0 _ _ (0, 0) b7]; rfl
    have hy1 : W1.cell? ⟨w.heap.size, 1, none⟩ = some (.int .i64 Y) := by rw [cell_of_row W1 _ 1 _ _ (0, 0) b7]; rfl
    have ha0 : W1.cell? ⟨w.heap.size + 1, 0, none⟩ = some (.int .i64 acc) := by rw [cell_of_row W1 _ 0 _ _ (0, 0) b8]; rfl
    have haf : W1.frozen? ⟨w.heap.size + 1, 0, none⟩ = false := by simp [World.frozen?, b8]
    have hc1 : W1.cell? ⟨g1, 0, none⟩ = some (.int .i64 s) := (hB1.cell (p := ⟨g1, 0, none⟩) l1).trans HC1.out
    obtain ⟨q0, q1, q2⟩ := HG.out.below hB1 l2
    have hR1 := HR.out.below hB1 hlg
    have hj : (ys + p.1.2) * W + (xs + p.1.1) < n := idx_lt (p := (xs + p.1.1, ys + p.1.2)) (by show xs + p.1.1 < W; omega) (by show ys + p.1.2 < H; omega) HNN.out
    have hka := hR1.cells _ hj
    obtain ⟨kj, hkj⟩ : ∃ kj : Int, ks[(ys + p.1.2) * W + (xs + p.1.1)]?.getD 0 = kj := ⟨_, rfl⟩
    have hkb := HBD.out ((ys + p.1.2) * W + (xs + p.1.1))
    rw [hkj] at hka hkb
    have hbc : binCell W ks s X Y p.1 = kj := by rw [binCell, HXS.out, HYS.out]; exact hkj
    rw [hbc] at hsn
    have KAT : Hid (∀ Wx : World, Below W1.heap.size W1 Wx → Calls Tryz.prog 142 #[.agg #[.int .i64 W, .int .i64 H, .slice (some ⟨ga, 0, none⟩) n n], .agg #[.int .i64 ((xs : Int) + (p.1.1 : Nat)), .int .i64 ((ys : Int) + (p.1.2 : Nat))]] Wx fun e w' => e = .returned (.int .i64 kj) ∧ Below W1.heap.size W1 w') := Lib.hid (fun Wx h => by
      have hs := h.size
      have hm1 : (ys + p.1.2) * W ≤ 64 * 64 := Nat.mul_le_mul (by omega) hW
      have e2 : ((ys : Int) + (p.1.2 : Nat)) * (W : Int) = (((ys + p.1.2) * W : Nat) : Int) := by push_cast; rfl
      have ei : (((ys : Int) + (p.1.2 : Nat)) * (W : Int) + ((xs : Int) + (p.1.1 : Nat))).toNat = (ys + p.1.2) * W + (xs + p.1.1) := by rw [e2]; omega
      exact (at_any W H ((xs : Int) + (p.1.1 : Nat)) ((ys : Int) + (p.1.2 : Nat)) ga n n kj (by omega) (by omega) (by omega) (by rw [e2]; omega) Wx (by rw [e2]; omega) (by omega) (by rw [ei]; exact (h.cell (p := ⟨ga, _, none⟩) (by show ga < _; omega)).trans hka)).mono fun e w' ⟨he, hw⟩ => ⟨he, h.trans (hw.mono hs)⟩)
    have ix : IntKind.i64.wrap ((xs : Int) + (p.1.1 : Nat)) = (xs : Int) + (p.1.1 : Nat) := IntWalk.i64_in _ ⟨by omega, by omega⟩
    have iy : IntKind.i64.wrap ((ys : Int) + (p.1.2 : Nat)) = (ys : Int) + (p.1.2 : Nat) := IntWalk.i64_in _ ⟨by omega, by omega⟩
    have iacc : IntKind.i64.wrap (acc + kj) = acc + kj := IntWalk.i64_in _ ⟨by omega, by omega⟩
    have HSN := Lib.hid hsn
    have hmix : Tryz.prog.follows Departure.mixedOrders = true := by kernel_rfl
    obtain ⟨S, hSdef⟩ : ∃ S : World → Prop, S = fun w' => w'.cell? ⟨g2, 0, none⟩ = some (.int .i64 W) ∧ w'.cell? ⟨g2, 1, none⟩ = some (.int .i64 H) ∧ w'.cell? ⟨g2, 2, none⟩ = some (.slice (some ⟨ga, 0, none⟩) n n) ∧ w'.cell? ⟨Bx, 0, none⟩ = some (.int .i64 (p.1.1 : Nat)) ∧ w'.cell? ⟨Bx, 1, none⟩ = some (.int .i64 (p.1.2 : Nat)) ∧ w'.cell? ⟨g1, 0, none⟩ = some (.int .i64 s) ∧ w'.cell? ⟨w.heap.size, 0, none⟩ = some (.int .i64 X) ∧ w'.cell? ⟨w.heap.size, 1, none⟩ = some (.int .i64 Y) ∧ w'.cell? ⟨w.heap.size + 1, 0, none⟩ = some (.int .i64 acc) ∧ w'.frozen? ⟨w.heap.size + 1, 0, none⟩ = false := ⟨_, rfl⟩
    have hSof : ∀ Wx : World, Below W1.heap.size W1 Wx → S Wx := fun Wx h => by
      rw [hSdef]
      exact ⟨(h.cell (p := ⟨g2, 0, none⟩) (by show g2 < _; omega)).trans q0, (h.cell (p := ⟨g2, 1, none⟩) (by show g2 < _; omega)).trans q1, (h.cell (p := ⟨g2, 2, none⟩) (by show g2 < _; omega)).trans q2, (h.cell (p := ⟨Bx, 0, none⟩) hlB).trans hx0, (h.cell (p := ⟨Bx, 1, none⟩) hlB).trans hx1, (h.cell (p := ⟨g1, 0, none⟩) (by show g1 < _; omega)).trans hc1, (h.cell (p := ⟨w.heap.size, 0, none⟩) hl7).trans hy0, (h.cell (p := ⟨w.heap.size, 1, none⟩) hl7).trans hy1, (h.cell (p := ⟨w.heap.size + 1, 0, none⟩) hl8).trans ha0, (h.frozen (p := ⟨w.heap.size + 1, 0, none⟩) hl8).trans haf⟩
    have HSOF := Lib.hid hSof
    have HB8 := Lib.hid b8
    have HB7 := Lib.hid b7
    have HBX := Lib.hid bX
    have HB1 := Lib.hid hB1
    have hS : S W1.drew := hSof _ (Below.refl _ W1).drew
    clear hsn hacc hka hkj hbc hSof b8 b7 bX hB1 hx0 hx1 hy0 hy1 ha0 haf hc1 q0 q1 q2 hR1
    gi_upto_region 4 with fail
    refine wpIn_region_heldI S hmix ?_
    change wpAnyHIn _ _ _ _ _ _ _ 20 _ _ W1.drew
    refine wpAnyHIn_take (i := 0) (v := ?_) rfl (by kernel_rfl) (by kernel_rfl) (by kernel_rfl) (by kernel_rfl) (fun _ _ _ h => h) ⟨Or.inl ⟨by rfl, ?_⟩, fun _ => rfl⟩ hS ?_
    rotate_left 1
    · intro Wy hSy
      rw [hSdef] at hSy
      obtain ⟨s0, s1, s2, sx, sy, st, su, sv, sa, sb⟩ := hSy
      go_simp
      try with_reducible rfl
    try simp only [Act.put, List.setIfInBounds_toArray, List.set_cons_zero, List.set_cons_succ]
    refine wpAnyHIn_take (i := 1) (v := ?_) rfl (by kernel_rfl) (by kernel_rfl) (by kernel_rfl) (by kernel_rfl) (fun _ _ _ h => h) ⟨Or.inl ⟨by rfl, ?_⟩, fun _ => rfl⟩ hS ?_
    rotate_left 1
    · intro Wy hSy
      rw [hSdef] at hSy
      obtain ⟨s0, s1, s2, sx, sy, st, su, sv, sa, sb⟩ := hSy
      go_simp
      try with_reducible rfl
    try simp only [Act.put, List.setIfInBounds_toArray, List.set_cons_zero, List.set_cons_succ]
    refine wpAnyHIn_take (i := 2) (v := ?_) rfl (by kernel_rfl) (by kernel_rfl) (by kernel_rfl) (by kernel_rfl) (fun _ _ _ h => h) ⟨Or.inl ⟨by rfl, ?_⟩, fun _ => rfl⟩ hS ?_
    rotate_left 1
    · intro Wy hSy
      rw [hSdef] at hSy
      obtain ⟨s0, s1, s2, sx, sy, st, su, sv, sa, sb⟩ := hSy
      go_simp
      try with_reducible rfl
    try simp only [Act.put, List.setIfInBounds_toArray, List.set_cons_zero, List.set_cons_succ]
    refine wpAnyHIn_take (i := 3) (v := ?_) rfl (by kernel_rfl) (by kernel_rfl) (by kernel_rfl) (by kernel_rfl) (fun _ _ _ h => h) ⟨Or.inl ⟨by rfl, ?_⟩, fun _ => rfl⟩ hS ?_
    rotate_left 1
    · intro Wy hSy
      rw [hSdef] at hSy
      obtain ⟨s0, s1, s2, sx, sy, st, su, sv, sa, sb⟩ := hSy
      go_simp
      try with_reducible rfl
    try simp only [Act.put, List.setIfInBounds_toArray, List.set_cons_zero, List.set_cons_succ]
    refine wpAnyHIn_take (i := 4) (v := ?_) rfl (by kernel_rfl) (by kernel_rfl) (by kernel_rfl) (by kernel_rfl) (fun _ _ _ h => h) ⟨Or.inl ⟨by rfl, ?_⟩, fun _ => rfl⟩ hS ?_
    rotate_left 1
    · intro Wy hSy
      rw [hSdef] at hSy
      obtain ⟨s0, s1, s2, sx, sy, st, su, sv, sa, sb⟩ := hSy
      go_simp
      try with_reducible rfl
    try simp only [Act.put, List.setIfInBounds_toArray, List.set_cons_zero, List.set_cons_succ]
    refine wpAnyHIn_take (i := 5) (v := ?_) rfl (by kernel_rfl) (by kernel_rfl) (by kernel_rfl) (by kernel_rfl) (fun _ _ _ h => h) ⟨Or.inl ⟨by rfl, ?_⟩, fun _ => rfl⟩ hS ?_
    rotate_left 1
    · intro Wy hSy
      rw [hSdef] at hSy
      obtain ⟨s0, s1, s2, sx, sy, st, su, sv, sa, sb⟩ := hSy
      go_simp
      try with_reducible rfl
    try simp only [Act.put, List.setIfInBounds_toArray, List.set_cons_zero, List.set_cons_succ]
    refine wpAnyHIn_take (i := 6) (v := ?_) rfl (by kernel_rfl) (by kernel_rfl) (by kernel_rfl) (by kernel_rfl) (fun _ _ _ h => h) ⟨Or.inl ⟨by rfl, ?_⟩, fun _ => rfl⟩ hS ?_
    rotate_left 1
    · intro Wy hSy
      rw [hSdef] at hSy
      obtain ⟨s0, s1, s2, sx, sy, st, su, sv, sa, sb⟩ := hSy
      go_simp
      try with_reducible rfl
    try simp only [Act.put, List.setIfInBounds_toArray, List.set_cons_zero, List.set_cons_succ]
    refine wpAnyHIn_take (i := 7) (v := ?_) rfl (by kernel_rfl) (by kernel_rfl) (by kernel_rfl) (by kernel_rfl) (fun _ _ _ h => h) ⟨Or.inl ⟨by rfl, ?_⟩, fun _ => rfl⟩ hS ?_
    rotate_left 1
    · intro Wy hSy
      rw [hSdef] at hSy
      obtain ⟨s0, s1, s2, sx, sy, st, su, sv, sa, sb⟩ := hSy
      go_simp
      try with_reducible rfl
    try simp only [Act.put, List.setIfInBounds_toArray, List.set_cons_zero, List.set_cons_succ]
    refine wpAnyHIn_take (i := 8) (v := ?_) rfl (by kernel_rfl) (by kernel_rfl) (by kernel_rfl) (by kernel_rfl) (fun _ _ _ h => h) ⟨Or.inl ⟨by rfl, ?_⟩, fun _ => rfl⟩ hS ?_
    rotate_left 1
    · intro Wy hSy
      rw [hSdef] at hSy
      obtain ⟨s0, s1, s2, sx, sy, st, su, sv, sa, sb⟩ := hSy
      go_simp
      try with_reducible rfl
    try simp only [Act.put, List.setIfInBounds_toArray, List.set_cons_zero, List.set_cons_succ]
    refine wpAnyHIn_take (i := 9) (v := ?_) rfl (by kernel_rfl) (by kernel_rfl) (by kernel_rfl) (by kernel_rfl) (fun _ _ _ h => h) ⟨Or.inl ⟨by rfl, ?_⟩, fun _ => rfl⟩ hS ?_
    rotate_left 1
    · intro Wy hSy
      rw [hSdef] at hSy
      obtain ⟨s0, s1, s2, sx, sy, st, su, sv, sa, sb⟩ := hSy
      go_simp
      try with_reducible rfl
    try simp only [Act.put, List.setIfInBounds_toArray, List.set_cons_zero, List.set_cons_succ]
    refine wpAnyHIn_take (i := 10) (v := ?_) rfl (by kernel_rfl) (by kernel_rfl) (by kernel_rfl) (by kernel_rfl) (fun _ _ _ h => h) ⟨Or.inl ⟨by rfl, ?_⟩, fun _ => rfl⟩ hS ?_
    rotate_left 1
    · intro Wy hSy
      rw [hSdef] at hSy
      obtain ⟨s0, s1, s2, sx, sy, st, su, sv, sa, sb⟩ := hSy
      go_simp
      try with_reducible rfl
    try simp only [Act.put, List.setIfInBounds_toArray, List.set_cons_zero, List.set_cons_succ]
    refine wpAnyHIn_take (i := 11) (v := ?_) rfl (by kernel_rfl) (by kernel_rfl) (by kernel_rfl) (by kernel_rfl) (fun _ _ _ h => h) ⟨Or.inl ⟨by rfl, ?_⟩, fun _ => rfl⟩ hS ?_
    rotate_left 1
    · intro Wy hSy
      rw [hSdef] at hSy
      obtain ⟨s0, s1, s2, sx, sy, st, su, sv, sa, sb⟩ := hSy
      go_simp
      try with_reducible rfl
    try simp only [Act.put, List.setIfInBounds_toArray, List.set_cons_zero, List.set_cons_succ]
    refine wpAnyHIn_take (i := 12) (v := ?_) rfl (by kernel_rfl) (by kernel_rfl) (by kernel_rfl) (by kernel_rfl) (fun _ _ _ h => h) ⟨Or.inl ⟨by rfl, ?_⟩, fun _ => rfl⟩ hS ?_
    rotate_left 1
    · intro Wy hSy
      rw [hSdef] at hSy
      obtain ⟨s0, s1, s2, sx, sy, st, su, sv, sa, sb⟩ := hSy
      go_simp
      try with_reducible rfl
    try simp only [Act.put, List.setIfInBounds_toArray, List.set_cons_zero, List.set_cons_succ]
    refine wpAnyHIn_take (i := 13) (v := ?_) rfl (by kernel_rfl) (by kernel_rfl) (by kernel_rfl) (by kernel_rfl) (fun _ _ _ h => h) ⟨Or.inl ⟨by rfl, ?_⟩, fun _ => rfl⟩ hS ?_
    rotate_left 1
    · intro Wy hSy
      rw [hSdef] at hSy
      obtain ⟨s0, s1, s2, sx, sy, st, su, sv, sa, sb⟩ := hSy
      go_simp
      try with_reducible rfl
    try simp only [Act.put, List.setIfInBounds_toArray, List.set_cons_zero, List.set_cons_succ]
    refine wpAnyHIn_take (i := 14) (v := ?_) rfl (by kernel_rfl) (by kernel_rfl) (by kernel_rfl) (by kernel_rfl) (fun _ _ _ h => h) ⟨Or.inl ⟨by rfl, ?_⟩, fun _ => rfl⟩ hS ?_
    rotate_left 1
    · intro Wy hSy
      rw [hSdef] at hSy
      obtain ⟨s0, s1, s2, sx, sy, st, su, sv, sa, sb⟩ := hSy
      go_simp
      try with_reducible rfl
    try simp only [Act.put, List.setIfInBounds_toArray, List.set_cons_zero, List.set_cons_succ]
    refine wpAnyHIn_take (i := 15) (v := ?_) rfl (by kernel_rfl) (by kernel_rfl) (by kernel_rfl) (by kernel_rfl) (fun _ _ _ h => h) ⟨Or.inl ⟨by rfl, ?_⟩, fun _ => rfl⟩ hS ?_
    rotate_left 1
    · intro Wy hSy
      rw [hSdef] at hSy
      obtain ⟨s0, s1, s2, sx, sy, st, su, sv, sa, sb⟩ := hSy
      go_simp
      try with_reducible rfl
    try simp only [Act.put, List.setIfInBounds_toArray, List.set_cons_zero, List.set_cons_succ]
    refine wpAnyHIn_take (i := 16) (v := ?_) rfl (by kernel_rfl) (by kernel_rfl) (by kernel_rfl) (by kernel_rfl) (fun _ _ _ h => h) ⟨Or.inl ⟨by rfl, ?_⟩, fun _ => rfl⟩ hS ?_
    rotate_left 1
    · intro Wy hSy
      rw [hSdef] at hSy
      obtain ⟨s0, s1, s2, sx, sy, st, su, sv, sa, sb⟩ := hSy
      go_simp
      try with_reducible rfl
    try simp only [Act.put, List.setIfInBounds_toArray, List.set_cons_zero, List.set_cons_succ]
    refine wpAnyHIn_one (i := 17) (by kernel_rfl) rfl (fun K hK => ?_)
    go_simp
    refine ⟨trivial, ?_⟩
    gi_at_call 142
    refine (CallsIn.inRound l (callsIn_wide.2 (KAT.out _ (Below.refl _ W1).drew))).mono ?_
    rintro e W2 ⟨rfl, hb2⟩
    have hS := HSOF.out _ hb2
    try gi_wp2_with fail
    refine hK _ _ hS ?_
    clear hK K
    try simp only [Act.put, List.setIfInBounds_toArray, List.set_cons_zero, List.set_cons_succ]
    refine wpAnyHIn_take (i := 18) (v := ?_) rfl (by kernel_rfl) (by kernel_rfl) (by kernel_rfl) (by kernel_rfl) (fun _ _ _ h => h) ⟨Or.inl ⟨by rfl, ?_⟩, fun _ => rfl⟩ hS ?_
    rotate_left 1
    · intro Wy hSy
      rw [hSdef] at hSy
      obtain ⟨s0, s1, s2, sx, sy, st, su, sv, sa, sb⟩ := hSy
      go_simp
      try with_reducible rfl
    try simp only [Act.put, List.setIfInBounds_toArray, List.set_cons_zero, List.set_cons_succ]
    have hEF := hS
    rw [hSdef] at hEF
    obtain ⟨s0, s1, s2, sx, sy, st, su, sv, sa, sb⟩ := hEF
    refine wpAnyHIn_end (i := 19) (by kernel_rfl) rfl (by kernel_rfl) (by kernel_rfl) (fun K hK => ?_)
    go_simp
    refine hK _ _ ?_
    clear hK K
    try simp only [Act.put, List.setIfInBounds_toArray, List.set_cons_zero, List.set_cons_succ]
    gi_wp2
    have c8 : Boxed W2 (w.heap.size + 1) 3 (.int .i64 acc) := (hb2.block _ (lt_of_blk HB8.out)).trans HB8.out
    have c7 := (hb2.block _ (lt_of_blk HB7.out)).trans HB7.out
    have cW : Boxed W2 W0.heap.size 3 (.int .i64 s) := (hb2.block _ bW1.lt).trans bW1
    have nW : w.heap.size + 1 ≠ W0.heap.size := by omega
    have n7 : w.heap.size + 1 ≠ w.heap.size := by omega
    refine ⟨((KeepsOthers.of_below hb2).trans (KeepsOthers.setCell _ _ _)).from _, fun _ => Boxed.cell (blk_set_other cW nW _), ⟨?_, blk_set_other cW nW _, blk_set_other c7 n7 _⟩, (HB1.out.trans (hb2.mono hsz1)).setCell (p := ⟨w.heap.size + 1, 0, none⟩) (by show w.heap.size ≤ w.heap.size + 1; omega) _⟩
    rw [HSN.out]
    exact c8.set _
  case done =>
    rintro D qs W1 hD hys ⟨⟨b8, bW1, b7⟩, hB1⟩ hK
    rw [hys] at b8
    have ha0 : W1.cell? ⟨w.heap.size + 1, 0, none⟩ = some (.int .i64 (binTo W ks s X Y (placesTo s (s * s)))) := by rw [cell_of_row W1 _ 0 _ _ (0, 0) b8]; rfl
    clear b8
    go_wp2
    refine ⟨by simp, .inl ⟨_, _, rfl, run_takeDeferred hK, ?_⟩⟩
    exact ⟨_, by simp [results, Tryz.results154, go_sem], rfl, hB1.trans (belowK_b (w := w) (Nat.le_refl _) W1 D _ _ (by omega) hK rfl rfl)⟩
  case stop =>
    rintro D c pre W1 _ _ h _
    exact h.elim
end Go.Proofs.YtpmjiifdnnhecaaGreatDoor
