/-
  Contract of painted with another literal: the map whose integers the literal tells for each place.
-/
import Derived.Test.YtpmjiifdnnhecaaGreatDoorOaaXd
namespace Go.Proofs.YtpmjiifdnnhecaaGreatDoor
open Go.RowKit Go.Shelf
set_option linter.unusedVariables false
attribute [local go_sem] Oper.semAt_some

set_option maxRecDepth 100000 in
set_option maxHeartbeats 3200000 in
theorem painted_binned (W H : Nat) (hW : W ≤ 64) (hH : H ≤ 64) (g7 g8 : Nat) (w : World) (val : Nat × Nat → Int) (hval : ∀ p, (val p).natAbs ≤ 16384)
    (hcell : ∀ (p : Nat × Nat) (W1 : World), p.1 < W ∧ p.2 < H → Below w.heap.size w W1 → Calls Tryz.prog 154 #[.agg #[.int .i64 (p.1 : Nat), .int .i64 (p.2 : Nat)], .pointer (some ⟨g7, 0, none⟩), .pointer (some ⟨g8, 0, none⟩)] W1 fun e W' => e = .returned (.int .i64 (val p)) ∧ Below W1.heap.size W1 W') :
    CallsIn Fence.wide 6 Tryz.prog 138 #[.int .i64 W, .int .i64 H, .func (.func 154) #[] #[.pointer (some ⟨g7, 0, none⟩), .pointer (some ⟨g8, 0, none⟩)]] w fun e w' =>
      ∃ g, e = .returned (.tuple #[.agg #[.int .i64 W, .int .i64 H, .slice (some ⟨g, 0, none⟩) (W * H) (W * H)], .int .i64 0]) ∧ w'.ownsRow w.heap.size 119 1 (.slice (some ⟨g, 0, none⟩) (W * H) (W * H)) (W * H) ((placesTo W (H * W)).map (fun p => Value.float .f32 (smpOf (val p)))) ∧ Below w.heap.size w w' := by
  obtain ⟨i0, hi, hz0, hz1, hz2⟩ := info_parts Tryz.infoInt
  have hro : Fence.wide.round = none := rfl
  have i1 : ((W : Int) ≤ 64) := by omega
  have i2 : ((H : Int) ≤ 64) := by omega
  have hm : W * H ≤ 4096 := Nat.le_trans (Nat.mul_le_mul hW hH) (by decide)
  obtain ⟨N, hN⟩ : ∃ N : Nat, W * H = N := ⟨_, rfl⟩
  have i3 : (W : Int) * (H : Int) = (N : Int) := by rw [← hN]; push_cast; rfl
  have i4 : IntKind.i64.wrap (N : Int) = (N : Int) := IntWalk.i64_in _ ⟨by omega, by omega⟩
  have i5 : (N : Int) ≤ 4096 := by omega
  rw [hN] at hm ⊢
  have HN := Lib.hid hN
  have HV := Lib.hid hval
  have HCL := Lib.hid hcell
  clear hN hval hcell
  refine callsIn_of_wp_marks Tryz.func138 rfl trivial ?_ hro
  simp only [Tryz.ntmps138, List.size_toArray, List.length_cons, List.length_nil, Nat.reduceAdd, Nat.reduceSub, Array.replicate_succ, Array.replicate_zero, List.push_toArray, List.append_toArray, List.nil_append, List.cons_append]
  gi_wp2_with (first
    | (gi_at_make; refine wpListIn_make_own _ rfl _ _ 157 rfl w.heap.size 3 i0 (.int .i64 0) 1 Tryz.underlying157 hi hz0 hz1 _ _ _ N rfl rfl (by omega) (by rw [hz2]; omega) (by unfold maxLen; omega) (by simp; omega) ?_; intro w0 hown0 hgrow0)
    | (refine ⟨trivial, ?_⟩; gi_at_call 149; refine (places_in Fence.wide _ trivial hro _ _ _).mono ?_; rintro e w' ⟨rfl, rfl⟩))
  have hz0' : w.heap.size + 2 < w0.heap.size := by
    rcases hown0.2 with ⟨h, _⟩ | ⟨g, cap, cur, e, _, hg, _⟩
    · cases h
    · have := (Array.getElem?_eq_some_iff.1 hg).1; simp at e; omega
  have hBw : Below w.heap.size w w0 := (((Below.refl _ w).alloc (Nat.le_refl _) _).alloc (by simp) _).grown hgrow0 (by simp; omega) (fun k h => by cases h)
  have bF0 : Boxed w0 w.heap.size 231 (.func (.func 154) #[] #[.pointer (some ⟨g7, 0, none⟩), .pointer (some ⟨g8, 0, none⟩)]) :=
    ((Boxed.new w 231 _).alloc _).kept hgrow0 (by simp)
  have bM0 : w0.heap[w.heap.size + 1]? = some (.cells #[.int .i64 0, .int .i64 0, .slice none 0 0] 121 (0, 0)) :=
    (hgrow0.block _ (by simp) (by simp)).trans (heap_alloc2_new w _ _)
  obtain ⟨W0, hW0⟩ : ∃ W0, ((w0.alloc (.cells #[.slice (some ⟨w.heap.size + 1 + 1, 0, none⟩) 0 N] 157)).alloc (.cells #[.int .i64 W] 3)).alloc (.cells #[.int .i64 H] 3) = W0 := ⟨_, rfl⟩
  have hS0 : W0.heap.size = w0.heap.size + 3 := by rw [← hW0]; simp
  have bS : Boxed W0 w0.heap.size 157 (.slice (some ⟨w.heap.size + 1 + 1, 0, none⟩) 0 N) := by rw [← hW0]; exact ((Boxed.new w0 _ _).alloc _).alloc _
  have bF : Boxed W0 w.heap.size 231 (.func (.func 154) #[] #[.pointer (some ⟨g7, 0, none⟩), .pointer (some ⟨g8, 0, none⟩)]) := by rw [← hW0]; exact ((bF0.alloc _).alloc _).alloc _
  have bM : W0.heap[w.heap.size + 1]? = some (.cells #[.int .i64 0, .int .i64 0, .slice none 0 0] 121 (0, 0)) := by
    rw [← hW0, Below.heap_alloc _ _ _ (by simp; omega), Below.heap_alloc _ _ _ (by simp; omega), Below.heap_alloc _ _ _ (by omega)]; exact bM0
  have bW : Boxed W0 (w0.heap.size + 1) 3 (.int .i64 W) := by
    rw [← hW0]; have := (Boxed.new (w0.alloc (.cells #[.slice (some ⟨w.heap.size + 1 + 1, 0, none⟩) 0 N] 157)) 3 (.int .i64 W)).alloc (.cells #[.int .i64 H] 3); simpa using this
  have bH : Boxed W0 (w0.heap.size + 1 + 1) 3 (.int .i64 H) := by
    rw [← hW0]; have := (Boxed.new ((w0.alloc (.cells #[.slice (some ⟨w.heap.size + 1 + 1, 0, none⟩) 0 N] 157)).alloc (.cells #[.int .i64 W] 3)) 3 (.int .i64 H)); simpa using this
  have hown : W0.ownsRow w.heap.size 3 1 (.slice (some ⟨w.heap.size + 1 + 1, 0, none⟩) 0 N) 0 [] := by rw [← hW0]; have h0 := hown0; simp only [World.size_alloc] at h0; exact ((h0.alloc _).alloc _).alloc _
  have hB0 : Below w.heap.size w W0 := by rw [← hW0]; exact ((hBw.alloc (by omega) _).alloc (by simp; omega) _).alloc (by simp; omega) _
  rw [hW0]
  clear hW0 hown0 hgrow0 bF0 bM0 hBw
  refine wpIn_rangeFunc_ownH hro (by omega) (gf := 201) (lb := #[.pointer (some ⟨w0.heap.size + 1 + 1, 0, none⟩), .pointer (some ⟨w0.heap.size + 1, 0, none⟩)]) rfl trivial (enters_of Tryz.func201 (by kernel_rfl) rfl)
    (places_stops Fence.wide (6 - 1) trivial hro (by omega) (w0.heap.size + 1 + 1) (w0.heap.size + 1) W H hW hH W0 (by omega) (by omega) bH.cell bW.cell) KeepsWide.t KeepsWide.b (Below.refl _ _) (fun _ => rfl)
    (fun pre W1 => ((∃ v, Boxed W1 w0.heap.size 157 v ∧ W1.ownsRow w.heap.size 3 1 v pre.length (pre.map (fun p => Value.int .i64 (val p.1))) ∧ v = .slice (some ⟨w.heap.size + 1 + 1, 0, none⟩) pre.length N) ∧ (Boxed W1 (w0.heap.size + 1) 3 (.int .i64 W) ∧ Boxed W1 w.heap.size 231 (.func (.func 154) #[] #[.pointer (some ⟨g7, 0, none⟩), .pointer (some ⟨g8, 0, none⟩)]) ∧ W1.heap[w.heap.size + 1]? = some (.cells #[.int .i64 0, .int .i64 0, .slice none 0 0] 121 (0, 0)))) ∧ Below w.heap.size w W1)
    (fun _ _ _ => False)
    (OwnFrom.and (OwnFrom.and (Own.from (holdsRow_own w.heap.size w0.heap.size 157 3 1 (fun pre : List (Pl W H) => pre.length) (fun pre => pre.map (fun p => Value.int .i64 (val p.1))) (fun pre v => v = .slice (some ⟨w.heap.size + 1 + 1, 0, none⟩) pre.length N)) _) (OwnFrom.and (Own.from (boxed_own _ _ (fun _ => .int .i64 W)) _) (OwnFrom.and (Own.from (boxed_own _ _ (fun _ => (.func (.func 154) #[] #[.pointer (some ⟨g7, 0, none⟩), .pointer (some ⟨g8, 0, none⟩)]))) _) (Own.from (row_own _ _ _) _)))) (ownFrom_below (Nat.le_refl _) (by omega)))
    (fun _ _ _ _ _ hs _ _ => hs)
    ⟨⟨⟨_, bS, hown, rfl⟩, bW, bF, bM⟩, hB0⟩
    (fun p a' W1 => ∃ Bx, w0.heap.size < Bx ∧ W1.heap[Bx]? = some (.cells #[.int .i64 (p.1.1 : Nat), .int .i64 (p.1.2 : Nat)] 124 (0, 0)) ∧ a' = { tmps := #[.int .i64 W, .int .i64 H, .func (.func 154) #[] #[.pointer (some ⟨g7, 0, none⟩), .pointer (some ⟨g8, 0, none⟩)], undef, undef, .pointer (some ⟨w.heap.size, 0, none⟩), .pointer (some ⟨w.heap.size + 1, 0, none⟩), .int .i64 0, .pointer (some ⟨w0.heap.size, 0, none⟩), .pointer (some ⟨Bx, 0, none⟩), .int .i64 W, .int .i64 H, .int .i64 N, .slice (some ⟨w.heap.size + 1 + 1, 0, none⟩) 0 N, .int .i64 W, .int .i64 H, .func (.func 201) #[] #[.pointer (some ⟨w0.heap.size + 1 + 1, 0, none⟩), .pointer (some ⟨w0.heap.size + 1, 0, none⟩)], .agg #[.int .i64 (p.1.1 : Nat), .int .i64 (p.1.2 : Nat)], undef, undef, undef, undef, undef, undef, undef, undef, undef, undef, undef, undef, undef], defers := [] })
    (fun p a' _ X Y row hs hg hr => by obtain ⟨Bx, h1, h2, h3⟩ := hs; exact ⟨Bx, h1, row_own (β := Unit) Bx _ _ () X Y row h2 hg (fun r e => (hr r e).2), h3⟩)
    ?assign ?body ?done ?stop
  case assign =>
    rintro l pre p W1 K ⟨⟨⟨v, hv, hrow, rfl⟩, bW1, bF1, bM1⟩, hB1⟩ hK
    have hsz1 := hB1.size
    have hlw := bW1.lt
    gi_wp2
    exact hK _ _ ((KeepsOthers.alloc _ _).from _) (KeepsWide.of_below ((Below.refl _ W1).alloc (Nat.le_refl _) _) bW1.lt)
      ⟨⟨⟨_, hv.alloc _, hrow.alloc _, rfl⟩, bW1.alloc _, bF1.alloc _, (Below.heap_alloc _ _ _ (by omega)).trans bM1⟩, hB1.alloc hB1.size _⟩ ⟨W1.heap.size, hv.lt, heap_alloc_new W1 _, rfl⟩
  case body =>
    rintro l pre p a' W1 hl ⟨r, hr⟩ ⟨⟨⟨v, hv, hrow, rfl⟩, bW1, bF1, bM1⟩, hB1⟩ ⟨Bx, hBx, bX, rfl⟩ hlt
    have hsz1 := hB1.size
    have hN1 : pre.length < N := by have := HN.out; omega
    have cS := hv.cell
    have cF := bF1.cell
    have cX0 : W1.cell? ⟨Bx, 0, none⟩ = some (.int .i64 (p.1.1 : Nat)) := by rw [cell_of_row W1 Bx 0 _ _ (0, 0) bX]; rfl
    have cX1 : W1.cell? ⟨Bx, 1, none⟩ = some (.int .i64 (p.1.2 : Nat)) := by rw [cell_of_row W1 Bx 1 _ _ (0, 0) bX]; rfl
    have K := Lib.hid (HCL.out p.1 W1.drew p.2 hB1.drew)
    gi_wp2_with fail
    have hmix : Tryz.prog.follows Departure.mixedOrders = true := by kernel_rfl
    gi_region_with_o
      ((refine ⟨trivial, ?_⟩; gi_at_call 154; refine (CallsIn.inRound l (callsIn_wide.2 K.out)).mono ?_; rintro e W2 ⟨rfl, hb2⟩
        have hv2 : Boxed W2 w0.heap.size 157 (.slice (some ⟨w.heap.size + 1 + 1, 0, none⟩) pre.length N) := (hb2.block _ hv.lt).trans hv
        have cS2 := hv2.cell
        have fS2 := hv2.frozen
        have hrow2 : W2.ownsRow w.heap.size 3 1 (.slice (some ⟨w.heap.size + 1 + 1, 0, none⟩) pre.length N) pre.length (pre.map (fun p => Value.int .i64 (val p.1))) := owns_kept (w := W1.drew) hrow hb2 (Nat.le_refl _)
        have hs2 := hb2.size
        have hne1 : ¬ (w0.heap.size = w.heap.size + 1 + 1) := by omega
        have hne2 : ¬ (w.heap.size + 1 + 1 = w0.heap.size) := by omega
        have hlv := hv2.lt
        obtain ⟨u, hu, fu, hul⟩ := owns_room hrow2 hN1
        have hu' : (W2.alloc (.cells #[.int .i64 (val p.1)] 3)).cell? ⟨w.heap.size + 1 + 1, pre.length, none⟩ = some u := (((Below.refl _ W2).alloc (Nat.le_refl _) _).cell hul).trans hu
        have fu' : (W2.alloc (.cells #[.int .i64 (val p.1)] 3)).frozen? ⟨w.heap.size + 1 + 1, pre.length, none⟩ = false := (((Below.refl _ W2).alloc (Nat.le_refl _) _).frozen hul).trans fu
        have hv3 : Boxed ((W2.alloc (.cells #[.int .i64 (val p.1)] 3)).setCell ⟨w.heap.size + 1 + 1, pre.length, none⟩ (.int .i64 (val p.1))) w0.heap.size 157 (.slice (some ⟨w.heap.size + 1 + 1, 0, none⟩) pre.length N) :=
          (hv2.alloc _).kept (OnlyBlk.set _ (w.heap.size + 1 + 1) pre.length _).1 (fun e => hne1 (Option.some.inj e))
        have cS3 := hv3.cell
        have fS3 := hv3.frozen))
    all_goals
      gi_wp2
      have q1 := OnlyBlk.set W2 (w.heap.size + 1 + 1) pre.length (.int .i64 (val p.1))
      have q2 := OnlyBlk.set (W2.setCell ⟨w.heap.size + 1 + 1, pre.length, none⟩ (.int .i64 (val p.1))) w0.heap.size 0 (.slice (some ⟨w.heap.size + 1 + 1, 0, none⟩) (pre.length + 1) N)
      have hgb : Below w.heap.size W1 (((W2.setCell ⟨w.heap.size + 1 + 1, pre.length, none⟩ (.int .i64 (val p.1))).setCell ⟨w0.heap.size, 0, none⟩ (.slice (some ⟨w.heap.size + 1 + 1, 0, none⟩) (pre.length + 1) N)).alloc (.cells #[.int .i64 (val p.1)] 3)) :=
        ((((Below.refl _ W1).drew.trans (hb2.mono hsz1)).setCell (p := ⟨w.heap.size + 1 + 1, pre.length, none⟩) (by show w.heap.size ≤ w.heap.size + 1 + 1; omega) _).setCell (p := ⟨w0.heap.size, 0, none⟩) (by show w.heap.size ≤ w0.heap.size; omega) _).alloc (by rw [q2.2, q1.2]; exact Nat.le_trans hsz1 hs2) _
      have bW2 : Boxed W2 (w0.heap.size + 1) 3 (.int .i64 W) := (hb2.block _ bW1.lt).trans bW1
      have bF2 : Boxed W2 w.heap.size _ _ := (hb2.block _ bF1.lt).trans bF1
      have bM2 := (hb2.block _ (Array.getElem?_eq_some_iff.1 bM1).1).trans bM1
      have lM2 := (Array.getElem?_eq_some_iff.1 bM2).1
      have bW3 := ((bW2.kept q1.1 (fun e => by have := Option.some.inj e; omega)).kept q2.1 (fun e => by have := Option.some.inj e; omega)).alloc (.cells #[.int .i64 (val p.1)] 3)
      have bF3 := ((bF2.kept q1.1 (fun e => by have := Option.some.inj e; omega)).kept q2.1 (fun e => by have := Option.some.inj e; omega)).alloc (.cells #[.int .i64 (val p.1)] 3)
      have bS3 := ((hv2.kept q1.1 (fun e => hne1 (Option.some.inj e))).set (.slice (some ⟨w.heap.size + 1 + 1, 0, none⟩) (pre.length + 1) N)).alloc (.cells #[.int .i64 (val p.1)] 3)
      refine ⟨(((((KeepsOthers.drew W1).trans (KeepsOthers.of_below hb2)).trans (KeepsOthers.setCell _ _ _)).trans (KeepsOthers.setCell _ _ _)).trans (KeepsOthers.alloc _ _)).from _, fun _ => bW3.cell,
        ⟨⟨⟨.slice (some ⟨w.heap.size + 1 + 1, 0, none⟩) (pre.length + 1) N, bS3, ?_, by simp⟩, bW3, bF3, ?_⟩, hB1.trans hgb⟩⟩
      · rw [List.map_append, List.length_append]
        exact ((owns_put hrow2 hN1 _).kept q2.1 (.inr (fun e => hne1 (Option.some.inj e.symm)))).alloc _
      · rw [Below.heap_alloc _ _ _ (by rw [q2.2, q1.2]; exact lM2), q2.1.block _ (by rw [q1.2]; exact lM2) (fun e => by have := Option.some.inj e; omega), q1.1.block _ lM2 (fun e => by have := Option.some.inj e; omega)]
        exact bM2
  case done =>
    rintro D ys W1 hD hys ⟨⟨⟨v, hv, hrow, rfl⟩, bW1, bF1, bM1⟩, hB1⟩ hK
    have hlen : (placesTo W (H * W)).length = N := by rw [placesTo_len, Nat.mul_comm]; exact HN.out
    have hlen' : ys.length = N := by rw [← hlen, ← hys, List.length_map]
    have hval' : ys.map (fun p => Value.int .i64 (val p.1)) = (placesTo W (H * W)).map (fun p => Value.int .i64 (val p)) := by rw [← hys, List.map_map]; rfl
    rw [hlen'] at hv hrow
    rw [hval'] at hrow
    clear hval' hlen' hys
    have cS := hv.cell
    have hsz1 := hB1.size
    have hgl : w.heap.size + 1 + 1 < W1.heap.size := (owns_room' hrow).2
    have T := Lib.hid (toMap_any W H (w.heap.size + 1 + 1) 0 N N ((placesTo W (H * W)).map val) (by rw [List.length_map]; exact hlen) hm W1 hgl (fun j hj => by
        rw [Nat.zero_add]
        refine owns_cell hrow ?_
        rw [List.getElem?_map, List.getElem?_map, List.getElem?_eq_getElem (by omega)]; rfl)
      (fun j hj => by rw [List.getElem?_map, List.getElem?_eq_getElem (by omega)]; exact HV.out _))
    have m0 : W1.cell? ⟨w.heap.size + 1, 0, none⟩ = some (.int .i64 0) := by rw [cell_of_row W1 (w.heap.size + 1) 0 _ _ (0, 0) bM1]; rfl
    have m1 : W1.cell? ⟨w.heap.size + 1, 1, none⟩ = some (.int .i64 0) := by rw [cell_of_row W1 (w.heap.size + 1) 1 _ _ (0, 0) bM1]; rfl
    have m2 : W1.cell? ⟨w.heap.size + 1, 2, none⟩ = some (.slice none 0 0) := by rw [cell_of_row W1 (w.heap.size + 1) 2 _ _ (0, 0) bM1]; rfl
    have fm : ∀ j, W1.frozen? ⟨w.heap.size + 1, j, none⟩ = false := fun j => by simp [World.frozen?, bM1]
    have lM := (Array.getElem?_eq_some_iff.1 bM1).1
    gi_wp2_with
      ((refine ⟨trivial, ?_⟩; gi_at_call 153; refine (callsIn_wide.2 T.out).mono ?_; rintro e w2 ⟨rfl, hown2, hb2⟩
        have s0 : w2.cell? ⟨w.heap.size + 1, 0, none⟩ = some (.int .i64 0) := (hb2.cell lM).trans m0
        have s1 : w2.cell? ⟨w.heap.size + 1, 1, none⟩ = some (.int .i64 0) := (hb2.cell lM).trans m1
        have s2 : w2.cell? ⟨w.heap.size + 1, 2, none⟩ = some (.slice none 0 0) := (hb2.cell lM).trans m2
        have f0 : w2.frozen? ⟨w.heap.size + 1, 0, none⟩ = false := (hb2.frozen lM).trans (fm 0)
        have f1 : w2.frozen? ⟨w.heap.size + 1, 1, none⟩ = false := (hb2.frozen lM).trans (fm 1)
        have f2 : w2.frozen? ⟨w.heap.size + 1, 2, none⟩ = false := (hb2.frozen lM).trans (fm 2)))
    have rM2 := (hb2.block _ lM).trans bM1
    obtain ⟨WF, hWF⟩ : ∃ WF, ((w2.setCell ⟨w.heap.size + 1, 0, none⟩ (.int .i64 W)).setCell ⟨w.heap.size + 1, 1, none⟩ (.int .i64 H)).setCell ⟨w.heap.size + 1, 2, none⟩ (.slice (some ⟨W1.heap.size + 2, 0, none⟩) N N) = WF := ⟨_, rfl⟩
    have rF : WF.heap[w.heap.size + 1]? = some (.cells #[.int .i64 W, .int .i64 H, .slice (some ⟨W1.heap.size + 2, 0, none⟩) N N] 121 (0, 0)) := by
      rw [← hWF]
      simp only [World.setCell, Array.getElem?_modify, if_true, rM2, Option.map_some]
      simp
    have kF : WF.heap[D]? = some (.deferred (some [])) := by
      rw [← hWF]
      exact ((((KeepsOthers.of_below hb2).trans (KeepsOthers.setCell _ _ _)).trans (KeepsOthers.setCell _ _ _)).trans (KeepsOthers.setCell _ _ _)).same D _ hK rfl
    have oF : WF.ownsRow w.heap.size 119 1 (.slice (some ⟨W1.heap.size + 2, 0, none⟩) N N) N ((placesTo W (H * W)).map (fun p => Value.float .f32 (smpOf (val p)))) := by
      rw [← hWF]
      rw [List.map_map] at hown2
      exact owns_base (ownsRow_setCell_below (ownsRow_setCell_below (ownsRow_setCell_below hown2 (by show w.heap.size + 1 < _; omega) _) (by show w.heap.size + 1 < _; omega) _) (by show w.heap.size + 1 < _; omega) _) (by omega)
    have bF9 : Below w.heap.size w WF := by
      rw [← hWF]
      exact (((hB1.trans (hb2.mono hsz1)).setCell (p := ⟨w.heap.size + 1, 0, none⟩) (by show w.heap.size ≤ w.heap.size + 1; omega) _).setCell (p := ⟨w.heap.size + 1, 1, none⟩) (by show w.heap.size ≤ w.heap.size + 1; omega) _).setCell (p := ⟨w.heap.size + 1, 2, none⟩) (by show w.heap.size ≤ w.heap.size + 1; omega) _
    have nD : w.heap.size + 1 ≠ D := fun e => by rw [← e, rF] at kF; cases kF
    try rw [hWF]
    refine ⟨by simp, .inl ⟨_, _, rfl, run_takeDeferred kF, ?_⟩⟩
    exact ⟨_, results_row_tmp Tryz.results138 _ _ (w.heap.size + 1) 121 _ (0, 0) _ rfl ((World.putObj_heap_other nD).trans rF) Tryz.underlying121 rfl (by kernel_rfl), _, rfl, ownsRow_putObj oF _ kF rfl, bF9.trans (belowK_b (w := w) (Nat.le_refl _) WF D _ _ (by omega) kF rfl rfl)⟩
  case stop =>
    rintro D c pre W1 _ _ h _
    exact h.elim
end Go.Proofs.YtpmjiifdnnhecaaGreatDoor
