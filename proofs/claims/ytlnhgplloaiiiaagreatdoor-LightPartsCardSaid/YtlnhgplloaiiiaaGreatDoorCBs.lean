/-
  Contract of painted with Added's literal where an integer is that of no sample: the error.
-/
import Derived.Test.YtlnhgplloaiiiaaGreatDoorCBn
import Derived.Test.YtlnhgplloaiiiaaGreatDoorCXd
import Derived.Test.YtlnhgplloaiiiaaGreatDoorCXh
namespace Go.Proofs.YtlnhgplloaiiiaaGreatDoor
open Go.RowKit Go.Shelf
set_option linter.unusedVariables false
attribute [local go_sem] Oper.semAt_some

set_option maxRecDepth 100000 in
set_option maxHeartbeats 3200000 in
theorem painted_added_large (W H : Nat) (hW : W ≤ 64) (hH : H ≤ 64) (g7 g8 : Nat) (w : World) (val : Nat × Nat → Int) (hval : ¬ ∀ j, j < W * H → (((placesTo W (H * W)).map val)[j]?.getD 0).natAbs ≤ 16384)
    (hcell : ∀ (p : Nat × Nat) (W1 : World), p.1 < W ∧ p.2 < H → Below w.heap.size w W1 → Calls Tryz.prog 121 #[.agg #[.int .i64 (p.1 : Nat), .int .i64 (p.2 : Nat)], .pointer (some ⟨g7, 0, none⟩), .pointer (some ⟨g8, 0, none⟩)] W1 fun e W' => e = .returned (.int .i64 (val p)) ∧ Below W1.heap.size W1 W') :
    CallsIn Fence.wide 6 Tryz.prog 115 #[.int .i64 W, .int .i64 H, .func (.func 121) #[] #[.pointer (some ⟨g7, 0, none⟩), .pointer (some ⟨g8, 0, none⟩)]] w fun e w' =>
      e = .returned (.tuple #[.agg #[.int .i64 0, .int .i64 0, .slice none 0 0], .int .i64 4]) ∧ Below w.heap.size w w' := by
  obtain ⟨i0, hi, hz0, hz1, hz2⟩ := info_parts Tryz.infoInt
  have hro : Fence.wide.round = none := rfl
  have i1 : ((W : Int) ≤ 64) := by omega
  have i2 : ((H : Int) ≤ 64) := by omega
  have hm : W * H ≤ 4096 := Nat.le_trans (Nat.mul_le_mul hW hH) (by decide)
  obtain ⟨N, hN⟩ : ∃ N : Nat, W * H = N := ⟨_, rfl⟩
  have i3 : (W : Int) * (H : Int) = (N : Int) := by rw [← hN]; push_cast; rfl
  have i4 : IntKind.i64.wrap (N : Int) = (N : Int) := IntWalk.i64_in _ ⟨by omega, by omega⟩
  have i5 : (N : Int) ≤ 4096 := by omega
  rw [hN] at hm hval
  have HN := Lib.hid hN
  have HV := Lib.hid hval
  have HCL := Lib.hid hcell
  clear hN hval hcell
  refine callsIn_of_wp_marks Tryz.func115 rfl trivial ?_ hro
  simp only [Tryz.ntmps115, List.size_toArray, List.length_cons, List.length_nil, Nat.reduceAdd, Nat.reduceSub, Array.replicate_succ, Array.replicate_zero, List.push_toArray, List.append_toArray, List.nil_append, List.cons_append]
  gi_wp2_with (first
    | (gi_at_make; refine wpListIn_make_own _ rfl _ _ 25 rfl w.heap.size 3 i0 (.int .i64 0) 1 Tryz.underlying25 hi hz0 hz1 _ _ _ N rfl rfl (by omega) (by rw [hz2]; omega) (by unfold maxLen; omega) (by simp; omega) ?_; intro w0 hown0 hgrow0)
    | (refine ⟨trivial, ?_⟩; gi_at_call 110; refine (places_in Fence.wide _ trivial hro _ _ _).mono ?_; rintro e w' ⟨rfl, rfl⟩))
  have hz0' : w.heap.size + 2 < w0.heap.size := by
    rcases hown0.2 with ⟨h, _⟩ | ⟨g, cap, cur, e, _, hg, _⟩
    · cases h
    · have := (Array.getElem?_eq_some_iff.1 hg).1; simp at e; omega
  have hBw : Below w.heap.size w w0 := (((Below.refl _ w).alloc (Nat.le_refl _) _).alloc (by simp) _).grown hgrow0 (by simp; omega) (fun k h => by cases h)
  have bF0 : Boxed w0 w.heap.size 168 (.func (.func 121) #[] #[.pointer (some ⟨g7, 0, none⟩), .pointer (some ⟨g8, 0, none⟩)]) :=
    ((Boxed.new w 168 _).alloc _).kept hgrow0 (by simp)
  have bM0 : w0.heap[w.heap.size + 1]? = some (.cells #[.int .i64 0, .int .i64 0, .slice none 0 0] 54 (0, 0)) :=
    (hgrow0.block _ (by simp) (by simp)).trans (heap_alloc2_new w _ _)
  obtain ⟨W0, hW0⟩ : ∃ W0, ((w0.alloc (.cells #[.slice (some ⟨w.heap.size + 1 + 1, 0, none⟩) 0 N] 25)).alloc (.cells #[.int .i64 W] 3)).alloc (.cells #[.int .i64 H] 3) = W0 := ⟨_, rfl⟩
  have hS0 : W0.heap.size = w0.heap.size + 3 := by rw [← hW0]; simp
  have bS : Boxed W0 w0.heap.size 25 (.slice (some ⟨w.heap.size + 1 + 1, 0, none⟩) 0 N) := by rw [← hW0]; exact ((Boxed.new w0 _ _).alloc _).alloc _
  have bF : Boxed W0 w.heap.size 168 (.func (.func 121) #[] #[.pointer (some ⟨g7, 0, none⟩), .pointer (some ⟨g8, 0, none⟩)]) := by rw [← hW0]; exact ((bF0.alloc _).alloc _).alloc _
  have bM : W0.heap[w.heap.size + 1]? = some (.cells #[.int .i64 0, .int .i64 0, .slice none 0 0] 54 (0, 0)) := by
    rw [← hW0, Below.heap_alloc _ _ _ (by simp; omega), Below.heap_alloc _ _ _ (by simp; omega), Below.heap_alloc _ _ _ (by omega)]; exact bM0
  have bW : Boxed W0 (w0.heap.size + 1) 3 (.int .i64 W) := by
    rw [← hW0]; have := (Boxed.new (w0.alloc (.cells #[.slice (some ⟨w.heap.size + 1 + 1, 0, none⟩) 0 N] 25)) 3 (.int .i64 W)).alloc (.cells #[.int .i64 H] 3); simpa using this
  have bH : Boxed W0 (w0.heap.size + 1 + 1) 3 (.int .i64 H) := by
    rw [← hW0]; have := (Boxed.new ((w0.alloc (.cells #[.slice (some ⟨w.heap.size + 1 + 1, 0, none⟩) 0 N] 25)).alloc (.cells #[.int .i64 W] 3)) 3 (.int .i64 H)); simpa using this
  have hown : W0.ownsRow w.heap.size 3 1 (.slice (some ⟨w.heap.size + 1 + 1, 0, none⟩) 0 N) 0 [] := by rw [← hW0]; have h0 := hown0; simp only [World.size_alloc] at h0; exact ((h0.alloc _).alloc _).alloc _
  have hB0 : Below w.heap.size w W0 := by rw [← hW0]; exact ((hBw.alloc (by omega) _).alloc (by simp; omega) _).alloc (by simp; omega) _
  rw [hW0]
  clear hW0 hown0 hgrow0 bF0 bM0 hBw
  refine wpIn_rangeFunc_ownH hro (by omega) (gf := 171) (lb := #[.pointer (some ⟨w0.heap.size + 1 + 1, 0, none⟩), .pointer (some ⟨w0.heap.size + 1, 0, none⟩)]) rfl trivial (enters_of Tryz.func171 (by kernel_rfl) rfl)
    (places_stops Fence.wide (6 - 1) trivial hro (by omega) (w0.heap.size + 1 + 1) (w0.heap.size + 1) W H hW hH W0 (by omega) (by omega) bH.cell bW.cell) KeepsWide.t KeepsWide.b (Below.refl _ _) (fun _ => rfl)
    (fun pre W1 => ((∃ v, Boxed W1 w0.heap.size 25 v ∧ W1.ownsRow w.heap.size 3 1 v pre.length (pre.map (fun p => Value.int .i64 (val p.1))) ∧ v = .slice (some ⟨w.heap.size + 1 + 1, 0, none⟩) pre.length N) ∧ (Boxed W1 (w0.heap.size + 1) 3 (.int .i64 W) ∧ Boxed W1 w.heap.size 168 (.func (.func 121) #[] #[.pointer (some ⟨g7, 0, none⟩), .pointer (some ⟨g8, 0, none⟩)]) ∧ W1.heap[w.heap.size + 1]? = some (.cells #[.int .i64 0, .int .i64 0, .slice none 0 0] 54 (0, 0)))) ∧ Below w.heap.size w W1)
    (fun _ _ _ => False)
    (OwnFrom.and (OwnFrom.and (Own.from (holdsRow_own w.heap.size w0.heap.size 25 3 1 (fun pre : List (Pl W H) => pre.length) (fun pre => pre.map (fun p => Value.int .i64 (val p.1))) (fun pre v => v = .slice (some ⟨w.heap.size + 1 + 1, 0, none⟩) pre.length N)) _) (OwnFrom.and (Own.from (boxed_own _ _ (fun _ => .int .i64 W)) _) (OwnFrom.and (Own.from (boxed_own _ _ (fun _ => (.func (.func 121) #[] #[.pointer (some ⟨g7, 0, none⟩), .pointer (some ⟨g8, 0, none⟩)]))) _) (Own.from (row_own _ _ _) _)))) (ownFrom_below (Nat.le_refl _) (by omega)))
    (fun _ _ _ _ _ hs _ _ => hs)
    ⟨⟨⟨_, bS, hown, rfl⟩, bW, bF, bM⟩, hB0⟩
    (fun p a' W1 => ∃ Bx, w0.heap.size < Bx ∧ W1.heap[Bx]? = some (.cells #[.int .i64 (p.1.1 : Nat), .int .i64 (p.1.2 : Nat)] 50 (0, 0)) ∧ a' = { tmps := #[.int .i64 W, .int .i64 H, .func (.func 121) #[] #[.pointer (some ⟨g7, 0, none⟩), .pointer (some ⟨g8, 0, none⟩)], undef, undef, .pointer (some ⟨w.heap.size, 0, none⟩), .pointer (some ⟨w.heap.size + 1, 0, none⟩), .int .i64 0, .pointer (some ⟨w0.heap.size, 0, none⟩), .pointer (some ⟨Bx, 0, none⟩), .int .i64 W, .int .i64 H, .int .i64 N, .slice (some ⟨w.heap.size + 1 + 1, 0, none⟩) 0 N, .int .i64 W, .int .i64 H, .func (.func 171) #[] #[.pointer (some ⟨w0.heap.size + 1 + 1, 0, none⟩), .pointer (some ⟨w0.heap.size + 1, 0, none⟩)], .agg #[.int .i64 (p.1.1 : Nat), .int .i64 (p.1.2 : Nat)], undef, undef, undef, undef, undef, undef, undef, undef, undef, undef, undef, undef, undef], defers := [] })
    (fun p a' _ X Y row hs hg hr => by obtain ⟨Bx, h1, h2, h3⟩ := hs; exact ⟨Bx, h1, row_own (β := Unit) Bx _ _ () X Y row h2 hg (fun r e => (hr r e).2), h3⟩)
    ?assign ?body ?done ?stop
  case assign =>
    rintro l pre p W1 K ⟨⟨⟨v, hv, hrow, rfl⟩, bW1, bF1, bM1⟩, hB1⟩ hK
    have hsz1 := hB1.size
    have hlw := bW1.lt
    gi_wp2
    exact hK _ _ ((KeepsOthers.alloc _ _).from _) (KeepsWide.of_below ((Below.refl _ W1).alloc (Nat.le_refl _) _) bW1.lt)
      ⟨⟨⟨_, hv.alloc _, hrow.alloc _, rfl⟩, bW1.alloc _, bF1.alloc _, (Below.heap_alloc _ _ _ (by omega)).trans bM1⟩, hB1.alloc hB1.size _⟩ ⟨W1.heap.size, hv.lt, heap_alloc_new W1 _, rfl⟩
  case body =>
    rintro l pre p a' W1 hl ⟨r, hr⟩ ⟨⟨⟨v, hv, hrow, rfl⟩, bW1, bF1, bM1⟩, hB1⟩ ⟨Bx, hBx, bX, rfl⟩ hlt
    have hsz1 := hB1.size
    have hN1 : pre.length < N := by have := HN.out; omega
    have cS := hv.cell
    have cF := bF1.cell
    have cX0 : W1.cell? ⟨Bx, 0, none⟩ = some (.int .i64 (p.1.1 : Nat)) := by rw [cell_of_row W1 Bx 0 _ _ (0, 0) bX]; rfl
    have cX1 : W1.cell? ⟨Bx, 1, none⟩ = some (.int .i64 (p.1.2 : Nat)) := by rw [cell_of_row W1 Bx 1 _ _ (0, 0) bX]; rfl
    have K := Lib.hid (HCL.out p.1 W1.drew p.2 hB1.drew)
    gi_wp2_with fail
    have hmix : Tryz.prog.follows Departure.mixedOrders = true := by kernel_rfl
    gi_region_with_o
      ((refine ⟨trivial, ?_⟩; gi_at_call 121; refine (CallsIn.inRound l (callsIn_wide.2 K.out)).mono ?_; rintro e W2 ⟨rfl, hb2⟩
        have hv2 : Boxed W2 w0.heap.size 25 (.slice (some ⟨w.heap.size + 1 + 1, 0, none⟩) pre.length N) := (hb2.block _ hv.lt).trans hv
        have cS2 := hv2.cell
        have fS2 := hv2.frozen
        have hrow2 : W2.ownsRow w.heap.size 3 1 (.slice (some ⟨w.heap.size + 1 + 1, 0, none⟩) pre.length N) pre.length (pre.map (fun p => Value.int .i64 (val p.1))) := owns_kept (w := W1.drew) hrow hb2 (Nat.le_refl _)
        have hs2 := hb2.size
        have hne1 : ¬ (w0.heap.size = w.heap.size + 1 + 1) := by omega
        have hne2 : ¬ (w.heap.size + 1 + 1 = w0.heap.size) := by omega
        have hlv := hv2.lt
        obtain ⟨u, hu, fu, hul⟩ := owns_room hrow2 hN1
        have hu' : (W2.alloc (.cells #[.int .i64 (val p.1)] 3)).cell? ⟨w.heap.size + 1 + 1, pre.length, none⟩ = some u := (((Below.refl _ W2).alloc (Nat.le_refl _) _).cell hul).trans hu
        have fu' : (W2.alloc (.cells #[.int .i64 (val p.1)] 3)).frozen? ⟨w.heap.size + 1 + 1, pre.length, none⟩ = false := (((Below.refl _ W2).alloc (Nat.le_refl _) _).frozen hul).trans fu
        have hv3 : Boxed ((W2.alloc (.cells #[.int .i64 (val p.1)] 3)).setCell ⟨w.heap.size + 1 + 1, pre.length, none⟩ (.int .i64 (val p.1))) w0.heap.size 25 (.slice (some ⟨w.heap.size + 1 + 1, 0, none⟩) pre.length N) :=
          (hv2.alloc _).kept (OnlyBlk.set _ (w.heap.size + 1 + 1) pre.length _).1 (fun e => hne1 (Option.some.inj e))
        have cS3 := hv3.cell
        have fS3 := hv3.frozen))
    all_goals
      gi_wp2
      have q1 := OnlyBlk.set W2 (w.heap.size + 1 + 1) pre.length (.int .i64 (val p.1))
      have q2 := OnlyBlk.set (W2.setCell ⟨w.heap.size + 1 + 1, pre.length, none⟩ (.int .i64 (val p.1))) w0.heap.size 0 (.slice (some ⟨w.heap.size + 1 + 1, 0, none⟩) (pre.length + 1) N)
      have hgb : Below w.heap.size W1 (((W2.setCell ⟨w.heap.size + 1 + 1, pre.length, none⟩ (.int .i64 (val p.1))).setCell ⟨w0.heap.size, 0, none⟩ (.slice (some ⟨w.heap.size + 1 + 1, 0, none⟩) (pre.length + 1) N)).alloc (.cells #[.int .i64 (val p.1)] 3)) :=
        ((((Below.refl _ W1).drew.trans (hb2.mono hsz1)).setCell (p := ⟨w.heap.size + 1 + 1, pre.length, none⟩) (by show w.heap.size ≤ w.heap.size + 1 + 1; omega) _).setCell (p := ⟨w0.heap.size, 0, none⟩) (by show w.heap.size ≤ w0.heap.size; omega) _).alloc (by rw [q2.2, q1.2]; exact Nat.le_trans hsz1 hs2) _
      have bW2 : Boxed W2 (w0.heap.size + 1) 3 (.int .i64 W) := (hb2.block _ bW1.lt).trans bW1
      have bF2 : Boxed W2 w.heap.size _ _ := (hb2.block _ bF1.lt).trans bF1
      have bM2 := (hb2.block _ (Array.getElem?_eq_some_iff.1 bM1).1).trans bM1
      have lM2 := (Array.getElem?_eq_some_iff.1 bM2).1
      have bW3 := ((bW2.kept q1.1 (fun e => by have := Option.some.inj e; omega)).kept q2.1 (fun e => by have := Option.some.inj e; omega)).alloc (.cells #[.int .i64 (val p.1)] 3)
      have bF3 := ((bF2.kept q1.1 (fun e => by have := Option.some.inj e; omega)).kept q2.1 (fun e => by have := Option.some.inj e; omega)).alloc (.cells #[.int .i64 (val p.1)] 3)
      have bS3 := ((hv2.kept q1.1 (fun e => hne1 (Option.some.inj e))).set (.slice (some ⟨w.heap.size + 1 + 1, 0, none⟩) (pre.length + 1) N)).alloc (.cells #[.int .i64 (val p.1)] 3)
      refine ⟨(((((KeepsOthers.drew W1).trans (KeepsOthers.of_below hb2)).trans (KeepsOthers.setCell _ _ _)).trans (KeepsOthers.setCell _ _ _)).trans (KeepsOthers.alloc _ _)).from _, fun _ => bW3.cell,
        ⟨⟨⟨.slice (some ⟨w.heap.size + 1 + 1, 0, none⟩) (pre.length + 1) N, bS3, ?_, by simp⟩, bW3, bF3, ?_⟩, hB1.trans hgb⟩⟩
      · rw [List.map_append, List.length_append]
        exact ((owns_put hrow2 hN1 _).kept q2.1 (.inr (fun e => hne1 (Option.some.inj e.symm)))).alloc _
      · rw [Below.heap_alloc _ _ _ (by rw [q2.2, q1.2]; exact lM2), q2.1.block _ (by rw [q1.2]; exact lM2) (fun e => by have := Option.some.inj e; omega), q1.1.block _ lM2 (fun e => by have := Option.some.inj e; omega)]
        exact bM2
  case done =>
    rintro D ys W1 hD hys ⟨⟨⟨v, hv, hrow, rfl⟩, bW1, bF1, bM1⟩, hB1⟩ hK
    have hlen : (placesTo W (H * W)).length = N := by rw [placesTo_len, Nat.mul_comm]; exact HN.out
    have hlen' : ys.length = N := by rw [← hlen, ← hys, List.length_map]
    have hval' : ys.map (fun p => Value.int .i64 (val p.1)) = (placesTo W (H * W)).map (fun p => Value.int .i64 (val p)) := by rw [← hys, List.map_map]; rfl
    rw [hlen'] at hv hrow
    rw [hval'] at hrow
    clear hval' hlen' hys
    have cS := hv.cell
    have hsz1 := hB1.size
    have hgl : w.heap.size + 1 + 1 < W1.heap.size := (owns_room' hrow).2
    have T := Lib.hid (toMap_large W H (w.heap.size + 1 + 1) 0 N N ((placesTo W (H * W)).map val) (by rw [List.length_map]; exact hlen) hm W1 hgl (fun j hj => by
        rw [Nat.zero_add]
        refine owns_cell hrow ?_
        rw [List.getElem?_map, List.getElem?_map, List.getElem?_eq_getElem (by omega)]; rfl)
      HV.out)
    have m0 : W1.cell? ⟨w.heap.size + 1, 0, none⟩ = some (.int .i64 0) := by rw [cell_of_row W1 (w.heap.size + 1) 0 _ _ (0, 0) bM1]; rfl
    have m1 : W1.cell? ⟨w.heap.size + 1, 1, none⟩ = some (.int .i64 0) := by rw [cell_of_row W1 (w.heap.size + 1) 1 _ _ (0, 0) bM1]; rfl
    have m2 : W1.cell? ⟨w.heap.size + 1, 2, none⟩ = some (.slice none 0 0) := by rw [cell_of_row W1 (w.heap.size + 1) 2 _ _ (0, 0) bM1]; rfl
    have fm : ∀ j, W1.frozen? ⟨w.heap.size + 1, j, none⟩ = false := fun j => by simp [World.frozen?, bM1]
    have lM := (Array.getElem?_eq_some_iff.1 bM1).1
    gi_wp2_with
      ((refine ⟨trivial, ?_⟩; gi_at_call 128; refine (callsIn_wide.2 T.out).mono ?_; rintro e w2 ⟨rfl, hb2⟩
        have s0 : w2.cell? ⟨w.heap.size + 1, 0, none⟩ = some (.int .i64 0) := (hb2.cell lM).trans m0
        have s1 : w2.cell? ⟨w.heap.size + 1, 1, none⟩ = some (.int .i64 0) := (hb2.cell lM).trans m1
        have s2 : w2.cell? ⟨w.heap.size + 1, 2, none⟩ = some (.slice none 0 0) := (hb2.cell lM).trans m2
        have f0 : w2.frozen? ⟨w.heap.size + 1, 0, none⟩ = false := (hb2.frozen lM).trans (fm 0)
        have f1 : w2.frozen? ⟨w.heap.size + 1, 1, none⟩ = false := (hb2.frozen lM).trans (fm 1)
        have f2 : w2.frozen? ⟨w.heap.size + 1, 2, none⟩ = false := (hb2.frozen lM).trans (fm 2)))
    have rM2 := (hb2.block _ lM).trans bM1
    obtain ⟨WF, hWF⟩ : ∃ WF, ((w2.setCell ⟨w.heap.size + 1, 0, none⟩ (.int .i64 0)).setCell ⟨w.heap.size + 1, 1, none⟩ (.int .i64 0)).setCell ⟨w.heap.size + 1, 2, none⟩ (.slice none 0 0) = WF := ⟨_, rfl⟩
    have rF : WF.heap[w.heap.size + 1]? = some (.cells #[.int .i64 0, .int .i64 0, .slice none 0 0] 54 (0, 0)) := by
      rw [← hWF]
      simp only [World.setCell, Array.getElem?_modify, if_true, rM2, Option.map_some]
      simp
    have kF : WF.heap[D]? = some (.deferred (some [])) := by
      rw [← hWF]
      exact ((((KeepsOthers.of_below hb2).trans (KeepsOthers.setCell _ _ _)).trans (KeepsOthers.setCell _ _ _)).trans (KeepsOthers.setCell _ _ _)).same D _ hK rfl
    have bF9 : Below w.heap.size w WF := by
      rw [← hWF]
      exact (((hB1.trans (hb2.mono hsz1)).setCell (p := ⟨w.heap.size + 1, 0, none⟩) (by show w.heap.size ≤ w.heap.size + 1; omega) _).setCell (p := ⟨w.heap.size + 1, 1, none⟩) (by show w.heap.size ≤ w.heap.size + 1; omega) _).setCell (p := ⟨w.heap.size + 1, 2, none⟩) (by show w.heap.size ≤ w.heap.size + 1; omega) _
    have nD : w.heap.size + 1 ≠ D := fun e => by rw [← e, rF] at kF; cases kF
    try rw [hWF]
    refine ⟨by simp, .inl ⟨_, _, rfl, run_takeDeferred kF, ?_⟩⟩
    exact ⟨_, results_row_tmp Tryz.results115 _ _ (w.heap.size + 1) 54 _ (0, 0) _ rfl ((World.putObj_heap_other nD).trans rF) Tryz.underlying54 rfl (by kernel_rfl), rfl, bF9.trans (belowK_b (w := w) (Nat.le_refl _) WF D _ _ (by omega) kF rfl rfl)⟩
  case stop =>
    rintro D c pre W1 _ _ h _
    exact h.elim
end Go.Proofs.YtlnhgplloaiiiaaGreatDoor

/-
  Contract of Added for two right maps of one size of which a sum is that of no sample: the error.
-/
namespace Go.Proofs.YtlnhgplloaiiiaaGreatDoor
open Go.RowKit Go.Shelf
set_option linter.unusedVariables false
set_option linter.unusedSimpArgs false
attribute [local go_sem ↓] Go.wp_at_zero Go.wp_at_succ

set_option maxRecDepth 100000 in
set_option maxHeartbeats 25600000 in
theorem added_large (W H : Nat) (b o c b' o' c' n : Nat) (xs ys : List Nat) (ks js : List Int) (w : World) (hA : RightMap w W H b o n xs ks) (hB : RightMap w W H b' o' n ys js) (hb : b < w.heap.size) (hb' : b' < w.heap.size)
    (hs : ¬ ∀ j, j < n → ((addL n ks js)[j]?.getD 0).natAbs ≤ 16384) :
    Calls Tryz.prog 52 #[.agg #[.int .i64 W, .int .i64 H, .slice (some ⟨b, o, none⟩) n c], .agg #[.int .i64 W, .int .i64 H, .slice (some ⟨b', o', none⟩) n c']] w fun e w' =>
      e = .returned (.tuple #[.agg #[.int .i64 0, .int .i64 0, .slice none 0 0], .int .i64 4]) ∧ Below w.heap.size w w' := by
  obtain ⟨W0, hW0⟩ : ∃ W0, ((w.alloc (.cells #[.int .i64 W, .int .i64 H, .slice (some ⟨b, o, none⟩) n c] 54)).alloc (.cells #[.int .i64 W, .int .i64 H, .slice (some ⟨b', o', none⟩) n c'] 54)).alloc (.cells #[.int .i64 0, .int .i64 0, .slice none 0 0] 54) = W0 := ⟨_, rfl⟩
  have hB0 : Below w.heap.size w W0 := by rw [← hW0]; exact (((Below.refl _ w).alloc (Nat.le_refl _) _).alloc (by simp) _).alloc (by simp; omega) _
  have hS0 : W0.heap.size = w.heap.size + 3 := by rw [← hW0]; simp
  have a0 : W0.cell? ⟨w.heap.size, 0, none⟩ = some (.int .i64 W) := by rw [← hW0]; simp [go_sem]
  have a1 : W0.cell? ⟨w.heap.size, 1, none⟩ = some (.int .i64 H) := by rw [← hW0]; simp [go_sem]
  have a2 : W0.cell? ⟨w.heap.size, 2, none⟩ = some (.slice (some ⟨b, o, none⟩) n c) := by rw [← hW0]; simp [go_sem]
  have c0 : W0.cell? ⟨w.heap.size + 1, 0, none⟩ = some (.int .i64 W) := by rw [← hW0]; simp [go_sem]
  have c1 : W0.cell? ⟨w.heap.size + 1, 1, none⟩ = some (.int .i64 H) := by rw [← hW0]; simp [go_sem]
  have c2 : W0.cell? ⟨w.heap.size + 1, 2, none⟩ = some (.slice (some ⟨b', o', none⟩) n c') := by rw [← hW0]; simp [go_sem]
  have z0 : W0.cell? ⟨w.heap.size + 1 + 1, 0, none⟩ = some (.int .i64 0) := by rw [← hW0]; simp [go_sem]
  have z1 : W0.cell? ⟨w.heap.size + 1 + 1, 1, none⟩ = some (.int .i64 0) := by rw [← hW0]; simp [go_sem]
  have z2 : W0.cell? ⟨w.heap.size + 1 + 1, 2, none⟩ = some (.slice none 0 0) := by rw [← hW0]; simp [go_sem]
  have bz0 : W0.heap[w.heap.size + 1 + 1]? = some (.cells #[.int .i64 0, .int .i64 0, .slice none 0 0] 54 (0, 0)) := by rw [← hW0]; have h := blk_alloc_new ((w.alloc (.cells #[.int .i64 W, .int .i64 H, .slice (some ⟨b, o, none⟩) n c] 54)).alloc (.cells #[.int .i64 W, .int .i64 H, .slice (some ⟨b', o', none⟩) n c'] 54)) (.cells #[.int .i64 0, .int .i64 0, .slice none 0 0] 54); simpa using h
  have HZB := Lib.hid bz0
  clear bz0
  have zf : ∀ j, W0.frozen? ⟨w.heap.size + 1 + 1, j, none⟩ = false := fun j => by rw [← hW0]; simp [go_sem]
  have KA : ∀ w1 : World, Blw (w.heap.size + 3) W0 w1 → Calls Tryz.prog 41 #[.agg #[.int .i64 W, .int .i64 H, .slice (some ⟨b, o, none⟩) n c]] w1 fun e w' => e = .returned (.int .i64 0) ∧ Below (w.heap.size + 3) W0 w' := fun w1 (h : Below (w.heap.size + 3) W0 w1) => by
    have h1 := h.size
    have h2 := hB0.trans (h.mono (by omega))
    exact (checkMap_any W H b o n c xs ks w1 (hA.below h2 hb) (by omega)).mono fun e w' ⟨he, hw⟩ => ⟨he, h.trans (hw.mono (by omega))⟩
  have KB : ∀ w1 : World, Blw (w.heap.size + 3) W0 w1 → Calls Tryz.prog 41 #[.agg #[.int .i64 W, .int .i64 H, .slice (some ⟨b', o', none⟩) n c']] w1 fun e w' => e = .returned (.int .i64 0) ∧ Below (w.heap.size + 3) W0 w' := fun w1 (h : Below (w.heap.size + 3) W0 w1) => by
    have h1 := h.size
    have h2 := hB0.trans (h.mono (by omega))
    exact (checkMap_any W H b' o' n c' ys js w1 (hB.below h2 hb') (by omega)).mono fun e w' ⟨he, hw⟩ => ⟨he, h.trans (hw.mono (by omega))⟩
  have GA : ∀ w1 : World, Blw (w.heap.size + 3) W0 w1 → Calls Tryz.prog 105 #[.agg #[.int .i64 W, .int .i64 H, .slice (some ⟨b, o, none⟩) n c]] w1 fun e w' =>
      ∃ g, e = .returned (.agg #[.int .i64 W, .int .i64 H, .slice (some ⟨g, 0, none⟩) n n]) ∧ w1.heap.size ≤ g ∧ RowAt w' g n ks ∧ Below w1.heap.size w1 w' ∧ Below (w.heap.size + 3) W0 w' := fun w1 (h : Below (w.heap.size + 3) W0 w1) => by
    have h1 := h.size
    have h2 := hB0.trans (h.mono (by omega))
    exact (grid_row W H b o n c xs ks w1 (hA.below h2 hb).toWords (by omega)).mono fun e w' ⟨g, he, h3, h4, h5⟩ => ⟨g, he, h3, h4, h5, h.trans (h5.mono (by omega))⟩
  have GB : ∀ w1 : World, Blw (w.heap.size + 3) W0 w1 → Calls Tryz.prog 105 #[.agg #[.int .i64 W, .int .i64 H, .slice (some ⟨b', o', none⟩) n c']] w1 fun e w' =>
      ∃ g, e = .returned (.agg #[.int .i64 W, .int .i64 H, .slice (some ⟨g, 0, none⟩) n n]) ∧ w1.heap.size ≤ g ∧ RowAt w' g n js ∧ Below w1.heap.size w1 w' ∧ Below (w.heap.size + 3) W0 w' := fun w1 (h : Below (w.heap.size + 3) W0 w1) => by
    have h1 := h.size
    have h2 := hB0.trans (h.mono (by omega))
    exact (grid_row W H b' o' n c' ys js w1 (hB.below h2 hb').toWords (by omega)).mono fun e w' ⟨g, he, h3, h4, h5⟩ => ⟨g, he, h3, h4, h5, h.trans (h5.mono (by omega))⟩
  have HKA := Lib.hid KA
  have HKB := Lib.hid KB
  have HGA := Lib.hid GA
  have HGB := Lib.hid GB
  have HB0 := Lib.hid hB0
  have HS0 := Lib.hid hS0
  have HSUM := Lib.hid hs
  have HRA := Lib.hid hA
  have HRB := Lib.hid hB
  have hR : Blw (w.heap.size + 3) W0 W0.drew := show Below _ _ _ from (Below.refl (w.heap.size + 3) W0).drew
  clear KA KB GA GB hs hA hB hB0 hS0
  go_enter Tryz.func52, Tryz.ntmps52
  go_wp2_with fail
  try rw [hW0]
  clear hW0
  go_region_held3 (fun w' => w'.cell? ⟨w.heap.size, 0, none⟩ = some (.int .i64 W) ∧ w'.cell? ⟨w.heap.size, 1, none⟩ = some (.int .i64 H) ∧ w'.cell? ⟨w.heap.size, 2, none⟩ = some (.slice (some ⟨b, o, none⟩) n c) ∧
      w'.cell? ⟨w.heap.size + 1, 0, none⟩ = some (.int .i64 W) ∧ w'.cell? ⟨w.heap.size + 1, 1, none⟩ = some (.int .i64 H) ∧ w'.cell? ⟨w.heap.size + 1, 2, none⟩ = some (.slice (some ⟨b', o', none⟩) n c') ∧ Blw (w.heap.size + 3) W0 w')
    (first
      | (go_split_ands; refine ⟨?_, ?_, ?_, ?_, ?_, ?_, ?_⟩ <;> first | assumption | exact hb1 | ((rw [hb1.cell (by simp; try omega)]; assumption)))
      | (go_split_ands; refine ⟨?_, ?_, ?_, ?_, ?_, ?_, ?_⟩ <;> first | ((rw [(hb1.alloc (by have := hb1.size; have := HS0.out; omega) _).cell (by simp; try omega)]; assumption)) | exact (hb1.alloc (by have := hb1.size; have := HS0.out; omega) _ : Below _ _ _))
      | go_keep)
    (first
      | (go_at_call_of 41 (Value.agg #[.int .i64 W, .int .i64 H, .slice (some ⟨b, o, none⟩) n c]); refine (HKA.out _ ?_).mono ?_; rotate_left 1; rintro e w' ⟨rfl, hb1⟩; rotate_left 1; (simp [*]))
      | (go_at_call_of 41 (Value.agg #[.int .i64 W, .int .i64 H, .slice (some ⟨b', o', none⟩) n c']); refine (HKB.out _ ?_).mono ?_; rotate_left 1; rintro e w' ⟨rfl, hb1⟩; rotate_left 1; (simp [*]))
      | ((go_at_call 91; refine (first_zeros _ 0 2 2 (by omega) _ ?_).mono ?_; rotate_left 1; rintro e w' ⟨rfl, rfl⟩; rotate_left 1; (intro j hj; match j, hj with | 0, _ => simp [go_sem] | 1, _ => simp [go_sem]))))
  have hb2 : Below (w.heap.size + 3) W0 (w'.alloc (.cells #[.int .i64 0, .int .i64 0] 26)) := hb1.alloc (by have := hb1.size; have := HS0.out; omega) _
  obtain ⟨W1, hW1⟩ : ∃ W1, w'.alloc (.cells #[.int .i64 0, .int .i64 0] 26) = W1 := ⟨_, rfl⟩
  rw [hW1] at hb2 ⊢
  clear hW1
  have a0' := (hb2.cell (p := ⟨w.heap.size, 0, none⟩) (by show w.heap.size < _; omega)).trans a0
  have a1' := (hb2.cell (p := ⟨w.heap.size, 1, none⟩) (by show w.heap.size < _; omega)).trans a1
  have a2' := (hb2.cell (p := ⟨w.heap.size, 2, none⟩) (by show w.heap.size < _; omega)).trans a2
  have c0' := (hb2.cell (p := ⟨w.heap.size + 1, 0, none⟩) (by show w.heap.size + 1 < _; omega)).trans c0
  have c1' := (hb2.cell (p := ⟨w.heap.size + 1, 1, none⟩) (by show w.heap.size + 1 < _; omega)).trans c1
  have c2' := (hb2.cell (p := ⟨w.heap.size + 1, 2, none⟩) (by show w.heap.size + 1 < _; omega)).trans c2
  have eW : ((W : Int) != W) = false := by simp
  have eH : ((H : Int) != H) = false := by simp
  have HS3 : w.heap.size + 3 ≤ W0.heap.size := by have := HS0.out; omega
  have hR2 : Below (w.heap.size + 3) W0 W1.drew := hb2.drew
  go_upto_region 6 with fail
  go_cut [7, 8] (fun s7 s8 wx => GridsMade w W0 W H n ks js s7 s8 wx)
  case first =>
   have hb3 := hb2
   have hz3 := hb3.size
   go_region_held3 (fun w' => w'.cell? ⟨w.heap.size, 0, none⟩ = some (.int .i64 W) ∧ w'.cell? ⟨w.heap.size, 1, none⟩ = some (.int .i64 H) ∧ w'.cell? ⟨w.heap.size, 2, none⟩ = some (.slice (some ⟨b, o, none⟩) n c) ∧
      w'.cell? ⟨w.heap.size + 1, 0, none⟩ = some (.int .i64 W) ∧ w'.cell? ⟨w.heap.size + 1, 1, none⟩ = some (.int .i64 H) ∧ w'.cell? ⟨w.heap.size + 1, 2, none⟩ = some (.slice (some ⟨b', o', none⟩) n c') ∧ Blw (w.heap.size + 3) W0 w')
    ((go_split_ands; refine ⟨?_, ?_, ?_, ?_, ?_, ?_, ?_⟩ <;> first
      | (with_reducible refine Eq.trans (Below.cell (B := w.heap.size + 3) (w := W0) ?_ (by first | (simp; done) | (simp; omega))) (by with_reducible assumption); (repeat (first | (with_reducible exact hb3) | (with_reducible refine below_alloc ?_ HS3 _) | (with_reducible refine Below.drew ?_) | (with_reducible refine Below.setCell ?_ (by dsimp only; omega) _))); done)
      | (show Below _ _ _; (repeat (first | (with_reducible exact hb3) | (with_reducible refine below_alloc ?_ HS3 _) | (with_reducible refine Below.drew ?_) | (with_reducible refine Below.setCell ?_ (by dsimp only; omega) _))); done)))
    (first
      | (go_at_call_of 105 (Value.agg #[.int .i64 W, .int .i64 H, .slice (some ⟨b, o, none⟩) n c]); refine (HGA.out _ ?_).mono ?_; rotate_left 1; rintro e wA ⟨ga, rfl, hga, hra, hba, hb3⟩; (obtain ⟨hcc, hff⟩ := bcell hba); (have hz3 := hb3.size); (have hls := hba.size); (try simp at hls); (try have hqW10 : W1.heap.size < wA.heap.size := by omega); (try have hqW11 : W1.heap.size + 1 < wA.heap.size := by omega); rotate_left 1; (simp [*]))
      | (go_at_call_of 105 (Value.agg #[.int .i64 W, .int .i64 H, .slice (some ⟨b', o', none⟩) n c']); refine (HGB.out _ ?_).mono ?_; rotate_left 1; rintro e wB ⟨gb, rfl, hgb, hrb, hbb, hb3⟩; (obtain ⟨hcc, hff⟩ := bcell hbb); (have hz3 := hb3.size); (have hls := hbb.size); (try simp at hls); (try have hqW10 : W1.heap.size < wB.heap.size := by omega); (try have hqW11 : W1.heap.size + 1 < wB.heap.size := by omega); (try have hqwA0 : wA.heap.size < wB.heap.size := by omega); (try have hqwA1 : wA.heap.size + 1 < wB.heap.size := by omega); rotate_left 1; (simp [*])))
   all_goals go_wp2_with fail
   all_goals go_meet
   all_goals first | (with_reducible exact made_00_7 hb2 HS3 hba hga hra hbb hgb hrb hb3) | (with_reducible exact made_00_8 hb2 HS3 hba hga hra hbb hgb hrb hb3) | (with_reducible exact made_01_7 hb2 HS3 hba hga hra hbb hgb hrb hb3) | (with_reducible exact made_01_8 hb2 HS3 hba hga hra hbb hgb hrb hb3) | (with_reducible exact made_02_7 hb2 HS3 hba hga hra hbb hgb hrb hb3) | (with_reducible exact made_02_8 hb2 HS3 hba hga hra hbb hgb hrb hb3) | (with_reducible exact made_10_7 hb2 HS3 hba hga hra hbb hgb hrb hb3) | (with_reducible exact made_10_8 hb2 HS3 hba hga hra hbb hgb hrb hb3) | (with_reducible exact made_11_7 hb2 HS3 hba hga hra hbb hgb hrb hb3) | (with_reducible exact made_11_8 hb2 HS3 hba hga hra hbb hgb hrb hb3) | (with_reducible exact made_20_7 hb2 HS3 hba hga hra hbb hgb hrb hb3) | (with_reducible exact made_20_8 hb2 HS3 hba hga hra hbb hgb hrb hb3)
  case rest =>
    obtain ⟨g7, g8, ga, gb, rfl, rfl, hGA, hGB, hRA, hRB, l7, l8, hbc⟩ := hcut
    obtain ⟨q0, q1, q2⟩ := hGA
    have hGA1 := q1
    obtain ⟨r0, r1, r2⟩ := hGB
    have hbw := hbc.size
    have hS3 := HS0.out
    have hblk := (hbc.block (w.heap.size + 1 + 1) (by omega)).trans HZB.out
    have z0' := (hbc.cell (p := ⟨w.heap.size + 1 + 1, 0, none⟩) (by show w.heap.size + 1 + 1 < _; omega)).trans z0
    have z1' := (hbc.cell (p := ⟨w.heap.size + 1 + 1, 1, none⟩) (by show w.heap.size + 1 + 1 < _; omega)).trans z1
    have z2' := (hbc.cell (p := ⟨w.heap.size + 1 + 1, 2, none⟩) (by show w.heap.size + 1 + 1 < _; omega)).trans z2
    have zf' : ∀ j, wc.frozen? ⟨w.heap.size + 1 + 1, j, none⟩ = false := fun j => (hbc.frozen (p := ⟨w.heap.size + 1 + 1, j, none⟩) (by show w.heap.size + 1 + 1 < _; omega)).trans (zf j)
    have hN : W * H = n := by have := HRA.out.area; exact_mod_cast this
    have hlarge : ¬ ∀ j, j < W * H → (((placesTo W (H * W)).map (fun p => ks[p.2 * W + p.1]?.getD 0 + js[p.2 * W + p.1]?.getD 0))[j]?.getD 0).natAbs ≤ 16384 := fun h => HSUM.out (fun j hj => by
      have h1 := h j (by rw [hN]; exact hj)
      rw [List.getElem?_map, placesTo_get W (H * W) j (by rw [Nat.mul_comm H W, hN]; exact hj), Option.map_some] at h1
      have e : j / W * W + j % W = j := by rw [Nat.mul_comm]; exact Nat.div_add_mod j W
      simp only [e] at h1
      unfold addL
      rw [range_get _ _ j hj]
      exact h1)
    have KP := Lib.hid (callsIn_wide.1 (painted_added_large W H (by have := HRA.out.wid; omega) (by have := HRA.out.hei; omega) g7 g8 wc (fun p => ks[p.2 * W + p.1]?.getD 0 + js[p.2 * W + p.1]?.getD 0) hlarge (fun p W1 hp h1 => by
        have hlt := idx_lt hp.1 hp.2 hN
        have hsz := h1.size
        have e1 : ((p.2 : Int) * (W : Int) + (p.1 : Int)).toNat = p.2 * W + p.1 := by
          have : ((p.2 : Int) * (W : Int) + (p.1 : Int)) = ((p.2 * W + p.1 : Nat) : Int) := by push_cast; rfl
          rw [this]; rfl
        have e2 : (p.2 : Int) * (W : Int) = ((p.2 * W : Nat) : Int) := by push_cast; rfl
        have hW := HRA.out.wid
        have hH := HRA.out.hei
        have hsm := HRA.out.small
        have b1 := HRA.out.sizes _ hlt
        have b2 := HRB.out.sizes _ hlt
        have m1 : p.2 * W ≤ 64 * 64 := Nat.mul_le_mul (by omega) (by omega)
        exact added1_any W H ga n n gb n n g7 g8 p.1 p.2 _ _ (by omega) (by omega) (by omega) (by omega) (by omega) (by omega) W1 (by omega) (by omega) (by omega) (by omega) (by have := hRA.lt; omega) (by have := hRB.lt; omega)
          ⟨(h1.cell (p := ⟨g7, 0, none⟩) l7).trans q0, (h1.cell (p := ⟨g7, 1, none⟩) l7).trans q1, (h1.cell (p := ⟨g7, 2, none⟩) l7).trans q2⟩
          ⟨(h1.cell (p := ⟨g8, 0, none⟩) l8).trans r0, (h1.cell (p := ⟨g8, 1, none⟩) l8).trans r1, (h1.cell (p := ⟨g8, 2, none⟩) l8).trans r2⟩
          (by rw [e1]; exact (hRA.below h1 hRA.lt).cells _ hlt) (by rw [e1]; exact (hRB.below h1 hRB.lt).cells _ hlt))))
    have HN := Lib.hid hN
    have HRA' := Lib.hid hRA
    clear hN hRA hRB q1 q2 r0 r1 r2 z0 z1 z2 zf a0 a1 a2 c0 c1 c2 a0' a1' a2' c0' c1' c2'
    have q1 := hGA1
    go_wp2_with ((go_at_call 115; refine KP.out.mono ?_; rintro e w5 ⟨rfl, hb5⟩
                  have s0 : w5.cell? ⟨w.heap.size + 1 + 1, 0, none⟩ = some (.int .i64 0) := (hb5.cell (p := ⟨w.heap.size + 1 + 1, 0, none⟩) (by show w.heap.size + 1 + 1 < _; omega)).trans z0'
                  have s1 : w5.cell? ⟨w.heap.size + 1 + 1, 1, none⟩ = some (.int .i64 0) := (hb5.cell (p := ⟨w.heap.size + 1 + 1, 1, none⟩) (by show w.heap.size + 1 + 1 < _; omega)).trans z1'
                  have s2 : w5.cell? ⟨w.heap.size + 1 + 1, 2, none⟩ = some (.slice none 0 0) := (hb5.cell (p := ⟨w.heap.size + 1 + 1, 2, none⟩) (by show w.heap.size + 1 + 1 < _; omega)).trans z2'
                  have f0 : w5.frozen? ⟨w.heap.size + 1 + 1, 0, none⟩ = false := (hb5.frozen (p := ⟨w.heap.size + 1 + 1, 0, none⟩) (by show w.heap.size + 1 + 1 < _; omega)).trans (zf' 0)
                  have f1 : w5.frozen? ⟨w.heap.size + 1 + 1, 1, none⟩ = false := (hb5.frozen (p := ⟨w.heap.size + 1 + 1, 1, none⟩) (by show w.heap.size + 1 + 1 < _; omega)).trans (zf' 1)
                  have f2 : w5.frozen? ⟨w.heap.size + 1 + 1, 2, none⟩ = false := (hb5.frozen (p := ⟨w.heap.size + 1 + 1, 2, none⟩) (by show w.heap.size + 1 + 1 < _; omega)).trans (zf' 2)))
    have hN := HN.out
    have hsz5 := hb5.size
    have bP5 := (hb5.block (w.heap.size + 1 + 1) (by omega)).trans hblk
    obtain ⟨WF, hWF⟩ : ∃ WF, (((w5.setCell ⟨w.heap.size + 1 + 1, 0, none⟩ (.int .i64 0)).setCell ⟨w.heap.size + 1 + 1, 1, none⟩ (.int .i64 0)).setCell ⟨w.heap.size + 1 + 1, 2, none⟩ (.slice none 0 0)) = WF := ⟨_, rfl⟩
    have rF : WF.heap[w.heap.size + 1 + 1]? = some (.cells #[.int .i64 0, .int .i64 0, .slice none 0 0] 54 (0, 0)) := by rw [← hWF]; exact blk_set3 bP5 _ _ _
    have bF : Below w.heap.size w WF := by
      rw [← hWF]
      exact (((HB0.out.trans (hbc.mono (by omega))).trans (hb5.mono (by omega))).setCell (p := ⟨w.heap.size + 1 + 1, 0, none⟩) (by dsimp only; omega) _ |>.setCell (p := ⟨w.heap.size + 1 + 1, 1, none⟩) (by dsimp only; omega) _).setCell (p := ⟨w.heap.size + 1 + 1, 2, none⟩) (by dsimp only; omega) _
    rw [hWF]
    exact bodyPost_ret (v := .tuple #[.agg #[.int .i64 0, .int .i64 0, .slice none 0 0], .int .i64 4]) (results_row_tmp Tryz.results52 _ _ (w.heap.size + 1 + 1) 54 _ (0, 0) _ rfl rF Tryz.underlying54 rfl (by kernel_rfl)) rfl ⟨rfl, bF⟩
end Go.Proofs.YtlnhgplloaiiiaaGreatDoor

/-
  What Added answers for maps with an error, and for maps of two sizes.
-/
namespace Go.Proofs.YtlnhgplloaiiiaaGreatDoor
open Go.RowKit
set_option linter.unusedVariables false
set_option linter.unusedSimpArgs false

set_option maxRecDepth 100000 in
set_option maxHeartbeats 6400000 in
theorem added_bad (W H : Int) (a : Option Addr) (n c : Nat) (W2 H2 : Int) (a2 : Option Addr) (n2 c2 : Nat) (r1 r2 r : Int) (hr : firstNZ [r1, r2] = r) (hr0 : r ≠ 0) (w : World)
    (hCa : ∀ w1 : World, Below w.heap.size w w1 → Calls Tryz.prog 41 #[.agg #[.int .i64 W, .int .i64 H, .slice a n c]] w1 fun e w' => e = .returned (.int .i64 r1) ∧ Below w1.heap.size w1 w')
    (hCb : ∀ w1 : World, Below w.heap.size w w1 → Calls Tryz.prog 41 #[.agg #[.int .i64 W2, .int .i64 H2, .slice a2 n2 c2]] w1 fun e w' => e = .returned (.int .i64 r2) ∧ Below w1.heap.size w1 w') :
    Calls Tryz.prog 52 #[.agg #[.int .i64 W, .int .i64 H, .slice a n c], .agg #[.int .i64 W2, .int .i64 H2, .slice a2 n2 c2]] w fun e w' =>
      e = .returned (.tuple #[.agg #[.int .i64 0, .int .i64 0, .slice none 0 0], .int .i64 r]) ∧ Below w.heap.size w w' := by
  obtain ⟨W0, hW0⟩ : ∃ W0, ((w.alloc (.cells #[.int .i64 W, .int .i64 H, .slice a n c] 54)).alloc (.cells #[.int .i64 W2, .int .i64 H2, .slice a2 n2 c2] 54)).alloc (.cells #[.int .i64 0, .int .i64 0, .slice none 0 0] 54) = W0 := ⟨_, rfl⟩
  have hB0 : Below w.heap.size w W0 := by rw [← hW0]; exact (((Below.refl _ w).alloc (Nat.le_refl _) _).alloc (by simp) _).alloc (by simp; omega) _
  have hS0 : W0.heap.size = w.heap.size + 3 := by rw [← hW0]; simp
  have a0 : W0.cell? ⟨w.heap.size, 0, none⟩ = some (.int .i64 W) := by rw [← hW0]; simp [go_sem]
  have a1 : W0.cell? ⟨w.heap.size, 1, none⟩ = some (.int .i64 H) := by rw [← hW0]; simp [go_sem]
  have a2' : W0.cell? ⟨w.heap.size, 2, none⟩ = some (.slice a n c) := by rw [← hW0]; simp [go_sem]
  have c0 : W0.cell? ⟨w.heap.size + 1, 0, none⟩ = some (.int .i64 W2) := by rw [← hW0]; simp [go_sem]
  have c1 : W0.cell? ⟨w.heap.size + 1, 1, none⟩ = some (.int .i64 H2) := by rw [← hW0]; simp [go_sem]
  have c2' : W0.cell? ⟨w.heap.size + 1, 2, none⟩ = some (.slice a2 n2 c2) := by rw [← hW0]; simp [go_sem]
  have bz0 : W0.heap[w.heap.size + 1 + 1]? = some (.cells #[.int .i64 0, .int .i64 0, .slice none 0 0] 54 (0, 0)) := by rw [← hW0]; have h := blk_alloc_new ((w.alloc (.cells #[.int .i64 W, .int .i64 H, .slice a n c] 54)).alloc (.cells #[.int .i64 W2, .int .i64 H2, .slice a2 n2 c2] 54)) (.cells #[.int .i64 0, .int .i64 0, .slice none 0 0] 54); simpa using h
  have HKA : Hid (∀ w1 : World, Blw (w.heap.size + 3) W0 w1 → Calls Tryz.prog 41 #[.agg #[.int .i64 W, .int .i64 H, .slice a n c]] w1 fun e w' => e = .returned (.int .i64 r1) ∧ Below (w.heap.size + 3) W0 w') := Lib.hid fun w1 (h : Below (w.heap.size + 3) W0 w1) => by
    have h1 := h.size
    exact (hCa w1 (hB0.trans (h.mono (by omega)))).mono fun e w' ⟨he, hw⟩ => ⟨he, h.trans (hw.mono (by omega))⟩
  have HKB : Hid (∀ w1 : World, Blw (w.heap.size + 3) W0 w1 → Calls Tryz.prog 41 #[.agg #[.int .i64 W2, .int .i64 H2, .slice a2 n2 c2]] w1 fun e w' => e = .returned (.int .i64 r2) ∧ Below (w.heap.size + 3) W0 w') := Lib.hid fun w1 (h : Below (w.heap.size + 3) W0 w1) => by
    have h1 := h.size
    exact (hCb w1 (hB0.trans (h.mono (by omega)))).mono fun e w' ⟨he, hw⟩ => ⟨he, h.trans (hw.mono (by omega))⟩
  have HB0 := Lib.hid hB0
  have HS0 := Lib.hid hS0
  have HZB := Lib.hid bz0
  have HR := Lib.hid hr
  have hR : Blw (w.heap.size + 3) W0 W0.drew := show Below _ _ _ from (Below.refl (w.heap.size + 3) W0).drew
  clear hCa hCb hB0 hS0 bz0 hr
  go_enter Tryz.func52, Tryz.ntmps52
  go_wp2_with fail
  try rw [hW0]
  clear hW0
  go_region_held3 (fun w' => w'.cell? ⟨w.heap.size, 0, none⟩ = some (.int .i64 W) ∧ w'.cell? ⟨w.heap.size, 1, none⟩ = some (.int .i64 H) ∧ w'.cell? ⟨w.heap.size, 2, none⟩ = some (.slice a n c) ∧
      w'.cell? ⟨w.heap.size + 1, 0, none⟩ = some (.int .i64 W2) ∧ w'.cell? ⟨w.heap.size + 1, 1, none⟩ = some (.int .i64 H2) ∧ w'.cell? ⟨w.heap.size + 1, 2, none⟩ = some (.slice a2 n2 c2) ∧ Blw (w.heap.size + 3) W0 w')
    (first
      | (go_split_ands; refine ⟨?_, ?_, ?_, ?_, ?_, ?_, ?_⟩ <;> first | assumption | exact hb1 | ((rw [hb1.cell (by simp; try omega)]; assumption)))
      | (go_split_ands; refine ⟨?_, ?_, ?_, ?_, ?_, ?_, ?_⟩ <;> first | ((rw [(hb1.alloc (by have := hb1.size; have := HS0.out; omega) _).cell (by simp; try omega)]; assumption)) | exact (hb1.alloc (by have := hb1.size; have := HS0.out; omega) _ : Below _ _ _))
      | go_keep)
    (first
      | (go_at_call_of 41 (Value.agg #[.int .i64 W, .int .i64 H, .slice a n c]); refine (HKA.out _ ?_).mono ?_; rotate_left 1; rintro e w' ⟨rfl, hb1⟩; rotate_left 1; (simp [*]))
      | (go_at_call_of 41 (Value.agg #[.int .i64 W2, .int .i64 H2, .slice a2 n2 c2]); refine (HKB.out _ ?_).mono ?_; rotate_left 1; rintro e w' ⟨rfl, hb1⟩; rotate_left 1; (simp [*]))
      | ((go_at_call 91; refine (first_any _ 0 2 2 [r1, r2] rfl (by omega) _ ?_).mono ?_; rotate_left 1; rintro e w' ⟨rfl, rfl⟩; rw [HR.out]; rotate_left 1; (intro j hj; match j, hj with | 0, _ => simp [go_sem] | 1, _ => simp [go_sem]))))
  have hb2 : Below (w.heap.size + 3) W0 (w'.alloc (.cells #[.int .i64 r1, .int .i64 r2] 26)) := hb1.alloc (by have := hb1.size; have := HS0.out; omega) _
  obtain ⟨W1, hW1⟩ : ∃ W1, w'.alloc (.cells #[.int .i64 r1, .int .i64 r2] 26) = W1 := ⟨_, rfl⟩
  rw [hW1] at hb2 ⊢
  clear hW1
  have hHS := HS0.out
  have a0' := (hb2.cell (p := ⟨w.heap.size, 0, none⟩) (by show w.heap.size < _; omega)).trans a0
  have a1' := (hb2.cell (p := ⟨w.heap.size, 1, none⟩) (by show w.heap.size < _; omega)).trans a1
  have c0' := (hb2.cell (p := ⟨w.heap.size + 1, 0, none⟩) (by show w.heap.size + 1 < _; omega)).trans c0
  have c1' := (hb2.cell (p := ⟨w.heap.size + 1, 1, none⟩) (by show w.heap.size + 1 < _; omega)).trans c1
  have bP := (hb2.block (w.heap.size + 1 + 1) (by omega)).trans HZB.out
  have q0 : W1.frozen? ⟨w.heap.size + 1 + 1, 0, none⟩ = false := by simp [World.frozen?, bP]
  have q1 : W1.frozen? ⟨w.heap.size + 1 + 1, 1, none⟩ = false := by simp [World.frozen?, bP]
  have q2 : W1.frozen? ⟨w.heap.size + 1 + 1, 2, none⟩ = false := by simp [World.frozen?, bP]
  have p0 : W1.cell? ⟨w.heap.size + 1 + 1, 0, none⟩ = some (.int .i64 0) := by rw [cell_of_row W1 _ 0 _ _ (0, 0) bP]; rfl
  have p1 : W1.cell? ⟨w.heap.size + 1 + 1, 1, none⟩ = some (.int .i64 0) := by rw [cell_of_row W1 _ 1 _ _ (0, 0) bP]; rfl
  have p2 : W1.cell? ⟨w.heap.size + 1 + 1, 2, none⟩ = some (.slice none 0 0) := by rw [cell_of_row W1 _ 2 _ _ (0, 0) bP]; rfl
  have HBP := Lib.hid bP
  have HB2 := Lib.hid hb2
  clear bP hb2 hb1 a0 a1 c0 c1
  have e0 : (r != 0) = true := by simp [hr0]
  clear hr0
  go_wp2_with fail
  obtain ⟨WF, hWF⟩ : ∃ WF, (((W1.setCell ⟨w.heap.size + 1 + 1, 0, none⟩ (.int .i64 0)).setCell ⟨w.heap.size + 1 + 1, 1, none⟩ (.int .i64 0)).setCell ⟨w.heap.size + 1 + 1, 2, none⟩ (.slice none 0 0)) = WF := ⟨_, rfl⟩
  have rF : WF.heap[w.heap.size + 1 + 1]? = some (.cells #[.int .i64 0, .int .i64 0, .slice none 0 0] 54 (0, 0)) := by rw [← hWF]; exact blk_set3 HBP.out _ _ _
  have bF : Below w.heap.size w WF := by
    rw [← hWF]
    exact (((HB0.out.trans (HB2.out.mono (by omega))).setCell (p := ⟨w.heap.size + 1 + 1, 0, none⟩) (by dsimp only; omega) _).setCell (p := ⟨w.heap.size + 1 + 1, 1, none⟩) (by dsimp only; omega) _).setCell (p := ⟨w.heap.size + 1 + 1, 2, none⟩) (by dsimp only; omega) _
  rw [hWF]
  exact bodyPost_ret (v := .tuple #[.agg #[.int .i64 0, .int .i64 0, .slice none 0 0], .int .i64 r]) (results_row_tmp Tryz.results52 _ _ (w.heap.size + 1 + 1) 54 _ (0, 0) _ rfl rF Tryz.underlying54 rfl (by kernel_rfl)) rfl ⟨rfl, bF⟩

set_option maxRecDepth 100000 in
set_option maxHeartbeats 6400000 in
theorem added_shape (W H : Int) (a : Option Addr) (n c : Nat) (W2 H2 : Int) (a2 : Option Addr) (n2 c2 : Nat) (r1 r2 r : Int) (hr : firstNZ [r1, r2] = r) (hr0 : r = 0) (hne : ¬ (W = W2 ∧ H = H2)) (w : World)
    (hCa : ∀ w1 : World, Below w.heap.size w w1 → Calls Tryz.prog 41 #[.agg #[.int .i64 W, .int .i64 H, .slice a n c]] w1 fun e w' => e = .returned (.int .i64 r1) ∧ Below w1.heap.size w1 w')
    (hCb : ∀ w1 : World, Below w.heap.size w w1 → Calls Tryz.prog 41 #[.agg #[.int .i64 W2, .int .i64 H2, .slice a2 n2 c2]] w1 fun e w' => e = .returned (.int .i64 r2) ∧ Below w1.heap.size w1 w') :
    Calls Tryz.prog 52 #[.agg #[.int .i64 W, .int .i64 H, .slice a n c], .agg #[.int .i64 W2, .int .i64 H2, .slice a2 n2 c2]] w fun e w' =>
      e = .returned (.tuple #[.agg #[.int .i64 0, .int .i64 0, .slice none 0 0], .int .i64 2]) ∧ Below w.heap.size w w' := by
  obtain ⟨W0, hW0⟩ : ∃ W0, ((w.alloc (.cells #[.int .i64 W, .int .i64 H, .slice a n c] 54)).alloc (.cells #[.int .i64 W2, .int .i64 H2, .slice a2 n2 c2] 54)).alloc (.cells #[.int .i64 0, .int .i64 0, .slice none 0 0] 54) = W0 := ⟨_, rfl⟩
  have hB0 : Below w.heap.size w W0 := by rw [← hW0]; exact (((Below.refl _ w).alloc (Nat.le_refl _) _).alloc (by simp) _).alloc (by simp; omega) _
  have hS0 : W0.heap.size = w.heap.size + 3 := by rw [← hW0]; simp
  have a0 : W0.cell? ⟨w.heap.size, 0, none⟩ = some (.int .i64 W) := by rw [← hW0]; simp [go_sem]
  have a1 : W0.cell? ⟨w.heap.size, 1, none⟩ = some (.int .i64 H) := by rw [← hW0]; simp [go_sem]
  have a2' : W0.cell? ⟨w.heap.size, 2, none⟩ = some (.slice a n c) := by rw [← hW0]; simp [go_sem]
  have c0 : W0.cell? ⟨w.heap.size + 1, 0, none⟩ = some (.int .i64 W2) := by rw [← hW0]; simp [go_sem]
  have c1 : W0.cell? ⟨w.heap.size + 1, 1, none⟩ = some (.int .i64 H2) := by rw [← hW0]; simp [go_sem]
  have c2' : W0.cell? ⟨w.heap.size + 1, 2, none⟩ = some (.slice a2 n2 c2) := by rw [← hW0]; simp [go_sem]
  have bz0 : W0.heap[w.heap.size + 1 + 1]? = some (.cells #[.int .i64 0, .int .i64 0, .slice none 0 0] 54 (0, 0)) := by rw [← hW0]; have h := blk_alloc_new ((w.alloc (.cells #[.int .i64 W, .int .i64 H, .slice a n c] 54)).alloc (.cells #[.int .i64 W2, .int .i64 H2, .slice a2 n2 c2] 54)) (.cells #[.int .i64 0, .int .i64 0, .slice none 0 0] 54); simpa using h
  have HKA : Hid (∀ w1 : World, Blw (w.heap.size + 3) W0 w1 → Calls Tryz.prog 41 #[.agg #[.int .i64 W, .int .i64 H, .slice a n c]] w1 fun e w' => e = .returned (.int .i64 r1) ∧ Below (w.heap.size + 3) W0 w') := Lib.hid fun w1 (h : Below (w.heap.size + 3) W0 w1) => by
    have h1 := h.size
    exact (hCa w1 (hB0.trans (h.mono (by omega)))).mono fun e w' ⟨he, hw⟩ => ⟨he, h.trans (hw.mono (by omega))⟩
  have HKB : Hid (∀ w1 : World, Blw (w.heap.size + 3) W0 w1 → Calls Tryz.prog 41 #[.agg #[.int .i64 W2, .int .i64 H2, .slice a2 n2 c2]] w1 fun e w' => e = .returned (.int .i64 r2) ∧ Below (w.heap.size + 3) W0 w') := Lib.hid fun w1 (h : Below (w.heap.size + 3) W0 w1) => by
    have h1 := h.size
    exact (hCb w1 (hB0.trans (h.mono (by omega)))).mono fun e w' ⟨he, hw⟩ => ⟨he, h.trans (hw.mono (by omega))⟩
  have HB0 := Lib.hid hB0
  have HS0 := Lib.hid hS0
  have HZB := Lib.hid bz0
  have HR := Lib.hid hr
  have hR : Blw (w.heap.size + 3) W0 W0.drew := show Below _ _ _ from (Below.refl (w.heap.size + 3) W0).drew
  clear hCa hCb hB0 hS0 bz0 hr
  go_enter Tryz.func52, Tryz.ntmps52
  go_wp2_with fail
  try rw [hW0]
  clear hW0
  go_region_held3 (fun w' => w'.cell? ⟨w.heap.size, 0, none⟩ = some (.int .i64 W) ∧ w'.cell? ⟨w.heap.size, 1, none⟩ = some (.int .i64 H) ∧ w'.cell? ⟨w.heap.size, 2, none⟩ = some (.slice a n c) ∧
      w'.cell? ⟨w.heap.size + 1, 0, none⟩ = some (.int .i64 W2) ∧ w'.cell? ⟨w.heap.size + 1, 1, none⟩ = some (.int .i64 H2) ∧ w'.cell? ⟨w.heap.size + 1, 2, none⟩ = some (.slice a2 n2 c2) ∧ Blw (w.heap.size + 3) W0 w')
    (first
      | (go_split_ands; refine ⟨?_, ?_, ?_, ?_, ?_, ?_, ?_⟩ <;> first | assumption | exact hb1 | ((rw [hb1.cell (by simp; try omega)]; assumption)))
      | (go_split_ands; refine ⟨?_, ?_, ?_, ?_, ?_, ?_, ?_⟩ <;> first | ((rw [(hb1.alloc (by have := hb1.size; have := HS0.out; omega) _).cell (by simp; try omega)]; assumption)) | exact (hb1.alloc (by have := hb1.size; have := HS0.out; omega) _ : Below _ _ _))
      | go_keep)
    (first
      | (go_at_call_of 41 (Value.agg #[.int .i64 W, .int .i64 H, .slice a n c]); refine (HKA.out _ ?_).mono ?_; rotate_left 1; rintro e w' ⟨rfl, hb1⟩; rotate_left 1; (simp [*]))
      | (go_at_call_of 41 (Value.agg #[.int .i64 W2, .int .i64 H2, .slice a2 n2 c2]); refine (HKB.out _ ?_).mono ?_; rotate_left 1; rintro e w' ⟨rfl, hb1⟩; rotate_left 1; (simp [*]))
      | ((go_at_call 91; refine (first_any _ 0 2 2 [r1, r2] rfl (by omega) _ ?_).mono ?_; rotate_left 1; rintro e w' ⟨rfl, rfl⟩; rw [HR.out]; rotate_left 1; (intro j hj; match j, hj with | 0, _ => simp [go_sem] | 1, _ => simp [go_sem]))))
  have hb2 : Below (w.heap.size + 3) W0 (w'.alloc (.cells #[.int .i64 r1, .int .i64 r2] 26)) := hb1.alloc (by have := hb1.size; have := HS0.out; omega) _
  obtain ⟨W1, hW1⟩ : ∃ W1, w'.alloc (.cells #[.int .i64 r1, .int .i64 r2] 26) = W1 := ⟨_, rfl⟩
  rw [hW1] at hb2 ⊢
  clear hW1
  have hHS := HS0.out
  have a0' := (hb2.cell (p := ⟨w.heap.size, 0, none⟩) (by show w.heap.size < _; omega)).trans a0
  have a1' := (hb2.cell (p := ⟨w.heap.size, 1, none⟩) (by show w.heap.size < _; omega)).trans a1
  have c0' := (hb2.cell (p := ⟨w.heap.size + 1, 0, none⟩) (by show w.heap.size + 1 < _; omega)).trans c0
  have c1' := (hb2.cell (p := ⟨w.heap.size + 1, 1, none⟩) (by show w.heap.size + 1 < _; omega)).trans c1
  have bP := (hb2.block (w.heap.size + 1 + 1) (by omega)).trans HZB.out
  have q0 : W1.frozen? ⟨w.heap.size + 1 + 1, 0, none⟩ = false := by simp [World.frozen?, bP]
  have q1 : W1.frozen? ⟨w.heap.size + 1 + 1, 1, none⟩ = false := by simp [World.frozen?, bP]
  have q2 : W1.frozen? ⟨w.heap.size + 1 + 1, 2, none⟩ = false := by simp [World.frozen?, bP]
  have p0 : W1.cell? ⟨w.heap.size + 1 + 1, 0, none⟩ = some (.int .i64 0) := by rw [cell_of_row W1 _ 0 _ _ (0, 0) bP]; rfl
  have p1 : W1.cell? ⟨w.heap.size + 1 + 1, 1, none⟩ = some (.int .i64 0) := by rw [cell_of_row W1 _ 1 _ _ (0, 0) bP]; rfl
  have p2 : W1.cell? ⟨w.heap.size + 1 + 1, 2, none⟩ = some (.slice none 0 0) := by rw [cell_of_row W1 _ 2 _ _ (0, 0) bP]; rfl
  have HBP := Lib.hid bP
  have HB2 := Lib.hid hb2
  clear bP hb2 hb1 a0 a1 c0 c1
  subst hr0
  by_cases h1 : W = W2
  · subst h1
    have h2 : H ≠ H2 := fun h => hne ⟨rfl, h⟩
    have e0 : (W != W) = false := by simp
    have e1 : (H != H2) = true := by simp [h2]
    clear h2 hne
    go_wp2_with fail
    obtain ⟨WF, hWF⟩ : ∃ WF, (((W1.setCell ⟨w.heap.size + 1 + 1, 0, none⟩ (.int .i64 0)).setCell ⟨w.heap.size + 1 + 1, 1, none⟩ (.int .i64 0)).setCell ⟨w.heap.size + 1 + 1, 2, none⟩ (.slice none 0 0)) = WF := ⟨_, rfl⟩
    have rF : WF.heap[w.heap.size + 1 + 1]? = some (.cells #[.int .i64 0, .int .i64 0, .slice none 0 0] 54 (0, 0)) := by rw [← hWF]; exact blk_set3 HBP.out _ _ _
    have bF : Below w.heap.size w WF := by
      rw [← hWF]
      exact (((HB0.out.trans (HB2.out.mono (by omega))).setCell (p := ⟨w.heap.size + 1 + 1, 0, none⟩) (by dsimp only; omega) _).setCell (p := ⟨w.heap.size + 1 + 1, 1, none⟩) (by dsimp only; omega) _).setCell (p := ⟨w.heap.size + 1 + 1, 2, none⟩) (by dsimp only; omega) _
    rw [hWF]
    exact bodyPost_ret (v := .tuple #[.agg #[.int .i64 0, .int .i64 0, .slice none 0 0], .int .i64 2]) (results_row_tmp Tryz.results52 _ _ (w.heap.size + 1 + 1) 54 _ (0, 0) _ rfl rF Tryz.underlying54 rfl (by kernel_rfl)) rfl ⟨rfl, bF⟩
  · have e0 : (W != W2) = true := by simp [h1]
    clear h1 hne
    go_wp2_with fail
    obtain ⟨WF, hWF⟩ : ∃ WF, (((W1.setCell ⟨w.heap.size + 1 + 1, 0, none⟩ (.int .i64 0)).setCell ⟨w.heap.size + 1 + 1, 1, none⟩ (.int .i64 0)).setCell ⟨w.heap.size + 1 + 1, 2, none⟩ (.slice none 0 0)) = WF := ⟨_, rfl⟩
    have rF : WF.heap[w.heap.size + 1 + 1]? = some (.cells #[.int .i64 0, .int .i64 0, .slice none 0 0] 54 (0, 0)) := by rw [← hWF]; exact blk_set3 HBP.out _ _ _
    have bF : Below w.heap.size w WF := by
      rw [← hWF]
      exact (((HB0.out.trans (HB2.out.mono (by omega))).setCell (p := ⟨w.heap.size + 1 + 1, 0, none⟩) (by dsimp only; omega) _).setCell (p := ⟨w.heap.size + 1 + 1, 1, none⟩) (by dsimp only; omega) _).setCell (p := ⟨w.heap.size + 1 + 1, 2, none⟩) (by dsimp only; omega) _
    rw [hWF]
    exact bodyPost_ret (v := .tuple #[.agg #[.int .i64 0, .int .i64 0, .slice none 0 0], .int .i64 2]) (results_row_tmp Tryz.results52 _ _ (w.heap.size + 1 + 1) 54 _ (0, 0) _ rfl rF Tryz.underlying54 rfl (by kernel_rfl)) rfl ⟨rfl, bF⟩
end Go.Proofs.YtlnhgplloaiiiaaGreatDoor
