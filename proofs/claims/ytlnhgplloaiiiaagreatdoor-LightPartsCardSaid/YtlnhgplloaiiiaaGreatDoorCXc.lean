/-
  The iterator over the places of a map: its contract for every loop body that keeps what lay below a number.
-/
import Derived.RangeFuncNested
import Derived.RangeFuncBound
import Derived.RangeFuncCalls
import Derived.RangeFuncLeaves
import Derived.RangeFuncBox
import Derived.Shelf.Abstract
import Derived.Shelf.RegionOpen
import Derived.WalkKit
import Derived.OwnWalkIn
import Derived.TacticsInMore
import Derived.LoopNIn
import Derived.LoopIn
import Derived.Maps.AppendAt
import Derived.Lib.Hide
import Derived.Test.YtlnhgplloaiiiaaGreatDoorProg
import Derived.Test.YtlnhgplloaiiiaaGreatDoorCWe
import Derived.Test.YtlnhgplloaiiiaaGreatDoorCWa
import Derived.Test.YtlnhgplloaiiiaaGreatDoorCWj
import Derived.Handy
import Derived.Deep.RegionHeld3
import Derived.WalkLawsBesides
import Derived.Deep.RegionWith
import Derived.StillTailTactics
namespace Go.Proofs.YtlnhgplloaiiiaaGreatDoor
open Go.RowKit Go.Shelf
set_option linter.unusedVariables false
attribute [local go_sem] Oper.semAt_some

/-- The first k places of a map that is W wide. -/
def placesTo (W k : Nat) : List (Nat × Nat) := (List.range k).map (fun i => (i % W, i / W))
theorem placesTo_succ (W y x : Nat) (hx : x < W) : placesTo W (y * W + x + 1) = placesTo W (y * W + x) ++ [(x, y)] := by
  have h1 : (y * W + x) % W = x := by rw [Nat.mul_comm, Nat.mul_add_mod]; exact Nat.mod_eq_of_lt hx
  have h2 : (y * W + x) / W = y := by
    rw [Nat.mul_comm, Nat.mul_add_div (by omega), Nat.div_eq_of_lt hx]; rfl
  simp [placesTo, List.range_succ, h1, h2]
theorem placesTo_len (W k : Nat) : (placesTo W k).length = k := by simp [placesTo]
/-- A place of a map. -/
abbrev Pl (W H : Nat) := { p : Nat × Nat // p.1 < W ∧ p.2 < H }
abbrev encP {W H : Nat} (p : Pl W H) : Array Value := #[.agg #[.int .i64 (p.1.1 : Nat), .int .i64 (p.1.2 : Nat)]]

/-- What a round must keep: the width's box. -/
def KeepsWide (Bw W : Nat) (A B : World) : Prop := A.cell? ⟨Bw, 0, none⟩ = some (.int .i64 (W : Nat)) → B.cell? ⟨Bw, 0, none⟩ = some (.int .i64 (W : Nat))
theorem KeepsWide.t {Bw W : Nat} {A B C : World} (h : KeepsWide Bw W A B) (k : KeepsWide Bw W B C) : KeepsWide Bw W A C := fun x => k (h x)
theorem KeepsWide.r (Bw W : Nat) (A : World) : KeepsWide Bw W A A := fun x => x
theorem KeepsWide.b {Bw W N : Nat} (A : World) (l : Nat) (o o' : Obj) (_ : N ≤ l) (hl : A.heap[l]? = some o) (ho : o.isCells = false) (_ : o.isWalk = false) : KeepsWide Bw W A (A.putObj l o') := fun x =>
  cell_kept x (grownBy_putObj' A l o') (fun r e => by cases e; exact ⟨o, hl, ho⟩)
theorem KeepsWide.of_below {Bw W B : Nat} {A C : World} (h : Below B A C) (hB : Bw < B) : KeepsWide Bw W A C := fun x => (h.cell (p := ⟨Bw, 0, none⟩) hB).trans x

set_option maxRecDepth 100000 in
set_option maxHeartbeats 3200000 in
theorem places1_in (F : Fence) (n : Nat) (h6 : F.fn 171) (hro : F.round = none) (hn : 1 ≤ n) (l Bh Bw W H : Nat) (hW : W ≤ 64) (hH : H ≤ 64) (J Jx : List (Pl W H) → World → Prop)
    (hY : ∀ pre x W1, J pre W1 → pre.length < W * H → YieldAt F (n - 1) Tryz.prog l (encP x) W1 fun e W' =>
      (e = .returned (.bool true) ∧ J (pre ++ [x]) W' ∧ KeepsWide Bw W W1 W') ∨ (e = .returned (.bool false) ∧ Jx (pre ++ [x]) W'))
    (w : World) (hcH : w.cell? ⟨Bh, 0, none⟩ = some (.int .i64 H)) (hcW : w.cell? ⟨Bw, 0, none⟩ = some (.int .i64 W)) (h0 : J [] w) :
    CallsIn F n Tryz.prog 171 #[.func (.yield l) #[] #[], .pointer (some ⟨Bh, 0, none⟩), .pointer (some ⟨Bw, 0, none⟩)] w fun e W' => (∃ v, e = .returned v) ∧
      ((∃ ys : List (Pl W H), ys.map Subtype.val = placesTo W (H * W) ∧ J ys W') ∨ (∃ pre, True ∧ Jx pre W')) := by
  have HY := Lib.hid hY
  clear hY
  have i1 : ((W : Int) ≤ 64) := by omega
  have i2 : ((H : Int) ≤ 64) := by omega
  refine callsIn_of_wp Tryz.func171 rfl h6 ?_ hro
  simp only [Tryz.ntmps171, List.size_toArray, List.length_cons, List.length_nil, Nat.reduceAdd, Nat.reduceSub, Array.replicate_succ, Array.replicate_zero, List.push_toArray, List.append_toArray, List.nil_append, List.cons_append]
  gi_wp2
  gi_loopw [7] (fun yv wr => ∃ y : Nat, y ≤ H ∧ yv = .int .i64 y ∧ wr.cell? ⟨Bw, 0, none⟩ = some (.int .i64 W) ∧ ∃ ps : List (Pl W H), ps.map Subtype.val = placesTo W (y * W) ∧ J ps wr)
    (fun yv _ => H - (intOf yv).toNat)
  case atStart => exact ⟨0, Nat.zero_le _, rfl, hcW, [], by simp [placesTo], h0⟩
  case round =>
    obtain ⟨y, hy, rfl, hcw, ps, hps, hJ⟩ := hrel
    have HPS := Lib.hid hps
    clear hps
    clear hcH hcW h0
    by_cases hlt : y < H
    · gi_wp2
      gi_loopw [11] (fun xv wi => ∃ x : Nat, x ≤ W ∧ xv = .int .i64 x ∧ wi.cell? ⟨Bw, 0, none⟩ = some (.int .i64 W) ∧ ∃ ps : List (Pl W H), ps.map Subtype.val = placesTo W (y * W + x) ∧ J ps wi)
        (fun xv _ => W - (intOf xv).toNat)
      case atStart => exact ⟨0, Nat.zero_le _, rfl, hcw, ps, by simpa using HPS.out, hJ⟩
      case round =>
        obtain ⟨x, hx, rfl, hcw2, qs, hqs, hJ2⟩ := hrel
        have HQS := Lib.hid hqs
        clear hcw hJ hqs
        by_cases hxl : x < W
        · have hlen : qs.length < W * H := by
            rw [← List.length_map (f := Subtype.val), HQS.out, placesTo_len]
            have : y * W + W ≤ H * W := by
              have := Nat.mul_le_mul_right W (show y + 1 ≤ H by omega)
              rw [Nat.add_mul] at this; omega
            rw [Nat.mul_comm W H]; omega
          have hS := placesTo_succ W y x hxl
          obtain ⟨fn, tmps, assign, body, hy1, hR⟩ := HY.out _ ⟨(x, y), hxl, hlt⟩ wr hJ2 hlen
          have HS := Lib.hid hS
          have HR := Lib.hid hR
          clear hS hR hlen
          gi_wp2
          refine HR.out.mono ?_
          rintro e W3 (⟨rfl, hJ3, hk3⟩ | ⟨rfl, hJx3⟩)
          · have hcw3 : W3.cell? ⟨Bw, 0, none⟩ = some (.int .i64 W) := hk3 hcw2
            gi_wp2
            go_roundw
            case rel => exact ⟨x + 1, by omega, by go_num, hcw3, _, by rw [← Nat.add_assoc, HS.out, List.map_append, HQS.out]; rfl, hJ3⟩
            case measure => simp [intOf]; omega
          · gi_wp2
            refine bodyPost_ret (results_none rfl _ _ _) rfl ?_
            exact ⟨⟨_, rfl⟩, .inr ⟨_, trivial, hJx3⟩⟩
        · gi_wp2
          go_roundw
          case rel =>
            refine ⟨y + 1, by omega, by go_num, hcw2, qs, ?_, hJ2⟩
            obtain rfl : x = W := by omega
            rw [Nat.add_mul, Nat.one_mul]; exact HQS.out
          case measure => simp [intOf]; omega
    · gi_wp2
      go_end0
      obtain rfl : y = H := by omega
      exact ⟨⟨_, rfl⟩, .inl ⟨ps, HPS.out, hJ⟩⟩

set_option maxHeartbeats 1000000 in
/-- The iterator's maker: both sides are boxed; the function value captures the boxes. -/
theorem places_in (F : Fence) (n : Nat) (h5 : F.fn 110) (hro : F.round = none) (W H : Int) (w : World) :
    CallsIn F n Tryz.prog 110 #[.int .i64 W, .int .i64 H] w fun e w' => e = .returned (.func (.func 171) #[] #[.pointer (some ⟨w.heap.size + 1, 0, none⟩), .pointer (some ⟨w.heap.size, 0, none⟩)]) ∧
      w' = (w.alloc (.cells #[.int .i64 W] 3)).alloc (.cells #[.int .i64 H] 3) := by
  refine callsIn_of_wp Tryz.func110 rfl h5 ?_ hro
  simp only [Tryz.ntmps110, List.size_toArray, List.length_cons, List.length_nil, Nat.reduceAdd, Nat.reduceSub, Array.replicate_succ, Array.replicate_zero, List.push_toArray, List.append_toArray, List.nil_append, List.cons_append]
  gi_wp2
  go_ret
  exact ⟨rfl, rfl⟩

/-- The places, in their order; or a part of them, where a round has said 'no more'. -/
theorem places_stops (F : Fence) (n : Nat) (h6 : F.fn 171) (hro : F.round = none) (hn : 1 ≤ n) (Bh Bw W H : Nat) (hW : W ≤ 64) (hH : H ≤ 64) (w : World) (hbh : Bh < w.heap.size) (hbw : Bw < w.heap.size)
    (hcH : w.cell? ⟨Bh, 0, none⟩ = some (.int .i64 H)) (hcW : w.cell? ⟨Bw, 0, none⟩ = some (.int .i64 W)) :
    SeqStopsK F n Tryz.prog 171 #[.pointer (some ⟨Bh, 0, none⟩), .pointer (some ⟨Bw, 0, none⟩)] encP (KeepsWide Bw W) (fun ys : List (Pl W H) => ys.map Subtype.val = placesTo W (H * W)) (fun _ => True) (W * H) w := fun l J Jx W1 hW1 _ _ hY h0 =>
  places1_in F n h6 hro hn l Bh Bw W H hW hH J Jx hY W1 ((hW1.cell (p := ⟨Bh, 0, none⟩) hbh).trans hcH) ((hW1.cell (p := ⟨Bw, 0, none⟩) hbw).trans hcW) h0
end Go.Proofs.YtlnhgplloaiiiaaGreatDoor

/-
  Contract of grid.toMap where the integers are those of samples: the map.
-/
namespace Go.Proofs.YtlnhgplloaiiiaaGreatDoor
open Go.RowKit
set_option linter.unusedVariables false

set_option maxRecDepth 100000 in
set_option maxHeartbeats 3200000 in
theorem toMap_any (W H : Int) (g o n c : Nat) (ks : List Int) (hk : ks.length = n) (hn : n ≤ 4096) (w : World) (hg : g < w.heap.size) (hc : ∀ j, j < n → w.cell? ⟨g, o + j, none⟩ = some (.int .i64 (ks[j]?.getD 0))) (hs : ∀ j, j < n → (ks[j]?.getD 0).natAbs ≤ 16384) :
    Calls Tryz.prog 128 #[.agg #[.int .i64 W, .int .i64 H, .slice (some ⟨g, o, none⟩) n c]] w fun e w' =>
      e = .returned (.tuple #[.agg #[.int .i64 W, .int .i64 H, .slice (some ⟨w.heap.size + 2, 0, none⟩) n n], .int .i64 0]) ∧ w'.ownsRow (w.heap.size + 2) 23 1 (.slice (some ⟨w.heap.size + 2, 0, none⟩) n n) n (ks.map (fun n : Int => Value.float .f32 (smpOf n))) ∧ Below w.heap.size w w' := by
  have K : ∀ w1 : World, Below w.heap.size w w1 → w1.heap.size = w.heap.size + 2 → Calls Tryz.prog 172 #[.slice (some ⟨g, o, none⟩) n c, .func (.func 107) #[] #[]] w1 fun e w' =>
      e = .returned (.slice (some ⟨w.heap.size + 2, 0, none⟩) n n) ∧ w'.ownsRow (w.heap.size + 2) 23 1 (.slice (some ⟨w.heap.size + 2, 0, none⟩) n n) n (ks.map (fun n : Int => Value.float .f32 (smpOf n))) ∧ Below (w.heap.size + 2) w1 w' := by
    intro w1 h1 hs1
    rw [← hs1]
    exact mapped_sample g o n c ks ks hk hk hn (by omega) (fun j hj => (h1.cell (by exact hg)).trans (hc j hj)) (fun j hj => ⟨rfl, Nat.lt_of_le_of_lt (hs j hj) (by decide)⟩)
  have HK := Lib.hid K
  have HC := Lib.hid hc
  have HS := Lib.hid hs
  clear K hc hs hk
  go_enter Tryz.func128, Tryz.ntmps128
  go_wp2_with fail
  obtain ⟨W0, hW0⟩ : ∃ W0, ((w.alloc (.cells #[.int .i64 W, .int .i64 H, .slice (some ⟨g, o, none⟩) n c] 165)).alloc (.cells #[.int .i64 0, .int .i64 0, .slice none 0 0] 54)) = W0 := ⟨_, rfl⟩
  have hB0 : Below w.heap.size w W0 := by rw [← hW0]; exact ((Below.refl _ w).alloc (Nat.le_refl _) _).alloc (by simp) _
  have hz0 : W0.heap.size = w.heap.size + 2 := by rw [← hW0]; simp
  have c0 : W0.cell? ⟨w.heap.size, 0, none⟩ = some (.int .i64 W) := by rw [← hW0]; simp [go_sem]
  have c1 : W0.cell? ⟨w.heap.size, 1, none⟩ = some (.int .i64 H) := by rw [← hW0]; simp [go_sem]
  have c2 : W0.cell? ⟨w.heap.size, 2, none⟩ = some (.slice (some ⟨g, o, none⟩) n c) := by rw [← hW0]; simp [go_sem]
  have t0 : W0.cell? ⟨w.heap.size + 1, 0, none⟩ = some (.int .i64 0) := by rw [← hW0]; simp [go_sem]
  have t1 : W0.cell? ⟨w.heap.size + 1, 1, none⟩ = some (.int .i64 0) := by rw [← hW0]; simp [go_sem]
  have t2 : W0.cell? ⟨w.heap.size + 1, 2, none⟩ = some (.slice none 0 0) := by rw [← hW0]; simp [go_sem]
  have fz : ∀ j, W0.frozen? ⟨w.heap.size + 1, j, none⟩ = false := fun j => by rw [← hW0]; simp [go_sem]
  rw [hW0]
  have HB0 := Lib.hid hB0
  have HZ0 := Lib.hid hz0
  clear hW0 hB0 hz0
  go_loop [9] (fun i => ∃ k : Nat, k ≤ n ∧ i = .int .i64 k) (fun i => n - (intOf i).toNat)
  case atStart => exact ⟨0, Nat.zero_le _, rfl⟩
  case round =>
    obtain ⟨k, hkn, rfl⟩ := hrel
    by_cases hlt : k < n
    · have hcell : W0.cell? ⟨g, o + k, none⟩ = some (.int .i64 (ks[k]?.getD 0)) := (HB0.out.cell (by exact hg)).trans (HC.out k hlt)
      have hs := HS.out k hlt
      obtain ⟨v, hv⟩ : ∃ v, ks[k]?.getD 0 = v := ⟨_, rfl⟩
      rw [hv] at hcell hs
      have h1 : ¬ (v < -16384) := by omega
      have h2 : ¬ (16384 < v) := by omega
      clear hs hv
      go_wp2
      go_round
      case rel => exact ⟨k + 1, by omega, by go_num⟩
      case measure => simp [intOf]; omega
    · go_wp2_with fail
      go_region_held3 (fun w' => w'.cell? ⟨w.heap.size, 0, none⟩ = some (.int .i64 W) ∧ w'.cell? ⟨w.heap.size, 1, none⟩ = some (.int .i64 H) ∧ w'.cell? ⟨w.heap.size, 2, none⟩ = some (.slice (some ⟨g, o, none⟩) n c))
        (first | go_keep | (go_split_ands; refine ⟨?_, ?_, ?_⟩ <;> rw [hb1.cell (by simp; try omega)] <;> assumption))
        ((go_at_call 172; refine (HK.out _ HB0.out.drew (by show W0.heap.size = _; exact HZ0.out)).mono ?_; rintro e w' ⟨rfl, hown, hb1⟩
          have s0 : w'.cell? ⟨w.heap.size + 1, 0, none⟩ = some (.int .i64 0) := by rw [hb1.cell (by simp)]; assumption
          have s1 : w'.cell? ⟨w.heap.size + 1, 1, none⟩ = some (.int .i64 0) := by rw [hb1.cell (by simp)]; assumption
          have s2 : w'.cell? ⟨w.heap.size + 1, 2, none⟩ = some (.slice none 0 0) := by rw [hb1.cell (by simp)]; assumption
          have f0 : w'.frozen? ⟨w.heap.size + 1, 0, none⟩ = false := by rw [hb1.frozen (by simp)]; exact fz 0
          have f1 : w'.frozen? ⟨w.heap.size + 1, 1, none⟩ = false := by rw [hb1.frozen (by simp)]; exact fz 1
          have f2 : w'.frozen? ⟨w.heap.size + 1, 2, none⟩ = false := by rw [hb1.frozen (by simp)]; exact fz 2))
      all_goals
        go_wp2
        refine bodyPost_ret (v := .tuple #[.agg #[.int .i64 W, .int .i64 H, .slice (some ⟨w.heap.size + 2, 0, none⟩) n n], .int .i64 0]) (by simp [results, Tryz.results128, go_sem, s0, s1, s2]) rfl ⟨rfl, ?_, ?_⟩
        · exact ownsRow_setCell_below (ownsRow_setCell_below (ownsRow_setCell_below hown (by simp) _) (by simp) _) (by simp) _
        · exact (((HB0.out.drew.trans (hb1.mono (by omega))).setCell (p := ⟨w.heap.size + 1, 0, none⟩) (by simp) _).setCell (p := ⟨w.heap.size + 1, 1, none⟩) (by simp) _).setCell (p := ⟨w.heap.size + 1, 2, none⟩) (by simp) _
end Go.Proofs.YtlnhgplloaiiiaaGreatDoor

/-
  Contracts: the integers of a right map; whether a map is small: if it is told so, it is right and has at most 36 samples.
-/
namespace Go.Proofs.YtlnhgplloaiiiaaGreatDoor
open Go.RowKit
set_option linter.unusedVariables false

theorem Tryz.infoInt : (Tryz.prog.info? 3).map (fun i => (i.zero, i.size, i.bytes)) = some (some (.int .i64 0), 1, 8) := by kernel_rfl

set_option maxRecDepth 100000 in
set_option maxHeartbeats 3200000 in
theorem levels_any {w : World} (W H : Int) (b o n c : Nat) (xs : List Nat) (ks : List Int) (hw : Words w b o n xs ks) (hn1 : 1 ≤ n) (hb : b < w.heap.size) :
    Calls Tryz.prog 124 #[.agg #[.int .i64 W, .int .i64 H, .slice (some ⟨b, o, none⟩) n c]] w fun e w' =>
      ∃ v, e = .returned v ∧ w'.ownsRow w.heap.size 3 1 v n (ks.map (Value.int .i64)) ∧ Below w.heap.size w w' := by
  obtain ⟨i0, hi, hz0, hz1, hz2⟩ := info_parts Tryz.infoInt
  have hsm := hw.small
  have HW := Lib.hid hw
  clear hw
  go_enter Tryz.func124, Tryz.ntmps124
  go_wp2
  obtain ⟨W0, hW0⟩ : ∃ W0, w.alloc (.cells #[.int .i64 W, .int .i64 H, .slice (some ⟨b, o, none⟩) n c] 48) = W0 := ⟨_, rfl⟩
  have hB0 : Below w.heap.size w W0 := by rw [← hW0]; exact (Below.refl _ w).alloc (Nat.le_refl _) _
  have hS0 : W0.heap.size = w.heap.size + 1 := by rw [← hW0]; simp
  have hC0 : W0.cell? ⟨w.heap.size, 2, none⟩ = some (.slice (some ⟨b, o, none⟩) n c) := by rw [← hW0]; simp [go_sem]
  rw [hW0]
  have HS0 := Lib.hid hS0
  have HB0 := Lib.hid hB0
  clear hW0 hB0
  go_loopw [3, 4] (fun out i wr => ∃ k : Nat, k ≤ n ∧ i = .int .i64 k ∧ wr.ownsRow (w.heap.size + 1) 3 1 out k ((ks.take k).map (Value.int .i64)) ∧ Below (w.heap.size + 1) W0 wr)
    (fun _ i _ => n - (intOf i).toNat)
  case atStart => exact ⟨0, Nat.zero_le _, rfl, World.ownsRow_nil _ _ _ _, Below.refl _ _⟩
  case round =>
    obtain ⟨k, hk, rfl, hown, hnx⟩ := hrel
    have hbox : wr.cell? ⟨w.heap.size, 2, none⟩ = some (.slice (some ⟨b, o, none⟩) n c) := (hnx.cell (by simp)).trans hC0
    have hsz : w.heap.size + 1 ≤ wr.heap.size := by have := hnx.size; have := HS0.out; omega
    by_cases hlt : k < n
    · have hcell : wr.cell? ⟨b, o + k, none⟩ = some (.float .f32 (xs[k]?.getD 0)) := (hnx.cell (p := ⟨b, o + k, none⟩) (by show b < _; omega)).trans ((HB0.out.cell (p := ⟨b, o + k, none⟩) (by exact hb)).trans (HW.out.cells k hlt))
      have K := Lib.hid (HW.out.smps k hlt)
      have K2 := Lib.hid (Nat.lt_of_le_of_lt (HW.out.sizes k hlt) (show 16384 < 2 ^ 40 by decide))
      clear hS0
      go_wp2_with (first
        | (go_at_call 111; refine (sixteenths_any _ _ K.out K2.out _).mono ?_; rintro e w' ⟨rfl, rfl⟩)
        | (at_builtin; refine wpList_append_own _ rfl (.tmp 12) (.tmp 19) 25 rfl (w.heap.size + 1) 3 i0 (.int .i64 0) 1 8 Tryz.underlying25 hi hz0 hz1 hz2 rfl (by decide) _ k _ rfl (hown.alloc _) ⟨wr.heap.size, 0, none⟩ 1 1 [.int .i64 (ks[k]?.getD 0)] rfl rfl (cell_one_new _ _ _) (by intro u hu; simp at hu; subst hu; rfl) (by unfold maxLen; omega) (by omega) (by simp; omega) ?_; intro v' w1 hown1 hgrow1 _))
      have hlt' := hown.lt
      go_roundw
      case rel => exact ⟨k + 1, by omega, by go_num, by rw [take_map_succ (Value.int .i64) ks k (by have := HW.out.lenk; omega) 0]; exact hown1, (hnx.alloc hsz _).grown hgrow1 (by simp; omega) (fun j hj => (hlt' j hj).1)⟩
      case measure => simp [intOf]; omega
    · go_wp2
      go_ret
      obtain rfl : k = n := by omega
      rw [List.take_of_length_le (by have := HW.out.lenk; omega)] at hown
      refine ⟨_, rfl, ⟨hown.1, ?_⟩, HB0.out.trans (hnx.mono (by omega))⟩
      rcases hown.2 with h | ⟨g, cap, cur, h1, h2, h3⟩
      · exact .inl h
      · exact .inr ⟨g, cap, cur, h1, by omega, h3⟩
end Go.Proofs.YtlnhgplloaiiiaaGreatDoor

/-
  Contracts of writeNumber and readNumber for two and four bytes, and of checksum.
-/
namespace Go.Proofs.YtlnhgplloaiiiaaGreatDoor
open Go.RowKit
set_option linter.unusedVariables false

/-- Byte k of a number, the lowest one first. -/
def byt (v : Int) (k : Nat) : Int := v / 256 ^ k % 256
theorem byt_bd (v : Int) (k : Nat) : 0 ≤ byt v k ∧ byt v k ≤ 255 := by unfold byt; omega

theorem byt_0 (v : Int) : v % 256 = byt v 0 := by unfold byt; simp
theorem byt_1 (v : Int) : v / 256 % 256 = byt v 1 := by unfold byt; simp
theorem byt_2 (v : Int) : v / 256 / 256 % 256 = byt v 2 := by unfold byt; omega
theorem byt_3' (v : Int) (h0 : 0 ≤ v) (h1 : v ≤ 4294967295) : v / 256 / 256 / 256 = byt v 3 := by unfold byt; omega
theorem byt_1' (v : Int) (h0 : 0 ≤ v) (h1 : v ≤ 65535) : v / 256 = byt v 1 := by unfold byt; omega

set_option maxRecDepth 100000 in
set_option maxHeartbeats 3200000 in
theorem write4_any {x0 x1 x2 x3 : Int} (w : World) (f o : Nat) (c : Nat) (v : Int) (h0 : 0 ≤ v) (h1 : v ≤ 4294967295)
    (c0 : w.cell? ⟨f, o, none⟩ = some (.int .u8 x0)) (c1 : w.cell? ⟨f, o + 1, none⟩ = some (.int .u8 x1)) (c2 : w.cell? ⟨f, o + 2, none⟩ = some (.int .u8 x2)) (c3 : w.cell? ⟨f, o + 3, none⟩ = some (.int .u8 x3))
    (f0 : w.frozen? ⟨f, o, none⟩ = false) (f1 : w.frozen? ⟨f, o + 1, none⟩ = false) (f2 : w.frozen? ⟨f, o + 2, none⟩ = false) (f3 : w.frozen? ⟨f, o + 3, none⟩ = false) :
    Calls Tryz.prog 174 #[.slice (some ⟨f, o, none⟩) 4 c, .int .i64 v] w fun e w' => e = .returned (.tuple #[]) ∧
      w' = (((w.setCell ⟨f, o + 3, none⟩ (.int .u8 (byt v 0))).setCell ⟨f, o + 2, none⟩ (.int .u8 (byt v 1))).setCell ⟨f, o + 1, none⟩ (.int .u8 (byt v 2))).setCell ⟨f, o, none⟩ (.int .u8 (byt v 3)) := by
  go_enter Tryz.func174, Tryz.ntmps174
  go_wp2
  refine wp_loop_rounds 5 ?_
  rw [rounds_succ]
  go_wp2
  rw [rounds_succ]
  go_wp2
  rw [rounds_succ]
  go_wp2
  rw [rounds_succ]
  go_wp2
  rw [rounds_succ]
  go_wp2
  go_end0
  refine ⟨rfl, ?_⟩
  rw [byt_0, byt_1, byt_2, byt_3' v h0 h1]

set_option maxRecDepth 100000 in
set_option maxHeartbeats 3200000 in
theorem write2_any {x0 x1 : Int} (w : World) (f o : Nat) (c : Nat) (v : Int) (h0 : 0 ≤ v) (h1 : v ≤ 65535)
    (c0 : w.cell? ⟨f, o, none⟩ = some (.int .u8 x0)) (c1 : w.cell? ⟨f, o + 1, none⟩ = some (.int .u8 x1))
    (f0 : w.frozen? ⟨f, o, none⟩ = false) (f1 : w.frozen? ⟨f, o + 1, none⟩ = false) :
    Calls Tryz.prog 174 #[.slice (some ⟨f, o, none⟩) 2 c, .int .i64 v] w fun e w' => e = .returned (.tuple #[]) ∧
      w' = (w.setCell ⟨f, o + 1, none⟩ (.int .u8 (byt v 0))).setCell ⟨f, o, none⟩ (.int .u8 (byt v 1)) := by
  go_enter Tryz.func174, Tryz.ntmps174
  go_wp2
  refine wp_loop_rounds 3 ?_
  rw [rounds_succ]
  go_wp2
  rw [rounds_succ]
  go_wp2
  rw [rounds_succ]
  go_wp2
  go_end0
  refine ⟨rfl, ?_⟩
  rw [byt_0, byt_1' v h0 h1]

/-- The number of some bytes, the highest first. -/
def numOf (l : List Int) : Int := l.foldl (fun n b => n * 256 + b) 0
/-- The checksum of some bytes. -/
def chkOf (l : List Int) : Int := l.foldl (fun x b => (277 * x + b) % 16777199) 1
theorem chk_bd (l : List Int) : 0 ≤ chkOf l ∧ chkOf l ≤ 16777198 := by
  unfold chkOf
  suffices h : ∀ x : Int, 0 ≤ x ∧ x ≤ 16777198 → 0 ≤ l.foldl (fun x b => (277 * x + b) % 16777199) x ∧ l.foldl (fun x b => (277 * x + b) % 16777199) x ≤ 16777198 from h 1 (by omega)
  induction l with
  | nil => intro x h; exact h
  | cons b r ih => intro x h; rw [List.foldl_cons]; exact ih _ (by omega)
theorem foldl_take_succ {α β : Type} (f : β → α → β) (x : β) (l : List α) (k : Nat) (hk : k < l.length) (d : α) : (l.take (k + 1)).foldl f x = f ((l.take k).foldl f x) (l[k]?.getD d) := by
  rw [List.take_succ_eq_append_getElem hk, List.foldl_append, List.getElem?_eq_getElem hk]; rfl

set_option maxHeartbeats 1600000 in
theorem checksum_any (f o n c : Nat) (l : List Int) (w : World) (hl : l.length = n) (hm : n ≤ 100000) (hbd : ∀ j, j < n → 0 ≤ l[j]?.getD 0 ∧ l[j]?.getD 0 ≤ 255)
    (hc : ∀ j, j < n → w.cell? ⟨f, o + j, none⟩ = some (.int .u8 (l[j]?.getD 0))) :
    Calls Tryz.prog 163 #[.slice (some ⟨f, o, none⟩) n c] w fun e w' => e = .returned (.int .i64 (chkOf l)) ∧ w = w' := by
  have Hl := Lib.hid hl
  have Hc := Lib.hid hc
  have Hb := Lib.hid hbd
  clear hl hc hbd
  go_enter Tryz.func163, Tryz.ntmps163
  go_wp2
  go_loop [3, 8] (fun x i => ∃ k : Nat, k ≤ n ∧ i = .int .i64 k ∧ x = .int .i64 (chkOf (l.take k))) (fun _ i => n - (intOf i).toNat)
  case atStart => exact ⟨0, Nat.zero_le _, rfl, rfl⟩
  case round =>
    obtain ⟨k, hk, rfl, rfl⟩ := hrel
    have hx := chk_bd (l.take k)
    by_cases hlt : k < n
    · have hcell := Hc.out k hlt
      have hb := Hb.out k hlt
      have HS : Hid (chkOf (l.take (k + 1)) = (277 * chkOf (l.take k) + l[k]?.getD 0) % 16777199) := foldl_take_succ _ _ _ _ (by have := Hl.out; omega) 0
      go_wp2
      go_round
      case rel => exact ⟨k + 1, by omega, by go_num, by rw [HS.out]⟩
      case measure => simp [intOf]; omega
    · go_wp2
      go_ret
      exact ⟨ret_int (by rw [List.take_of_length_le (by have := Hl.out; omega)]), rfl⟩

theorem ofInt_i64 (a : Nat) (h : a < 9223372036854775808) : (BitVec.ofInt 64 (a : Int)).toNat = a := by
  simp; omega
theorem or_shift (a b : Int) (h0 : 0 ≤ a) (h1 : a ≤ 1099511627776) (h2 : 0 ≤ b) (h3 : b ≤ 255) : bits BinOp.or IntKind.i64 (a * 256) b = a * 256 + b := by
  obtain ⟨A, rfl⟩ := Int.eq_ofNat_of_zero_le h0
  obtain ⟨B, rfl⟩ := Int.eq_ofNat_of_zero_le h2
  have e : ((A : Int) * 256) = ((A * 256 : Nat) : Int) := by omega
  rw [e]
  show IntKind.i64.wrap ((BitVec.ofInt 64 ((A * 256 : Nat) : Int) ||| BitVec.ofInt 64 (B : Int)).toNat : Int) = _
  have k := Nat.two_pow_add_eq_or_of_lt (i := 8) (b := B) (by omega) A
  rw [BitVec.toNat_or, ofInt_i64 _ (by omega), ofInt_i64 _ (by omega), Nat.mul_comm A 256, ← k, IntWalk.i64_in _ ⟨by omega, by omega⟩]
  omega

/-- One more than the greatest number of k bytes. -/
def lim : Nat → Int
  | 0 => 1
  | 1 => 256
  | 2 => 65536
  | 3 => 16777216
  | _ => 4294967296
theorem lim_succ (k : Nat) (h : k < 4) : lim (k + 1) = lim k * 256 ∧ lim k ≤ 16777216 := by
  match k, h with
  | 0, _ => decide
  | 1, _ => decide
  | 2, _ => decide
  | 3, _ => decide

set_option maxHeartbeats 1600000 in
theorem readNumber_any (f o n c : Nat) (l : List Int) (w : World) (hl : l.length = n) (hm : n ≤ 4) (hbd : ∀ j, j < n → 0 ≤ l[j]?.getD 0 ∧ l[j]?.getD 0 ≤ 255)
    (hc : ∀ j, j < n → w.cell? ⟨f, o + j, none⟩ = some (.int .u8 (l[j]?.getD 0))) :
    Calls Tryz.prog 176 #[.slice (some ⟨f, o, none⟩) n c] w fun e w' => e = .returned (.int .i64 (numOf l)) ∧ w = w' := by
  have Hl := Lib.hid hl
  have Hc := Lib.hid hc
  have Hb := Lib.hid hbd
  clear hl hc hbd
  go_enter Tryz.func176, Tryz.ntmps176
  go_wp2
  go_loop [3, 8] (fun x i => ∃ k : Nat, k ≤ n ∧ i = .int .i64 k ∧ x = .int .i64 (numOf (l.take k)) ∧ 0 ≤ numOf (l.take k) ∧ numOf (l.take k) < lim k) (fun _ i => n - (intOf i).toNat)
  case atStart => exact ⟨0, Nat.zero_le _, rfl, rfl, by simp [numOf], by simp [numOf, lim]⟩
  case round =>
    obtain ⟨k, hk, rfl, rfl, hx0, hx1⟩ := hrel
    by_cases hlt : k < n
    · have hcell := Hc.out k hlt
      have hb := Hb.out k hlt
      have HS : Hid (numOf (l.take (k + 1)) = numOf (l.take k) * 256 + l[k]?.getD 0) := foldl_take_succ _ _ _ _ (by have := Hl.out; omega) 0
      have hL := lim_succ k (by omega)
      have hx2 : numOf (l.take k) ≤ 4294967295 := by omega
      have hor := or_shift (numOf (l.take k)) (l[k]?.getD 0) hx0 (by omega) hb.1 hb.2
      have H1 := Lib.hid hx1
      have HL := Lib.hid hL
      clear hx1 hL
      go_wp2
      go_round
      case rel => exact ⟨k + 1, by omega, by go_num, by rw [HS.out], by rw [HS.out]; omega, by rw [HS.out, HL.out.1]; have := H1.out; omega⟩
      case measure => simp [intOf]; omega
    · go_wp2
      go_ret
      exact ⟨ret_int (by rw [List.take_of_length_le (by have := Hl.out; omega)]), rfl⟩
end Go.Proofs.YtlnhgplloaiiiaaGreatDoor

/-
  Contracts of limited and checkTelegram for a telegram whose numbers are in their ranges.
-/
namespace Go.Proofs.YtlnhgplloaiiiaaGreatDoor
open Go.RowKit
set_option linter.unusedVariables false

/-- The numbers of a telegram are in their ranges. -/
structure GoodT (s c o x y z : Int) : Prop where
  st : 0 ≤ s ∧ s ≤ 255
  ct : 0 ≤ c ∧ c ≤ 65535
  od : 0 ≤ o ∧ o ≤ 255
  vx : -1048576 ≤ x ∧ x ≤ 1048576
  vy : -1048576 ≤ y ∧ y ≤ 1048576
  vz : -1048576 ≤ z ∧ z ≤ 1048576

abbrev telV (s c o x y z : Int) : Value := .agg #[.int .i64 s, .int .i64 c, .int .i64 o, .int .i64 x, .int .i64 y, .int .i64 z]

set_option maxHeartbeats 800000 in
theorem reach_any (n : Int) (h0 : -1048576 ≤ n) (h1 : n ≤ 1048576) (w : World) :
    Calls Tryz.prog 187 #[.int .i64 n] w fun e w' => e = .returned (.int .i64 n) ∧ w = w' := by
  go_enter Tryz.func187, Tryz.ntmps187
  go_wp2
  go_ret
  exact ⟨rfl, rfl⟩


theorem max_low {n m : Int} (h : m ≤ n) : ∀ (ts : Array TypeId) (t : TypeId) (w : World), (Builtin.max_ ts t #[.int .i64 n, .int .i64 m]).run Tryz.prog w = .ok (.int .i64 n) w := fun ts t w => by
  rw [run_max_int2, if_neg (by omega)]
theorem min_high {n m : Int} (h : n ≤ m) : ∀ (ts : Array TypeId) (t : TypeId) (w : World), (Builtin.min_ ts t #[.int .i64 n, .int .i64 m]).run Tryz.prog w = .ok (.int .i64 n) w := fun ts t w => by
  rw [run_min_int2, if_neg (by omega)]

set_option maxRecDepth 100000 in
set_option maxHeartbeats 1600000 in
theorem limited_any (s c o x y z : Int) (h : GoodT s c o x y z) (w : World) :
    Calls Tryz.prog 173 #[.agg #[.int .i64 s, .int .i64 c, .int .i64 o, .int .i64 x, .int .i64 y, .int .i64 z]] w fun e w' =>
      e = .returned (.agg #[.int .i64 s, .int .i64 c, .int .i64 o, .int .i64 x, .int .i64 y, .int .i64 z]) ∧ Below w.heap.size w w' := by
  obtain ⟨h1, h2, h3, h4, h5, h6⟩ := h
  have m1 := max_low h1.1
  have m2 := max_low h2.1
  have m3 := max_low h3.1
  have n1 := min_high h1.2
  have n2 := min_high h2.2
  have n3 := min_high h3.2
  clear h1 h2 h3
  go_enter Tryz.func173, Tryz.ntmps173
  go_wp2_with fail
  refine wp_region_still_tail 29 (by kernel_rfl) (by kernel_rfl) ?_
  simp only [List.take_succ_cons, List.take_zero, List.drop_succ_cons, List.drop_zero]
  obtain ⟨W1, hW1⟩ : ∃ W1, W1 = (((w.alloc (.cells #[.int .i64 s, .int .i64 c, .int .i64 o, .int .i64 x, .int .i64 y, .int .i64 z] 112)).alloc (.cells #[.int .i64 0, .int .i64 0, .int .i64 0, .int .i64 0, .int .i64 0, .int .i64 0] 112)).drew) := ⟨_, rfl⟩
  change wpStill _ _ (((w.alloc (.cells #[.int .i64 s, .int .i64 c, .int .i64 o, .int .i64 x, .int .i64 y, .int .i64 z] 112)).alloc (.cells #[.int .i64 0, .int .i64 0, .int .i64 0, .int .i64 0, .int .i64 0, .int .i64 0] 112)).drew) (fun a' => wpList _ _ _ _ a' (((w.alloc (.cells #[.int .i64 s, .int .i64 c, .int .i64 o, .int .i64 x, .int .i64 y, .int .i64 z] 112)).alloc (.cells #[.int .i64 0, .int .i64 0, .int .i64 0, .int .i64 0, .int .i64 0, .int .i64 0] 112)).drew)) _ _
  rw [← hW1]
  have c0 : W1.cell? ⟨w.heap.size, 0, none⟩ = some (.int .i64 s) := by rw [hW1]; simp [go_sem]
  have c1 : W1.cell? ⟨w.heap.size, 1, none⟩ = some (.int .i64 c) := by rw [hW1]; simp [go_sem]
  have c2 : W1.cell? ⟨w.heap.size, 2, none⟩ = some (.int .i64 o) := by rw [hW1]; simp [go_sem]
  have c3 : W1.cell? ⟨w.heap.size, 3, none⟩ = some (.int .i64 x) := by rw [hW1]; simp [go_sem]
  have c4 : W1.cell? ⟨w.heap.size, 4, none⟩ = some (.int .i64 y) := by rw [hW1]; simp [go_sem]
  have c5 : W1.cell? ⟨w.heap.size, 5, none⟩ = some (.int .i64 z) := by rw [hW1]; simp [go_sem]
  have k4 := (reach_any x h4.1 h4.2 W1).mono fun e w' (h : _ ∧ _) => (⟨h.1, h.2.symm⟩ : e = .returned (.int .i64 x) ∧ w' = W1)
  have k5 := (reach_any y h5.1 h5.2 W1).mono fun e w' (h : _ ∧ _) => (⟨h.1, h.2.symm⟩ : e = .returned (.int .i64 y) ∧ w' = W1)
  have k6 := (reach_any z h6.1 h6.2 W1).mono fun e w' (h : _ ∧ _) => (⟨h.1, h.2.symm⟩ : e = .returned (.int .i64 z) ∧ w' = W1)
  have K4 := Lib.hid k4
  have K5 := Lib.hid k5
  have K6 := Lib.hid k6
  have HW1 := Lib.hid hW1
  clear k4 k5 k6 h4 h5 h6 hW1
  repeat still_step
  still_call K4.out
  repeat still_step
  still_call K5.out
  repeat still_step
  still_call K6.out
  repeat still_step
  refine wpStill_nil ?_
  rw [HW1.out]
  go_wp2
  refine bodyPost_ret (v := .agg #[.int .i64 s, .int .i64 c, .int .i64 o, .int .i64 x, .int .i64 y, .int .i64 z]) (by simp [results, Tryz.results173, go_sem]) rfl ⟨rfl, ?_⟩
  go_grown
end Go.Proofs.YtlnhgplloaiiiaaGreatDoor

/-
  Contract of checkTelegram for a telegram whose numbers are in their ranges.
-/
namespace Go.Proofs.YtlnhgplloaiiiaaGreatDoor
open Go.RowKit
set_option linter.unusedVariables false

set_option maxRecDepth 100000 in
set_option maxHeartbeats 1600000 in
theorem checkTelegram_any (s c o x y z : Int) (h : GoodT s c o x y z) (w : World) :
    Calls Tryz.prog 143 #[.agg #[.int .i64 s, .int .i64 c, .int .i64 o, .int .i64 x, .int .i64 y, .int .i64 z]] w fun e w' =>
      e = .returned (.int .i64 0) ∧ Below w.heap.size w w' := by
  have K := Lib.hid (limited_any s c o x y z h)
  clear h
  go_enter Tryz.func143, Tryz.ntmps143
  go_wp2_with fail
  go_region_held3 (fun w' => w'.cell? ⟨w.heap.size, 0, none⟩ = some (.int .i64 s) ∧ w'.cell? ⟨w.heap.size, 1, none⟩ = some (.int .i64 c) ∧ w'.cell? ⟨w.heap.size, 2, none⟩ = some (.int .i64 o) ∧ w'.cell? ⟨w.heap.size, 3, none⟩ = some (.int .i64 x) ∧ w'.cell? ⟨w.heap.size, 4, none⟩ = some (.int .i64 y) ∧ w'.cell? ⟨w.heap.size, 5, none⟩ = some (.int .i64 z))
    (first | go_keep | (go_split_ands; refine ⟨?_, ?_, ?_, ?_, ?_, ?_⟩ <;> (rw [hb.cell (by simp)]; assumption)))
    ((go_at_call 173; refine (K.out _).mono ?_; rintro e w' ⟨rfl, hb⟩))
  all_goals
    go_wp2
    go_ret
    exact ⟨rfl, ((Below.refl _ w).alloc (Nat.le_refl _) _).drew.trans (hb.mono (by simp))⟩
end Go.Proofs.YtlnhgplloaiiiaaGreatDoor
