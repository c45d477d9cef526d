/-
  The iterator over the places of a map: its contract for every loop body that keeps what lay below a number.
-/
import Derived.RangeFuncNested
import Derived.RangeFuncBound
import Derived.RangeFuncCalls
import Derived.RangeFuncLeaves
import Derived.RangeFuncBox
import Derived.Shelf.Abstract
import Derived.Shelf.RegionOpen
import Derived.WalkKit
import Derived.OwnWalkIn
import Derived.TacticsInMore
import Derived.LoopNIn
import Derived.LoopIn
import Derived.Maps.AppendAt
import Derived.Lib.Hide
import Derived.Test.YtfdkmmllemkogaaProg
namespace Go.Proofs.Ytfdkmmllemkogaa
open Go.RowKit Go.Shelf
set_option linter.unusedVariables false
attribute [local go_sem] Oper.semAt_some

/-- The first k places of a map that is W wide. -/
def placesTo (W k : Nat) : List (Nat × Nat) := (List.range k).map (fun i => (i % W, i / W))
theorem placesTo_succ (W y x : Nat) (hx : x < W) : placesTo W (y * W + x + 1) = placesTo W (y * W + x) ++ [(x, y)] := by
  have h1 : (y * W + x) % W = x := by rw [Nat.mul_comm, Nat.mul_add_mod]; exact Nat.mod_eq_of_lt hx
  have h2 : (y * W + x) / W = y := by
    rw [Nat.mul_comm, Nat.mul_add_div (by omega), Nat.div_eq_of_lt hx]; rfl
  simp [placesTo, List.range_succ, h1, h2]
theorem placesTo_len (W k : Nat) : (placesTo W k).length = k := by simp [placesTo]
/-- A place of a map. -/
abbrev Pl (W H : Nat) := { p : Nat × Nat // p.1 < W ∧ p.2 < H }
abbrev encP {W H : Nat} (p : Pl W H) : Array Value := #[.agg #[.int .i64 (p.1.1 : Nat), .int .i64 (p.1.2 : Nat)]]

/-- What a round must keep: the width's box. -/
def KeepsWide (Bw W : Nat) (A B : World) : Prop := A.cell? ⟨Bw, 0, none⟩ = some (.int .i64 (W : Nat)) → B.cell? ⟨Bw, 0, none⟩ = some (.int .i64 (W : Nat))
theorem KeepsWide.t {Bw W : Nat} {A B C : World} (h : KeepsWide Bw W A B) (k : KeepsWide Bw W B C) : KeepsWide Bw W A C := fun x => k (h x)
theorem KeepsWide.r (Bw W : Nat) (A : World) : KeepsWide Bw W A A := fun x => x
theorem KeepsWide.b {Bw W N : Nat} (A : World) (l : Nat) (o o' : Obj) (_ : N ≤ l) (hl : A.heap[l]? = some o) (ho : o.isCells = false) (_ : o.isWalk = false) : KeepsWide Bw W A (A.putObj l o') := fun x =>
  cell_kept x (grownBy_putObj' A l o') (fun r e => by cases e; exact ⟨o, hl, ho⟩)
theorem KeepsWide.of_below {Bw W B : Nat} {A C : World} (h : Below B A C) (hB : Bw < B) : KeepsWide Bw W A C := fun x => (h.cell (p := ⟨Bw, 0, none⟩) hB).trans x

set_option maxRecDepth 100000 in
set_option maxHeartbeats 3200000 in
theorem places1_in (F : Fence) (n : Nat) (h6 : F.fn 61) (hro : F.round = none) (hn : 1 ≤ n) (l Bh Bw W H : Nat) (hW : W ≤ 64) (hH : H ≤ 64) (J Jx : List (Pl W H) → World → Prop)
    (hY : ∀ pre x W1, J pre W1 → pre.length < W * H → YieldAt F (n - 1) Try.prog l (encP x) W1 fun e W' =>
      (e = .returned (.bool true) ∧ J (pre ++ [x]) W' ∧ KeepsWide Bw W W1 W') ∨ (e = .returned (.bool false) ∧ Jx (pre ++ [x]) W'))
    (w : World) (hcH : w.cell? ⟨Bh, 0, none⟩ = some (.int .i64 H)) (hcW : w.cell? ⟨Bw, 0, none⟩ = some (.int .i64 W)) (h0 : J [] w) :
    CallsIn F n Try.prog 61 #[.func (.yield l) #[] #[], .pointer (some ⟨Bh, 0, none⟩), .pointer (some ⟨Bw, 0, none⟩)] w fun e W' => (∃ v, e = .returned v) ∧
      ((∃ ys : List (Pl W H), ys.map Subtype.val = placesTo W (H * W) ∧ J ys W') ∨ (∃ pre, True ∧ Jx pre W')) := by
  have HY := Lib.hid hY
  clear hY
  have i1 : ((W : Int) ≤ 64) := by omega
  have i2 : ((H : Int) ≤ 64) := by omega
  refine callsIn_of_wp Try.func61 rfl h6 ?_ hro
  simp only [Try.ntmps61, List.size_toArray, List.length_cons, List.length_nil, Nat.reduceAdd, Nat.reduceSub, Array.replicate_succ, Array.replicate_zero, List.push_toArray, List.append_toArray, List.nil_append, List.cons_append]
  gi_wp2
  gi_loopw [7] (fun yv wr => ∃ y : Nat, y ≤ H ∧ yv = .int .i64 y ∧ wr.cell? ⟨Bw, 0, none⟩ = some (.int .i64 W) ∧ ∃ ps : List (Pl W H), ps.map Subtype.val = placesTo W (y * W) ∧ J ps wr)
    (fun yv _ => H - (intOf yv).toNat)
  case atStart => exact ⟨0, Nat.zero_le _, rfl, hcW, [], by simp [placesTo], h0⟩
  case round =>
    obtain ⟨y, hy, rfl, hcw, ps, hps, hJ⟩ := hrel
    have HPS := Lib.hid hps
    clear hps
    clear hcH hcW h0
    by_cases hlt : y < H
    · gi_wp2
      gi_loopw [11] (fun xv wi => ∃ x : Nat, x ≤ W ∧ xv = .int .i64 x ∧ wi.cell? ⟨Bw, 0, none⟩ = some (.int .i64 W) ∧ ∃ ps : List (Pl W H), ps.map Subtype.val = placesTo W (y * W + x) ∧ J ps wi)
        (fun xv _ => W - (intOf xv).toNat)
      case atStart => exact ⟨0, Nat.zero_le _, rfl, hcw, ps, by simpa using HPS.out, hJ⟩
      case round =>
        obtain ⟨x, hx, rfl, hcw2, qs, hqs, hJ2⟩ := hrel
        have HQS := Lib.hid hqs
        clear hcw hJ hqs
        by_cases hxl : x < W
        · have hlen : qs.length < W * H := by
            rw [← List.length_map (f := Subtype.val), HQS.out, placesTo_len]
            have : y * W + W ≤ H * W := by
              have := Nat.mul_le_mul_right W (show y + 1 ≤ H by omega)
              rw [Nat.add_mul] at this; omega
            rw [Nat.mul_comm W H]; omega
          have hS := placesTo_succ W y x hxl
          obtain ⟨fn, tmps, assign, body, hy1, hR⟩ := HY.out _ ⟨(x, y), hxl, hlt⟩ wr hJ2 hlen
          have HS := Lib.hid hS
          have HR := Lib.hid hR
          clear hS hR hlen
          gi_wp2
          refine HR.out.mono ?_
          rintro e W3 (⟨rfl, hJ3, hk3⟩ | ⟨rfl, hJx3⟩)
          · have hcw3 : W3.cell? ⟨Bw, 0, none⟩ = some (.int .i64 W) := hk3 hcw2
            gi_wp2
            go_roundw
            case rel => exact ⟨x + 1, by omega, by go_num, hcw3, _, by rw [← Nat.add_assoc, HS.out, List.map_append, HQS.out]; rfl, hJ3⟩
            case measure => simp [intOf]; omega
          · gi_wp2
            refine bodyPost_ret (results_none rfl _ _ _) rfl ?_
            exact ⟨⟨_, rfl⟩, .inr ⟨_, trivial, hJx3⟩⟩
        · gi_wp2
          go_roundw
          case rel =>
            refine ⟨y + 1, by omega, by go_num, hcw2, qs, ?_, hJ2⟩
            obtain rfl : x = W := by omega
            rw [Nat.add_mul, Nat.one_mul]; exact HQS.out
          case measure => simp [intOf]; omega
    · gi_wp2
      go_end0
      obtain rfl : y = H := by omega
      exact ⟨⟨_, rfl⟩, .inl ⟨ps, HPS.out, hJ⟩⟩

set_option maxHeartbeats 1000000 in
/-- The iterator's maker: both sides are boxed; the function value captures the boxes. -/
theorem places_in (F : Fence) (n : Nat) (h5 : F.fn 42) (hro : F.round = none) (W H : Int) (w : World) :
    CallsIn F n Try.prog 42 #[.int .i64 W, .int .i64 H] w fun e w' => e = .returned (.func (.func 61) #[] #[.pointer (some ⟨w.heap.size + 1, 0, none⟩), .pointer (some ⟨w.heap.size, 0, none⟩)]) ∧
      w' = (w.alloc (.cells #[.int .i64 W] 3)).alloc (.cells #[.int .i64 H] 3) := by
  refine callsIn_of_wp Try.func42 rfl h5 ?_ hro
  simp only [Try.ntmps42, List.size_toArray, List.length_cons, List.length_nil, Nat.reduceAdd, Nat.reduceSub, Array.replicate_succ, Array.replicate_zero, List.push_toArray, List.append_toArray, List.nil_append, List.cons_append]
  gi_wp2
  go_ret
  exact ⟨rfl, rfl⟩

/-- The places, in their order; or a part of them, where a round has said 'no more'. -/
theorem places_stops (F : Fence) (n : Nat) (h6 : F.fn 61) (hro : F.round = none) (hn : 1 ≤ n) (Bh Bw W H : Nat) (hW : W ≤ 64) (hH : H ≤ 64) (w : World) (hbh : Bh < w.heap.size) (hbw : Bw < w.heap.size)
    (hcH : w.cell? ⟨Bh, 0, none⟩ = some (.int .i64 H)) (hcW : w.cell? ⟨Bw, 0, none⟩ = some (.int .i64 W)) :
    SeqStopsK F n Try.prog 61 #[.pointer (some ⟨Bh, 0, none⟩), .pointer (some ⟨Bw, 0, none⟩)] encP (KeepsWide Bw W) (fun ys : List (Pl W H) => ys.map Subtype.val = placesTo W (H * W)) (fun _ => True) (W * H) w := fun l J Jx W1 hW1 _ _ hY h0 =>
  places1_in F n h6 hro hn l Bh Bw W H hW hH J Jx hY W1 ((hW1.cell (p := ⟨Bh, 0, none⟩) hbh).trans hcH) ((hW1.cell (p := ⟨Bw, 0, none⟩) hbw).trans hcW) h0
end Go.Proofs.Ytfdkmmllemkogaa
