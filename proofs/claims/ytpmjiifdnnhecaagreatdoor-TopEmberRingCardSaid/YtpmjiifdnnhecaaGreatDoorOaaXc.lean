/-
  The iterator over the places of a map: its contract for every loop body that keeps what lay below a number.
-/
import Derived.RangeFuncNested
import Derived.RangeFuncBound
import Derived.RangeFuncCalls
import Derived.RangeFuncLeaves
import Derived.RangeFuncBox
import Derived.Shelf.Abstract
import Derived.Shelf.RegionOpen
import Derived.WalkKit
import Derived.OwnWalkIn
import Derived.TacticsInMore
import Derived.LoopNIn
import Derived.LoopIn
import Derived.Maps.AppendAt
import Derived.Lib.Hide
import Derived.Test.YtpmjiifdnnhecaaGreatDoorProg
import Derived.Test.YtpmjiifdnnhecaaGreatDoorRows
import Derived.WalkSpells
import Derived.WalkLawsBesides
import Derived.BigQuiet
import Derived.Deep.QuietTactic
import Derived.Laws.FloatArith
import Derived.Laws.BitsAllLaws
namespace Go.Proofs.YtpmjiifdnnhecaaGreatDoor
open Go.RowKit Go.Shelf
set_option linter.unusedVariables false
attribute [local go_sem] Oper.semAt_some

/-- The first k places of a map that is W wide. -/
def placesTo (W k : Nat) : List (Nat × Nat) := (List.range k).map (fun i => (i % W, i / W))
theorem placesTo_succ (W y x : Nat) (hx : x < W) : placesTo W (y * W + x + 1) = placesTo W (y * W + x) ++ [(x, y)] := by
  have h1 : (y * W + x) % W = x := by rw [Nat.mul_comm, Nat.mul_add_mod]; exact Nat.mod_eq_of_lt hx
  have h2 : (y * W + x) / W = y := by
    rw [Nat.mul_comm, Nat.mul_add_div (by omega), Nat.div_eq_of_lt hx]; rfl
  simp [placesTo, List.range_succ, h1, h2]
theorem placesTo_len (W k : Nat) : (placesTo W k).length = k := by simp [placesTo]
/-- A place of a map. -/
abbrev Pl (W H : Nat) := { p : Nat × Nat // p.1 < W ∧ p.2 < H }
abbrev encP {W H : Nat} (p : Pl W H) : Array Value := #[.agg #[.int .i64 (p.1.1 : Nat), .int .i64 (p.1.2 : Nat)]]

/-- What a round must keep: the width's box. -/
def KeepsWide (Bw W : Nat) (A B : World) : Prop := A.cell? ⟨Bw, 0, none⟩ = some (.int .i64 (W : Nat)) → B.cell? ⟨Bw, 0, none⟩ = some (.int .i64 (W : Nat))
theorem KeepsWide.t {Bw W : Nat} {A B C : World} (h : KeepsWide Bw W A B) (k : KeepsWide Bw W B C) : KeepsWide Bw W A C := fun x => k (h x)
theorem KeepsWide.r (Bw W : Nat) (A : World) : KeepsWide Bw W A A := fun x => x
theorem KeepsWide.b {Bw W N : Nat} (A : World) (l : Nat) (o o' : Obj) (_ : N ≤ l) (hl : A.heap[l]? = some o) (ho : o.isCells = false) (_ : o.isWalk = false) : KeepsWide Bw W A (A.putObj l o') := fun x =>
  cell_kept x (grownBy_putObj' A l o') (fun r e => by cases e; exact ⟨o, hl, ho⟩)
theorem KeepsWide.of_below {Bw W B : Nat} {A C : World} (h : Below B A C) (hB : Bw < B) : KeepsWide Bw W A C := fun x => (h.cell (p := ⟨Bw, 0, none⟩) hB).trans x

set_option maxRecDepth 100000 in
set_option maxHeartbeats 3200000 in
theorem places1_in (F : Fence) (n : Nat) (h6 : F.fn 201) (hro : F.round = none) (hn : 1 ≤ n) (l Bh Bw W H : Nat) (hW : W ≤ 64) (hH : H ≤ 64) (J Jx : List (Pl W H) → World → Prop)
    (hY : ∀ pre x W1, J pre W1 → pre.length < W * H → YieldAt F (n - 1) Tryz.prog l (encP x) W1 fun e W' =>
      (e = .returned (.bool true) ∧ J (pre ++ [x]) W' ∧ KeepsWide Bw W W1 W') ∨ (e = .returned (.bool false) ∧ Jx (pre ++ [x]) W'))
    (w : World) (hcH : w.cell? ⟨Bh, 0, none⟩ = some (.int .i64 H)) (hcW : w.cell? ⟨Bw, 0, none⟩ = some (.int .i64 W)) (h0 : J [] w) :
    CallsIn F n Tryz.prog 201 #[.func (.yield l) #[] #[], .pointer (some ⟨Bh, 0, none⟩), .pointer (some ⟨Bw, 0, none⟩)] w fun e W' => (∃ v, e = .returned v) ∧
      ((∃ ys : List (Pl W H), ys.map Subtype.val = placesTo W (H * W) ∧ J ys W') ∨ (∃ pre, True ∧ Jx pre W')) := by
  have HY := Lib.hid hY
  clear hY
  have i1 : ((W : Int) ≤ 64) := by omega
  have i2 : ((H : Int) ≤ 64) := by omega
  refine callsIn_of_wp Tryz.func201 rfl h6 ?_ hro
  simp only [Tryz.ntmps201, List.size_toArray, List.length_cons, List.length_nil, Nat.reduceAdd, Nat.reduceSub, Array.replicate_succ, Array.replicate_zero, List.push_toArray, List.append_toArray, List.nil_append, List.cons_append]
  gi_wp2
  gi_loopw [7] (fun yv wr => ∃ y : Nat, y ≤ H ∧ yv = .int .i64 y ∧ wr.cell? ⟨Bw, 0, none⟩ = some (.int .i64 W) ∧ ∃ ps : List (Pl W H), ps.map Subtype.val = placesTo W (y * W) ∧ J ps wr)
    (fun yv _ => H - (intOf yv).toNat)
  case atStart => exact ⟨0, Nat.zero_le _, rfl, hcW, [], by simp [placesTo], h0⟩
  case round =>
    obtain ⟨y, hy, rfl, hcw, ps, hps, hJ⟩ := hrel
    have HPS := Lib.hid hps
    clear hps
    clear hcH hcW h0
    by_cases hlt : y < H
    · gi_wp2
      gi_loopw [11] (fun xv wi => ∃ x : Nat, x ≤ W ∧ xv = .int .i64 x ∧ wi.cell? ⟨Bw, 0, none⟩ = some (.int .i64 W) ∧ ∃ ps : List (Pl W H), ps.map Subtype.val = placesTo W (y * W + x) ∧ J ps wi)
        (fun xv _ => W - (intOf xv).toNat)
      case atStart => exact ⟨0, Nat.zero_le _, rfl, hcw, ps, by simpa using HPS.out, hJ⟩
      case round =>
        obtain ⟨x, hx, rfl, hcw2, qs, hqs, hJ2⟩ := hrel
        have HQS := Lib.hid hqs
        clear hcw hJ hqs
        by_cases hxl : x < W
        · have hlen : qs.length < W * H := by
            rw [← List.length_map (f := Subtype.val), HQS.out, placesTo_len]
            have : y * W + W ≤ H * W := by
              have := Nat.mul_le_mul_right W (show y + 1 ≤ H by omega)
              rw [Nat.add_mul] at this; omega
            rw [Nat.mul_comm W H]; omega
          have hS := placesTo_succ W y x hxl
          obtain ⟨fn, tmps, assign, body, hy1, hR⟩ := HY.out _ ⟨(x, y), hxl, hlt⟩ wr hJ2 hlen
          have HS := Lib.hid hS
          have HR := Lib.hid hR
          clear hS hR hlen
          gi_wp2
          refine HR.out.mono ?_
          rintro e W3 (⟨rfl, hJ3, hk3⟩ | ⟨rfl, hJx3⟩)
          · have hcw3 : W3.cell? ⟨Bw, 0, none⟩ = some (.int .i64 W) := hk3 hcw2
            gi_wp2
            go_roundw
            case rel => exact ⟨x + 1, by omega, by go_num, hcw3, _, by rw [← Nat.add_assoc, HS.out, List.map_append, HQS.out]; rfl, hJ3⟩
            case measure => simp [intOf]; omega
          · gi_wp2
            refine bodyPost_ret (results_none rfl _ _ _) rfl ?_
            exact ⟨⟨_, rfl⟩, .inr ⟨_, trivial, hJx3⟩⟩
        · gi_wp2
          go_roundw
          case rel =>
            refine ⟨y + 1, by omega, by go_num, hcw2, qs, ?_, hJ2⟩
            obtain rfl : x = W := by omega
            rw [Nat.add_mul, Nat.one_mul]; exact HQS.out
          case measure => simp [intOf]; omega
    · gi_wp2
      go_end0
      obtain rfl : y = H := by omega
      exact ⟨⟨_, rfl⟩, .inl ⟨ps, HPS.out, hJ⟩⟩

set_option maxHeartbeats 1000000 in
/-- The iterator's maker: both sides are boxed; the function value captures the boxes. -/
theorem places_in (F : Fence) (n : Nat) (h5 : F.fn 149) (hro : F.round = none) (W H : Int) (w : World) :
    CallsIn F n Tryz.prog 149 #[.int .i64 W, .int .i64 H] w fun e w' => e = .returned (.func (.func 201) #[] #[.pointer (some ⟨w.heap.size + 1, 0, none⟩), .pointer (some ⟨w.heap.size, 0, none⟩)]) ∧
      w' = (w.alloc (.cells #[.int .i64 W] 3)).alloc (.cells #[.int .i64 H] 3) := by
  refine callsIn_of_wp Tryz.func149 rfl h5 ?_ hro
  simp only [Tryz.ntmps149, List.size_toArray, List.length_cons, List.length_nil, Nat.reduceAdd, Nat.reduceSub, Array.replicate_succ, Array.replicate_zero, List.push_toArray, List.append_toArray, List.nil_append, List.cons_append]
  gi_wp2
  go_ret
  exact ⟨rfl, rfl⟩

/-- The places, in their order; or a part of them, where a round has said 'no more'. -/
theorem places_stops (F : Fence) (n : Nat) (h6 : F.fn 201) (hro : F.round = none) (hn : 1 ≤ n) (Bh Bw W H : Nat) (hW : W ≤ 64) (hH : H ≤ 64) (w : World) (hbh : Bh < w.heap.size) (hbw : Bw < w.heap.size)
    (hcH : w.cell? ⟨Bh, 0, none⟩ = some (.int .i64 H)) (hcW : w.cell? ⟨Bw, 0, none⟩ = some (.int .i64 W)) :
    SeqStopsK F n Tryz.prog 201 #[.pointer (some ⟨Bh, 0, none⟩), .pointer (some ⟨Bw, 0, none⟩)] encP (KeepsWide Bw W) (fun ys : List (Pl W H) => ys.map Subtype.val = placesTo W (H * W)) (fun _ => True) (W * H) w := fun l J Jx W1 hW1 _ _ hY h0 =>
  places1_in F n h6 hro hn l Bh Bw W H hW hH J Jx hY W1 ((hW1.cell (p := ⟨Bh, 0, none⟩) hbh).trans hcH) ((hW1.cell (p := ⟨Bw, 0, none⟩) hbw).trans hcW) h0
end Go.Proofs.YtpmjiifdnnhecaaGreatDoor

/-
  Contracts of small functions of the program and of the reference (ranges, sides, sums of places): what each returns, for all arguments in the ranges that are written at each theorem.
-/
namespace Go.Proofs.YtpmjiifdnnhecaaGreatDoor
open Go.RowKit

def rangeErr (n lo hi : Int) : Int := if n < lo ∨ hi < n then 3 else 0
theorem rangeErr_in {n lo hi : Int} (h1 : lo ≤ n) (h2 : n ≤ hi) : rangeErr n lo hi = 0 := by unfold rangeErr; rw [if_neg (by omega)]
theorem rangeErr_out {n lo hi : Int} (h : n < lo ∨ hi < n) : rangeErr n lo hi = 3 := by unfold rangeErr; rw [if_pos h]
theorem rangeErr_zero {n lo hi : Int} (h : rangeErr n lo hi = 0) : lo ≤ n ∧ n ≤ hi := by
  unfold rangeErr at h; split at h
  · cases h
  · omega

theorem ret_int {k : IntKind} {a b : Int} (h : a = b) : Ending.returned (.int k a) = .returned (.int k b) := by rw [h]

set_option maxHeartbeats 400000 in
theorem when_any (b : Bool) (n : Int) (w : World) :
    Calls Tryz.prog 87 #[.bool b, .int .i64 n] w fun e w' => e = .returned (.int .i64 (if b then n else 0)) ∧ w = w' := by
  cases b
  · go_enter Tryz.func87, Tryz.ntmps87
    go_wp2
    go_ret
    exact ⟨rfl, rfl⟩
  · go_enter Tryz.func87, Tryz.ntmps87
    go_wp2
    go_ret
    exact ⟨rfl, rfl⟩

set_option maxHeartbeats 400000 in
theorem refCheckRange_any (n lo hi : Int) (w : World) :
    Calls Tryz.prog 85 #[.int .i64 n, .int .i64 lo, .int .i64 hi] w fun e w' => e = .returned (.int .i64 (rangeErr n lo hi)) ∧ w = w' := by
  by_cases h1 : n < lo
  · rw [rangeErr_out (.inl h1)]
    go_enter Tryz.func85, Tryz.ntmps85
    go_wp2_with (go_at_call 87; refine (when_any true 3 _).mono ?_; rintro e w' ⟨rfl, rfl⟩)
    go_ret
    exact ⟨rfl, rfl⟩
  · by_cases h2 : hi < n
    · rw [rangeErr_out (.inr h2)]
      go_enter Tryz.func85, Tryz.ntmps85
      go_wp2_with (go_at_call 87; refine (when_any true 3 _).mono ?_; rintro e w' ⟨rfl, rfl⟩)
      go_ret
      exact ⟨rfl, rfl⟩
    · rw [rangeErr_in (by omega) (by omega)]
      go_enter Tryz.func85, Tryz.ntmps85
      go_wp2_with (go_at_call 87; refine (when_any false 3 _).mono ?_; rintro e w' ⟨rfl, rfl⟩)
      go_ret
      exact ⟨rfl, rfl⟩

set_option maxHeartbeats 400000 in
theorem cwhen_any (b : Bool) (n : Int) (w : World) :
    Calls Tryz.prog 105 #[.bool b, .int .i64 n] w fun e w' => e = .returned (.int .i64 (if b then n else 0)) ∧ w = w' := by
  cases b
  · go_enter Tryz.func105, Tryz.ntmps105
    go_wp2
    go_ret
    exact ⟨rfl, rfl⟩
  · go_enter Tryz.func105, Tryz.ntmps105
    go_wp2
    go_ret
    exact ⟨rfl, rfl⟩

set_option maxHeartbeats 400000 in
theorem checkRange_any (n lo hi : Int) (w : World) :
    Calls Tryz.prog 89 #[.int .i64 n, .int .i64 lo, .int .i64 hi] w fun e w' => e = .returned (.int .i64 (rangeErr n lo hi)) ∧ w = w' := by
  by_cases h1 : n < lo
  · rw [rangeErr_out (.inl h1)]
    go_enter Tryz.func89, Tryz.ntmps89
    go_wp2_with (go_at_call 105; refine (cwhen_any true 3 _).mono ?_; rintro e w' ⟨rfl, rfl⟩)
    go_ret
    exact ⟨rfl, rfl⟩
  · by_cases h2 : hi < n
    · rw [rangeErr_out (.inr h2)]
      go_enter Tryz.func89, Tryz.ntmps89
      go_wp2_with (go_at_call 105; refine (cwhen_any true 3 _).mono ?_; rintro e w' ⟨rfl, rfl⟩)
      go_ret
      exact ⟨rfl, rfl⟩
    · rw [rangeErr_in (by omega) (by omega)]
      go_enter Tryz.func89, Tryz.ntmps89
      go_wp2_with (go_at_call 105; refine (cwhen_any false 3 _).mono ?_; rintro e w' ⟨rfl, rfl⟩)
      go_ret
      exact ⟨rfl, rfl⟩

set_option maxHeartbeats 400000 in
theorem refCheckSide_any (n : Int) (w : World) :
    Calls Tryz.prog 145 #[.int .i64 n] w fun e w' => e = .returned (.int .i64 (rangeErr n 1 64)) ∧ w = w' := by
  go_enter Tryz.func145, Tryz.ntmps145
  go_wp2_with (go_at_call 85; refine (refCheckRange_any n 1 64 _).mono ?_; rintro e w' ⟨rfl, rfl⟩)
  go_ret
  exact ⟨rfl, rfl⟩

set_option maxHeartbeats 400000 in
theorem checkSide_any (n : Int) (w : World) :
    Calls Tryz.prog 137 #[.int .i64 n] w fun e w' => e = .returned (.int .i64 (rangeErr n 1 64)) ∧ w = w' := by
  go_enter Tryz.func137, Tryz.ntmps137
  go_wp2_with (go_at_call 89; refine (checkRange_any n 1 64 _).mono ?_; rintro e w' ⟨rfl, rfl⟩)
  go_ret
  exact ⟨rfl, rfl⟩

/-- Rounded down: Go's quotient and remainder of a number below 0. -/
theorem tdiv_neg_floor {a b : Int} (ha : a < 0) (hb : 1 ≤ b) : (a.tmod b < 0 → a.tdiv b - 1 = a / b) ∧ (¬ a.tmod b < 0 → a.tdiv b = a / b) ∧ a ≤ a.tdiv b ∧ a.tdiv b ≤ 0 := by
  obtain ⟨c, rfl⟩ : ∃ c, a = -c := ⟨-a, by omega⟩
  have hc : 0 ≤ c := by omega
  have e1 : (-c).tdiv b = -(c / b) := by rw [Int.neg_tdiv, Int.tdiv_eq_ediv_of_nonneg hc]
  have e2 : (-c).tmod b = -(c % b) := by rw [Int.neg_tmod, Int.tmod_eq_emod_of_nonneg hc]
  have k := Int.emod_add_mul_ediv c b
  have k0 := Int.emod_nonneg c (show b ≠ 0 by omega)
  have k1 := Int.emod_lt_of_pos c (show 0 < b by omega)
  have k2 : 0 ≤ c / b := Int.ediv_nonneg hc (by omega)
  have k3 : c / b ≤ c := Int.ediv_le_self _ hc
  rw [e1, e2]
  refine ⟨fun h => ?_, fun h => ?_, by omega, by omega⟩
  · refine (((Int.ediv_emod_unique (a := -c) (b := b) (r := b - c % b) (q := -(c / b) - 1) (by omega)).2 ⟨?_, by omega, by omega⟩).1).symm
    rw [Int.mul_sub, Int.mul_neg, Int.mul_one]; omega
  · refine (((Int.ediv_emod_unique (a := -c) (b := b) (r := 0) (q := -(c / b)) (by omega)).2 ⟨?_, by omega, by omega⟩).1).symm
    rw [Int.mul_neg]; omega

set_option maxHeartbeats 800000 in
theorem lowered_any (a b : Int) (h0 : -1099511627776 ≤ a) (h1 : a ≤ 1099511627776) (h2 : 1 ≤ b) (h3 : b ≤ 1099511627776) (w : World) :
    Calls Tryz.prog 150 #[.int .i64 a, .int .i64 b] w fun e w' => e = .returned (.int .i64 (a / b)) ∧ w = w' := by
  by_cases hn : 0 ≤ a
  · have hm : ¬ (a % b < 0) := by have := Int.emod_nonneg a (show b ≠ 0 by omega); omega
    go_enter Tryz.func150, Tryz.ntmps150
    go_wp2
    go_ret
    exact ⟨rfl, rfl⟩
  · obtain ⟨f1, f2, f3, f4⟩ := tdiv_neg_floor (show a < 0 by omega) h2
    by_cases hm : a.tmod b < 0
    all_goals
      have E : Hid ((a.tmod b < 0 → a.tdiv b - 1 = a / b) ∧ (¬ a.tmod b < 0 → a.tdiv b = a / b)) := ⟨f1, f2⟩
      have H := Lib.hid hm
      clear f1 f2
      go_enter Tryz.func150, Tryz.ntmps150
      go_wp2
      go_ret
      exact ⟨ret_int (by first | exact E.out.1 H.out | exact E.out.2 H.out), rfl⟩
end Go.Proofs.YtpmjiifdnnhecaaGreatDoor

/-
  Plain facts on binary floating point: the nearest word of a number that the format has, and what that word reads as; no Go, no program.
  Condition: none beyond the hypotheses written at each theorem.
-/
namespace Go.Proofs.YtpmjiifdnnhecaaGreatDoor
open Ieee

theorem log2_mul_pow (a d : Nat) (ha : a ≠ 0) : (a * 2 ^ d).log2 = a.log2 + d := by
  induction d with
  | zero => simp
  | succ d ih =>
    have hp : 0 < 2 ^ d := Nat.two_pow_pos d
    have h0 : a * 2 ^ d ≠ 0 := Nat.mul_ne_zero ha (by omega)
    have e : a * 2 ^ (d + 1) = 2 * (a * 2 ^ d) := by rw [Nat.pow_succ]; ac_rfl
    rw [e, Nat.log2_two_mul h0, ih]; omega

theorem cut_whole (neg : Bool) (n drop q : Nat) (h : n = q * 2 ^ drop) (hd : drop ≤ n.log2 + 2) : Toward.even.cut neg n drop = q := by
  have hp : 0 < 2 ^ drop := Nat.two_pow_pos drop
  have h1 : n / 2 ^ drop = q := by rw [h]; exact Nat.mul_div_cancel _ hp
  have h2 : n % 2 ^ drop = 0 := by rw [h]; exact Nat.mul_mod_left _ _
  unfold Toward.cut
  simp only [Nat.min_eq_left hd, Nat.one_shiftLeft, h1, h2]
  have h3 : decide (2 ^ drop < 2 * 0) = false := by simp
  have h4 : (2 ^ drop == 2 * 0) = false := by simp
  simp [h4]

/-- The place of the last digit that is kept. -/
def lastOf (f : Format) (a : Nat) (place : Int) : Int := max (place + a.log2 - f.fractionBits) f.leastPlace

theorem nearest_exact (f : Format) (neg : Bool) (a d : Nat) (place : Int) (ha : a ≠ 0) (hw : a.log2 ≤ f.fractionBits) (hp : f.leastPlace ≤ place) :
    f.nearest neg (a * 2 ^ d) (place - d) = f.word neg (min ((lastOf f a place - f.leastPlace).toNat * f.binade + a * 2 ^ (place - lastOf f a place).toNat) f.infRung) := by
  have hpd : 0 < 2 ^ d := Nat.two_pow_pos d
  have h0 : a * 2 ^ d ≠ 0 := Nat.mul_ne_zero ha (by omega)
  unfold Format.nearest
  rw [if_neg h0]
  have hl : max (place - (d : Int) + ((a * 2 ^ d).log2 : Nat) - f.fractionBits) f.leastPlace = lastOf f a place := by
    unfold lastOf; rw [log2_mul_pow a d ha]; congr 1; omega
  simp only [hl]
  have hlast : lastOf f a place ≤ place := by unfold lastOf; omega
  have hk : Toward.even.cut neg ((a * 2 ^ d) <<< (place - (d : Int) - lastOf f a place).toNat) (lastOf f a place - (place - (d : Int))).toNat = a * 2 ^ (place - lastOf f a place).toNat := by
    generalize hc : (place - lastOf f a place).toNat = c
    by_cases h : d ≤ c
    · have e1 : (place - (d : Int) - lastOf f a place).toNat = c - d := by omega
      have e2 : (lastOf f a place - (place - (d : Int))).toNat = 0 := by omega
      rw [e1, e2]
      refine cut_whole _ _ _ _ ?_ (by omega)
      rw [Nat.shiftLeft_eq, Nat.mul_assoc, ← Nat.pow_add, Nat.pow_zero, Nat.mul_one]
      congr 2; omega
    · have e1 : (place - (d : Int) - lastOf f a place).toNat = 0 := by omega
      have e2 : (lastOf f a place - (place - (d : Int))).toNat = d - c := by omega
      rw [e1, e2]
      refine cut_whole _ _ _ _ ?_ ?_
      · rw [Nat.shiftLeft_zero, Nat.mul_assoc, ← Nat.pow_add]; congr 2; omega
      · rw [Nat.shiftLeft_zero, log2_mul_pow a d ha]; omega
  rw [hk]

theorem nearest_zero (f : Format) (neg : Bool) (place : Int) : f.nearest neg 0 place = f.word neg 0 := by
  unfold Format.nearest; simp

theorem read_word (f : Format) (neg : Bool) (r : Nat) (h : r < f.infRung) :
    f.read (f.word neg r) = if r < f.binade then .number neg r f.leastPlace else .number neg (f.binade + r % f.binade) (f.leastPlace + (r / f.binade - 1 : Nat)) := by
  have hi := f.infRung_lt
  have hs : r < f.signWeight := by omega
  have hsp : 0 < f.signWeight := by omega
  have e1 : f.word neg r / f.signWeight % 2 = neg.toNat := by
    unfold Format.word
    cases neg
    · simp [Nat.div_eq_of_lt hs]
    · simp [Nat.add_div_left _ hsp, Nat.div_eq_of_lt hs]
  have e2 : f.word neg r % f.signWeight = r := by
    unfold Format.word
    cases neg
    · simp [Nat.mod_eq_of_lt hs]
    · simp [Nat.mod_eq_of_lt hs]
  unfold Format.read
  simp only [e1, e2]
  have e3 : (neg.toNat == 1) = neg := by cases neg <;> rfl
  rw [e3]
  simp only [h, if_true]

/-- The number that a word stands for, in units of the least place. -/
def unitsOf (f : Format) (m : Nat) (e : Int) : Nat := m * 2 ^ (e - f.leastPlace).toNat

theorem read_exact (f : Format) (neg : Bool) (a d : Nat) (place : Int) (ha : a ≠ 0) (hw : a.log2 ≤ f.fractionBits) (hp : f.leastPlace ≤ place)
    (hfin : (lastOf f a place - f.leastPlace).toNat * f.binade + a * 2 ^ (place - lastOf f a place).toNat < f.infRung) :
    ∃ m e, f.read (f.nearest neg (a * 2 ^ d) (place - d)) = .number neg m e ∧ f.leastPlace ≤ e ∧ unitsOf f m e = a * 2 ^ (place - f.leastPlace).toNat := by
  rw [nearest_exact f neg a d place ha hw hp, Nat.min_eq_left (by omega), read_word f neg _ hfin]
  have hlast : lastOf f a place ≤ place := by unfold lastOf; omega
  have hlast2 : f.leastPlace ≤ lastOf f a place := by unfold lastOf; omega
  have hbin : f.binade = 2 ^ f.fractionBits := rfl
  have ha2 : 2 ^ a.log2 ≤ a := Nat.log2_self_le ha
  have ha3 : a < 2 ^ (a.log2 + 1) := Nat.lt_log2_self
  generalize hL : lastOf f a place = last at *
  by_cases hs : last = f.leastPlace ∧ place + a.log2 - f.fractionBits < f.leastPlace
  · obtain ⟨hs, hlt⟩ := hs
    have e0 : (last - f.leastPlace).toNat = 0 := by omega
    have hk : a * 2 ^ (place - last).toNat < f.binade := by
      rw [hbin]
      refine Nat.lt_of_lt_of_le ((Nat.mul_lt_mul_right (Nat.two_pow_pos _)).2 ha3) ?_
      rw [← Nat.pow_add]
      exact Nat.pow_le_pow_right (by omega) (by omega)
    rw [e0, Nat.zero_mul, Nat.zero_add, if_pos hk]
    refine ⟨_, _, rfl, Int.le_refl _, ?_⟩
    unfold unitsOf
    rw [hs, Int.sub_self]; simp
  · have hl : last = place + a.log2 - f.fractionBits := by unfold lastOf at hL; omega
    have hc : (place - last).toNat = f.fractionBits - a.log2 := by omega
    have hk1 : f.binade ≤ a * 2 ^ (place - last).toNat := by
      rw [hbin, hc]
      refine Nat.le_trans ?_ (Nat.mul_le_mul_right _ ha2)
      rw [← Nat.pow_add]
      exact Nat.pow_le_pow_right (by omega) (by omega)
    have hk2 : a * 2 ^ (place - last).toNat < 2 * f.binade := by
      rw [hbin, hc]
      refine Nat.lt_of_lt_of_le ((Nat.mul_lt_mul_right (Nat.two_pow_pos _)).2 ha3) ?_
      rw [← Nat.pow_add, Nat.mul_comm, ← Nat.pow_succ]
      exact Nat.pow_le_pow_right (by omega) (by omega)
    have hbp : 0 < f.binade := Nat.two_pow_pos _
    generalize hkk : a * 2 ^ (place - last).toNat = kept at *
    have hge : ¬ (last - f.leastPlace).toNat * f.binade + kept < f.binade := by
      have : 0 ≤ (last - f.leastPlace).toNat * f.binade := Nat.zero_le _
      omega
    rw [if_neg hge]
    have hmod : ((last - f.leastPlace).toNat * f.binade + kept) % f.binade = kept - f.binade := by
      rw [Nat.add_comm, Nat.add_mul_mod_self_right, Nat.mod_eq_sub_mod hk1, Nat.mod_eq_of_lt (by omega)]
    have hdiv : ((last - f.leastPlace).toNat * f.binade + kept) / f.binade = (last - f.leastPlace).toNat + 1 := by
      rw [Nat.add_comm, Nat.add_mul_div_right _ _ hbp, show kept / f.binade = 1 from by
        apply Nat.div_eq_of_lt_le <;> omega]
      omega
    refine ⟨_, _, rfl, by omega, ?_⟩
    unfold unitsOf
    rw [hmod, hdiv, show f.binade + (kept - f.binade) = kept from by omega, ← hkk]
    rw [show (f.leastPlace + (((last - f.leastPlace).toNat + 1 - 1 : Nat) : Int) - f.leastPlace).toNat = (last - f.leastPlace).toNat from by omega]
    rw [Nat.mul_assoc, ← Nat.pow_add]
    congr 2; omega

/-! ### What a word stands for, in units of the format's least place -/

def sgn (s : Bool) (v : Nat) : Int := if s then -(v : Int) else (v : Int)

/-- x is the finite word with the sign s that stands for v units of the least place. -/
def IsNum (f : Format) (x : Nat) (s : Bool) (v : Nat) : Prop :=
  ∃ m e, f.read x = .number s m e ∧ f.leastPlace ≤ e ∧ m < 2 ^ (f.fractionBits + 1) ∧ m * 2 ^ (e - f.leastPlace).toNat = v

theorem log2_lt_of_mul_lt {m k B : Nat} (hm : m ≠ 0) (h : m * 2 ^ k < 2 ^ B) : m.log2 + k < B := by
  have h1 : 2 ^ (m.log2 + k) ≤ m * 2 ^ k := by rw [Nat.pow_add]; exact Nat.mul_le_mul_right _ (Nat.log2_self_le hm)
  have h2 : 2 ^ (m.log2 + k) < 2 ^ B := Nat.lt_of_le_of_lt h1 h
  exact (Nat.pow_lt_pow_iff_right (by omega)).1 h2

theorem log2_le_of_lt {a n : Nat} (ha : a ≠ 0) (h : a < 2 ^ (n + 1)) : a.log2 ≤ n := by
  have := (Nat.log2_lt ha).2 h; omega

/-- The formats that are used. -/
def Two (f : Format) : Prop := f = single ∨ f = double

theorem isNum_nearest {f : Format} (hf : Two f) (s : Bool) (a d : Nat) (place : Int) (ha : a < 2 ^ (f.fractionBits + 1)) (hp : f.leastPlace ≤ place)
    (hmax : a * 2 ^ (place - f.leastPlace).toNat < 2 ^ (f.fractionBits + 2 ^ f.exponentBits - 2)) :
    IsNum f (f.nearest s (a * 2 ^ d) (place - d)) s (a * 2 ^ (place - f.leastPlace).toNat) := by
  have heb : 4 ≤ 2 ^ f.exponentBits := by rcases hf with rfl | rfl <;> decide
  by_cases h0 : a = 0
  · subst h0
    rw [Nat.zero_mul, nearest_zero, Nat.zero_mul]
    have hinf : 0 < f.infRung := by rcases hf with rfl | rfl <;> decide
    have hb : 0 < f.binade := Nat.two_pow_pos _
    refine ⟨0, f.leastPlace, ?_, Int.le_refl _, Nat.two_pow_pos _, by simp⟩
    rw [read_word f s 0 hinf, if_pos hb]
  · have hw := log2_le_of_lt h0 ha
    have hlg := log2_lt_of_mul_lt h0 hmax
    have ha3 : a < 2 ^ (a.log2 + 1) := Nat.lt_log2_self
    have hbp : 0 < f.binade := Nat.two_pow_pos _
    have hkept : a * 2 ^ (place - lastOf f a place).toNat < 2 * f.binade := by
      refine Nat.lt_of_lt_of_le ((Nat.mul_lt_mul_right (Nat.two_pow_pos _)).2 ha3) ?_
      have : f.binade = 2 ^ f.fractionBits := rfl
      rw [this, ← Nat.pow_add, Nat.mul_comm, ← Nat.pow_succ]
      refine Nat.pow_le_pow_right (by omega) ?_
      unfold lastOf; omega
    have hlast : (lastOf f a place - f.leastPlace).toNat + 3 ≤ 2 ^ f.exponentBits := by
      unfold lastOf; omega
    have hfin : (lastOf f a place - f.leastPlace).toNat * f.binade + a * 2 ^ (place - lastOf f a place).toNat < f.infRung := by
      have e : f.infRung = (2 ^ f.exponentBits - 1) * f.binade := rfl
      have k : ((lastOf f a place - f.leastPlace).toNat + 2) * f.binade ≤ (2 ^ f.exponentBits - 1) * f.binade := Nat.mul_le_mul_right _ (by omega)
      rw [Nat.add_mul] at k
      rw [e]; omega
    obtain ⟨m, e, h1, h2, h3⟩ := read_exact f s a d place h0 hw hp hfin
    refine ⟨m, e, h1, h2, ?_, h3⟩
    have hrw : f.nearest s (a * 2 ^ d) (place - d) = f.word s ((lastOf f a place - f.leastPlace).toNat * f.binade + a * 2 ^ (place - lastOf f a place).toNat) := by
      rw [nearest_exact f s a d place h0 hw hp, Nat.min_eq_left (by omega)]
    rw [hrw, read_word f s _ hfin] at h1
    split at h1
    · rename_i hlt
      simp only [Datum.number.injEq] at h1
      have : f.binade = 2 ^ f.fractionBits := rfl
      have e2 : (2 : Nat) ^ (f.fractionBits + 1) = 2 * f.binade := by rw [this, Nat.pow_succ, Nat.mul_comm]
      omega
    · simp only [Datum.number.injEq] at h1
      have : f.binade = 2 ^ f.fractionBits := rfl
      have e2 : (2 : Nat) ^ (f.fractionBits + 1) = 2 * f.binade := by rw [this, Nat.pow_succ, Nat.mul_comm]
      have := Nat.mod_lt ((lastOf f a place - f.leastPlace).toNat * f.binade + a * 2 ^ (place - lastOf f a place).toNat) hbp
      omega

theorem signed_eq (s : Bool) (m u : Nat) : signed s m u = sgn s (m * 2 ^ u) := by
  unfold signed sgn; rw [Nat.shiftLeft_eq]
theorem sgn_mul (s : Bool) (v c : Nat) : sgn s (v * c) = sgn s v * c := by
  unfold sgn; cases s <;> simp [Int.neg_mul]

theorem compare_mul_pos (a b : Int) (c : Nat) (hc : 0 < c) : compare (a * c) (b * c) = compare a b := by
  have hc' : (0 : Int) < c := by omega
  have e1 : (a * c < b * c) ↔ a < b := Int.mul_lt_mul_right hc'
  have e2 : (a * c = b * c) ↔ a = b := Int.mul_eq_mul_right_iff (by omega)
  show compareOfLessAndEq (a * c) (b * c) = compareOfLessAndEq a b
  unfold compareOfLessAndEq
  simp only [e1, e2]

theorem IsNum.order {f : Format} {x y : Nat} {s t : Bool} {v u : Nat} (hx : IsNum f x s v) (hy : IsNum f y t u) : f.order x y = some (compare (sgn s v) (sgn t u)) := by
  obtain ⟨m, i, h1, h2, _, rfl⟩ := hx
  obtain ⟨n, j, k1, k2, _, rfl⟩ := hy
  unfold Format.order
  rw [h1, k1]
  simp only [Datum.order, signed_eq]
  have e1 : m * 2 ^ (i - f.leastPlace).toNat = m * 2 ^ (i - min i j).toNat * 2 ^ (min i j - f.leastPlace).toNat := by
    rw [Nat.mul_assoc, ← Nat.pow_add]; congr 2; omega
  have e2 : n * 2 ^ (j - f.leastPlace).toNat = n * 2 ^ (j - min i j).toNat * 2 ^ (min i j - f.leastPlace).toNat := by
    rw [Nat.mul_assoc, ← Nat.pow_add]; congr 2; omega
  rw [e1, e2, sgn_mul s (m * 2 ^ (i - min i j).toNat), sgn_mul t (n * 2 ^ (j - min i j).toNat), compare_mul_pos _ _ _ (Nat.two_pow_pos _)]

theorem cut_zero (neg : Bool) (n drop : Nat) : Toward.zero.cut neg n drop = n / 2 ^ drop := by
  unfold Toward.cut
  simp only [Nat.one_shiftLeft, Bool.toNat_false, Nat.add_zero]
  by_cases h : drop ≤ n.log2 + 2
  · rw [Nat.min_eq_left h]
  · rw [Nat.min_eq_right (by omega)]
    have h1 : n < 2 ^ (n.log2 + 2) := Nat.lt_of_lt_of_le Nat.lt_log2_self (Nat.pow_le_pow_right (by omega) (by omega))
    have h2 : n < 2 ^ drop := Nat.lt_of_lt_of_le h1 (Nat.pow_le_pow_right (by omega) (by omega))
    rw [Nat.div_eq_of_lt h1, Nat.div_eq_of_lt h2]

/-- Cut towards zero, an integer. -/
theorem IsNum.toInt {f : Format} {x : Nat} {s : Bool} {v : Nat} (hx : IsNum f x s v) (hL : f.leastPlace ≤ 0) : (f.read x).toInt .zero = some (sgn s (v / 2 ^ (-f.leastPlace).toNat)) := by
  obtain ⟨m, i, h1, h2, _, rfl⟩ := hx
  rw [h1]
  simp only [Datum.toInt, Datum.integral, signed_eq, cut_zero]
  congr 2
  rw [Nat.pow_zero, Nat.mul_one, Nat.shiftLeft_eq]
  by_cases h : 0 ≤ i
  · have e1 : (-i).toNat = 0 := by omega
    have e2 : (i - f.leastPlace).toNat = i.toNat + (-f.leastPlace).toNat := by omega
    rw [e1, e2, Nat.pow_zero, Nat.div_one, Nat.pow_add, ← Nat.mul_assoc, Nat.mul_div_cancel _ (Nat.two_pow_pos _)]
  · have e1 : i.toNat = 0 := by omega
    have e2 : (-f.leastPlace).toNat = (i - f.leastPlace).toNat + (-i).toNat := by omega
    rw [e1, e2, Nat.pow_zero, Nat.mul_one, Nat.pow_add, ← Nat.div_div_eq_div_mul, Nat.mul_div_cancel _ (Nat.two_pow_pos _)]

/-- Times a power of two, the power on either side. -/
theorem IsNum.mul_pow {f : Format} (hf : Two f) {x c : Nat} {s : Bool} {v j : Nat} (hx : IsNum f x s v) (hc : f.read c = .number false (2 ^ f.fractionBits) ((j : Int) - f.fractionBits))
    (hmax : v * 2 ^ j < 2 ^ (f.fractionBits + 2 ^ f.exponentBits - 2)) : ∃ r, f.mul x c = some r ∧ f.mul c x = some r ∧ IsNum f r s (v * 2 ^ j) := by
  obtain ⟨m, i, h1, h2, h3, rfl⟩ := hx
  have e : m * 2 ^ (i - f.leastPlace).toNat * 2 ^ j = m * 2 ^ (i + j - f.leastPlace).toNat := by
    rw [Nat.mul_assoc, ← Nat.pow_add]; congr 2; omega
  rw [e] at hmax ⊢
  have h := isNum_nearest hf s m f.fractionBits (i + j) h3 (by omega) hmax
  refine ⟨_, ?_, ?_, h⟩
  · unfold Format.mul
    rw [h1, hc]
    simp only [Datum.product, Option.map_some, Format.write, Bool.xor_false]
    congr 2
    omega
  · unfold Format.mul
    rw [h1, hc]
    simp only [Datum.product, Option.map_some, Format.write, Bool.false_xor]
    congr 2
    · exact Nat.mul_comm _ _
    · omega
end Go.Proofs.YtpmjiifdnnhecaaGreatDoor

/-
  Plain facts on samples: a sample's word stands for an integer over 16; what Go's conversions, comparisons, products and quotients make of it.
  Condition: the hypotheses written at each theorem (sizes of the integers).
-/
namespace Go.Proofs.YtpmjiifdnnhecaaGreatDoor
open Ieee

theorem two32 : Two single := .inl rfl
theorem two64 : Two double := .inr rfl

/-- x is a word of float32 that stands for k/16 (0 has two words). -/
def Smp (x : Nat) (k : Int) : Prop := ∃ s, IsNum single x s (k.natAbs * 2 ^ 145) ∧ (k < 0 → s = true) ∧ (0 < k → s = false)

theorem sgn_smp {s : Bool} {k : Int} (c : Nat) (h1 : k < 0 → s = true) (h2 : 0 < k → s = false) : sgn s (k.natAbs * c) = k * c := by
  rw [sgn_mul]
  congr 1
  unfold sgn
  cases s
  · simp only [Bool.false_eq_true, if_false]
    have : ¬ k < 0 := fun h => by have := h1 h; cases this
    omega
  · simp only [if_true]
    have : ¬ 0 < k := fun h => by have := h2 h; cases this
    omega

theorem Smp.order {x y : Nat} {k l : Int} (hx : Smp x k) (hy : Smp y l) : single.order x y = some (compare k l) := by
  obtain ⟨s, h, h1, h2⟩ := hx
  obtain ⟨t, g, g1, g2⟩ := hy
  rw [h.order g, sgn_smp _ h1 h2, sgn_smp _ g1 g2, compare_mul_pos _ _ _ (Nat.two_pow_pos _)]

theorem pow_split {v a b : Nat} (h : v < 2 ^ a) : v * 2 ^ b < 2 ^ (a + b) := by
  rw [Nat.pow_add]; exact (Nat.mul_lt_mul_right (Nat.two_pow_pos _)).2 h

/-- int(x * 16), the factor on either side. -/
theorem Smp.int16 {x : Nat} {k : Int} (hx : Smp x k) (hk : k.natAbs < 2 ^ 40) :
    ∃ r, floatBits .mul .f32 x 1098907648 = some r ∧ floatBits .mul .f32 1098907648 x = some r ∧ floatToIntVal .f32 r .i64 = some k := by
  obtain ⟨s, h, h1, h2⟩ := hx
  have hc : single.read 1098907648 = .number false (2 ^ single.fractionBits) (((4 : Nat) : Int) - single.fractionBits) := by decide +kernel
  obtain ⟨r, m1, m2, m3⟩ := h.mul_pow two32 hc (by
    have e : k.natAbs * 2 ^ 145 * 2 ^ 4 = k.natAbs * 2 ^ 149 := by rw [Nat.mul_assoc]
    rw [e]
    exact Nat.lt_trans (pow_split hk) (by decide +kernel))
  refine ⟨r, m1, m2, ?_⟩
  have ht := m3.toInt (by decide)
  have e : k.natAbs * 2 ^ 145 * 2 ^ 4 / 2 ^ (-single.leastPlace).toNat = k.natAbs * 1 := by
    have e1 : k.natAbs * 2 ^ 145 * 2 ^ 4 = k.natAbs * 2 ^ 149 := by rw [Nat.mul_assoc]
    have e2 : (-single.leastPlace).toNat = 149 := by decide
    rw [e1, e2, Nat.mul_div_cancel _ (Nat.two_pow_pos _), Nat.mul_one]
  rw [e, sgn_smp 1 h1 h2] at ht
  have ht' : (FloatKind.f32.decode r).toInt .zero = some k := by rw [show ((1 : Nat) : Int) = 1 from rfl, Int.mul_one] at ht; exact ht
  unfold floatToIntVal
  rw [ht']
  have h40 : k.natAbs < 1099511627776 := hk
  have : IntKind.i64.min ≤ k ∧ k ≤ IntKind.i64.max := by
    have e1 : IntKind.i64.min = -9223372036854775808 := by decide
    have e2 : IntKind.i64.max = 9223372036854775807 := by decide
    rw [e1, e2]; omega
  simp only [this, and_self, if_true]

/-- float32(n). -/
theorem isNum_ofInt (n : Int) (hn : n.natAbs < 2 ^ 24) : IsNum single (floatOfInt .f32 n) (decide (n < 0)) (n.natAbs * 2 ^ 149) := by
  have h := isNum_nearest two32 (decide (n < 0)) n.natAbs 0 0 hn (by decide) (by
    have e : ((0 : Int) - single.leastPlace).toNat = 149 := by decide
    rw [e]; exact Nat.lt_trans (pow_split hn) (by decide +kernel))
  have e : ((0 : Int) - single.leastPlace).toNat = 149 := by decide
  rw [e] at h
  simpa [floatOfInt, FloatKind.nearest, FloatKind.encode, Format.write, FloatKind.format] using h

/-- float32(n) / 16. -/
theorem div16 (n : Int) (hn : n.natAbs < 2 ^ 24) : ∃ r, floatBits .quo .f32 (floatOfInt .f32 n) 1098907648 = some r ∧ Smp r n := by
  obtain ⟨m, e, h1, h2, h3, h4⟩ := isNum_ofInt n hn
  have hL : single.leastPlace = -149 := by decide
  have hc : single.read 1098907648 = .number false (2 ^ 23) (-19) := by decide +kernel
  have h3' : m < 2 ^ 24 := h3
  rw [hL] at h2 h4
  have hlog : (2 ^ 23 : Nat).log2 = 23 := by decide +kernel
  by_cases h0 : n = 0
  · subst h0
    have hm : m = 0 := by
      have : m * 2 ^ (e - -149).toNat = 0 := by rw [h4]; simp
      rcases Nat.mul_eq_zero.1 this with h | h
      · exact h
      · exact absurd h (by have := Nat.two_pow_pos (e - -149).toNat; omega)
    subst hm
    refine ⟨single.word false 0, ?_, ?_⟩
    · show single.div _ _ = _
      unfold Format.div
      rw [h1, hc]
      simp [Datum.quotient, Format.write, nearest_zero]
    · refine ⟨false, ⟨0, single.leastPlace, by decide +kernel, Int.le_refl _, by decide, by simp⟩, by omega, by omega⟩
  · have hm0 : m ≠ 0 := by
      rintro rfl
      rw [Nat.zero_mul] at h4
      rcases Nat.mul_eq_zero.1 h4.symm with h | h
      · omega
      · exact absurd h (by have := Nat.two_pow_pos 149; omega)
    have hml : m.log2 ≤ 23 := log2_le_of_lt hm0 h3
    have he : -145 ≤ e := by
      refine Classical.byContradiction fun hh => ?_
      have k1 : m * 2 ^ (e - -149).toNat < 2 ^ (24 + 4) := by
        refine Nat.lt_of_lt_of_le (pow_split h3') (Nat.pow_le_pow_right (by omega) (by omega))
      rw [h4] at k1
      have k2 : 2 ^ 149 ≤ n.natAbs * 2 ^ 149 := Nat.le_mul_of_pos_left _ (by omega)
      have k3 : (2 : Nat) ^ 149 < 2 ^ (24 + 4) := Nat.lt_of_le_of_lt k2 k1
      have := (Nat.pow_lt_pow_iff_right (show 1 < 2 by omega)).1 k3
      omega
    have hmax : m * 2 ^ (e - 4 - single.leastPlace).toNat < 2 ^ (single.fractionBits + 2 ^ single.exponentBits - 2) := by
      refine Nat.lt_of_le_of_lt (Nat.mul_le_mul_left _ (Nat.pow_le_pow_right (by omega) (show (e - 4 - single.leastPlace).toNat ≤ (e - -149).toNat by omega))) ?_
      rw [h4]
      exact Nat.lt_trans (pow_split hn) (by decide +kernel)
    have hk := isNum_nearest two32 (decide (n < 0)) m (25 + 23 - m.log2 - 22) (e - 4) h3 (by omega) hmax
    refine ⟨single.nearest (decide (n < 0)) (m * 2 ^ (25 + 23 - m.log2 - 22)) (e - 4 - ((25 + 23 - m.log2 - 22 : Nat) : Int)), ?_, decide (n < 0), ?_, by simp, by simp; omega⟩
    rotate_left
    · have ev : m * 2 ^ (e - 4 - single.leastPlace).toNat = n.natAbs * 2 ^ 145 := by
        have e1 : (e - -149).toNat = (e - 4 - single.leastPlace).toNat + 4 := by omega
        rw [e1, Nat.pow_add, ← Nat.mul_assoc] at h4
        have e2 : n.natAbs * 2 ^ 149 = n.natAbs * 2 ^ 145 * 2 ^ 4 := by rw [Nat.mul_assoc]
        rw [e2] at h4
        exact Nat.eq_of_mul_eq_mul_right (by decide) h4
      rw [ev] at hk
      exact hk
    · show single.div _ _ = _
      unfold Format.div
      rw [h1, hc]
      have hsplit : m <<< (25 + 23 - m.log2) = m * 2 ^ (25 + 23 - m.log2 - 23) * 2 ^ 23 := by
        rw [Nat.shiftLeft_eq, Nat.mul_assoc, ← Nat.pow_add]; congr 2; omega
      have hd : m <<< (25 + 23 - m.log2) / 2 ^ 23 = m * 2 ^ (25 + 23 - m.log2 - 23) := by rw [hsplit]; exact Nat.mul_div_cancel _ (by decide)
      have hr : m <<< (25 + 23 - m.log2) % 2 ^ 23 = 0 := by rw [hsplit]; exact Nat.mul_mod_left _ _
      have hne : ¬ (2 ^ 23 : Nat) = 0 := by decide
      simp only [Datum.quotient, hne, if_false, Option.map_some, Format.write, Bool.xor_false, hlog, show single.fractionBits + 2 = 25 from rfl, hd, hr]
      congr 2
      · have : (25 + 23 - m.log2 - 22 : Nat) = (25 + 23 - m.log2 - 23) + 1 := by omega
        rw [this, Nat.pow_succ]
        simp [Nat.mul_comm, Nat.mul_left_comm]
      · omega

/-- The word that 'float32(n) / 16' gives. -/
def smpOf (n : Int) : Nat := (floatBits .quo .f32 (floatOfInt .f32 n) 1098907648).getD 0
theorem smpOf_run (n : Int) (hn : n.natAbs < 2 ^ 24) : floatBits .quo .f32 (floatOfInt .f32 n) 1098907648 = some (smpOf n) := by
  obtain ⟨r, h, _⟩ := div16 n hn
  unfold smpOf; rw [h]; rfl
theorem smpOf_smp (n : Int) (hn : n.natAbs < 2 ^ 24) : Smp (smpOf n) n := by
  obtain ⟨r, h, hs⟩ := div16 n hn
  unfold smpOf; rw [h]; exact hs
end Go.Proofs.YtpmjiifdnnhecaaGreatDoor

/-
  Plain facts on float64: what the words of Go's conversion from float32, of a product with 16, of a number cut towards zero and of an absolute value stand for.
  Condition: the hypotheses written at each theorem (sizes of the numbers).
-/

namespace Go.Proofs.YtpmjiifdnnhecaaGreatDoor
open Ieee

theorem mul_pow_join (m a b c : Nat) (h : a + b = c) : m * 2 ^ a * 2 ^ b = m * 2 ^ c := by
  subst h; rw [Nat.mul_assoc, ← Nat.pow_add]
theorem pow_split_lt {v a b c : Nat} (h : v < 2 ^ a) (hc : a + b < c) : v * 2 ^ b < 2 ^ c :=
  Nat.lt_trans (pow_split h) ((Nat.pow_lt_pow_iff_right (by omega)).2 hc)

theorem sgn_le {a b c : Nat} (h : a ≤ b) : sgn false (a * c) ≤ sgn false (b * c) := by
  unfold sgn; simp only [Bool.false_eq_true, if_false]; exact Int.ofNat_le.2 (Nat.mul_le_mul_right _ h)
theorem sgn_le' {a b : Nat} (h : a ≤ b) : sgn false a ≤ sgn false b := by
  unfold sgn; simp only [Bool.false_eq_true, if_false]; exact Int.ofNat_le.2 h

theorem toF64 {x : Nat} {s : Bool} {v : Nat} (a : Nat) (h : IsNum single x s v) (hv : v < 2 ^ a) (ha : a ≤ 277) : ∃ d, floatToFloatBits .f32 x .f64 = some d ∧ IsNum double d s (v * 2 ^ 925) := by
  generalize hu : (925 : Nat) = u
  obtain ⟨m, e, h1, h2, h3, rfl⟩ := h
  have hL : single.leastPlace = -149 := by decide
  have hD : double.leastPlace = -1074 := by decide
  have ev : m * 2 ^ (e - single.leastPlace).toNat * 2 ^ u = m * 2 ^ (e - double.leastPlace).toNat := by
    exact mul_pow_join m _ u _ (by omega)
  have h3' : m < 2 ^ (double.fractionBits + 1) := Nat.lt_of_lt_of_le h3 (by decide +kernel)
  have hk := isNum_nearest two64 s m 0 e h3' (by omega) (by
    rw [← ev]
    exact pow_split_lt hv (by subst hu; show a + 925 < 2098; omega))
  have e0 : e - ((0 : Nat) : Int) = e := by omega
  rw [Nat.pow_zero, Nat.mul_one, e0] at hk
  refine ⟨double.nearest s m e, ?_, by rw [ev]; exact hk⟩
  obtain ⟨m', e', k1, _⟩ := hk
  unfold floatToFloatBits
  have hne : ¬ FloatKind.f32 = FloatKind.f64 := by decide
  have hdec : FloatKind.f32.decode x = .number s m e := h1
  have henc : FloatKind.f64.encode (.number s m e) = double.nearest s m e := rfl
  have hdec2 : FloatKind.f64.decode (double.nearest s m e) = .number s m' e' := k1
  simp only [hne, if_false, hdec, henc, hdec2, Datum.isInfinity]
  simp

theorem IsNum.self {f : Format} {x : Nat} {s : Bool} {v : Nat} (h : IsNum f x s v) : f.order x x = some .eq := by
  rw [h.order h]
  congr 1
  show compareOfLessAndEq _ _ = _
  unfold compareOfLessAndEq; simp

theorem IsNum.gt_false {f : Format} {x y : Nat} {s t : Bool} {v u : Nat} (h : IsNum f x s v) (g : IsNum f y t u) (hle : sgn s v ≤ sgn t u) : (f.order x y == some .gt) = false := by
  rw [h.order g]
  have : compare (sgn s v) (sgn t u) ≠ .gt := by
    show compareOfLessAndEq _ _ ≠ _
    unfold compareOfLessAndEq
    split
    · simp
    · split
      · simp
      · omega
  cases hc : compare (sgn s v) (sgn t u) <;> simp_all

theorem IsNum.le_true {f : Format} {x y : Nat} {s t : Bool} {v u : Nat} (h : IsNum f x s v) (g : IsNum f y t u) (hle : sgn s v ≤ sgn t u) : (f.order x y == some .lt || f.order x y == some .eq) = true := by
  rw [h.order g]
  have : compare (sgn s v) (sgn t u) ≠ .gt := by
    show compareOfLessAndEq _ _ ≠ _
    unfold compareOfLessAndEq
    split
    · simp
    · split
      · simp
      · omega
  cases hc : compare (sgn s v) (sgn t u) <;> simp_all

theorem IsNum.eq_true {f : Format} {x y : Nat} {s : Bool} {v : Nat} (h : IsNum f x s v) (g : IsNum f y s v) : (f.order x y == some .eq) = true := by
  rw [h.order g]
  have : compare (sgn s v) (sgn s v) = .eq := by
    show compareOfLessAndEq _ _ = _
    unfold compareOfLessAndEq; simp
  rw [this]; rfl

/-- d without its sign. -/
theorem IsNum.abs64 {d : Nat} {s : Bool} {v : Nat} (h : IsNum double d s v) : IsNum double (d % 9223372036854775808) false v := by
  obtain ⟨m, e, h1, h2, h3, h4⟩ := h
  refine ⟨m, e, ?_, h2, h3, h4⟩
  have hs : double.signWeight = 9223372036854775808 := by decide +kernel
  unfold Format.read at h1 ⊢
  simp only [hs] at h1 ⊢
  have e1 : d % 9223372036854775808 / 9223372036854775808 = 0 := Nat.div_eq_of_lt (Nat.mod_lt _ (by omega))
  have e2 : d % 9223372036854775808 % 9223372036854775808 = d % 9223372036854775808 := Nat.mod_mod _ _
  rw [e1, e2]
  split at h1
  · rename_i hlt
    simp only [Datum.number.injEq] at h1
    rw [if_pos hlt, h1.2.1, h1.2.2]; rfl
  · rename_i hlt
    split at h1
    · rename_i hlt2
      simp only [Datum.number.injEq] at h1
      rw [if_neg hlt, if_pos hlt2, h1.2.1, h1.2.2]; rfl
    · split at h1 <;> cases h1

theorem andNot_top (d : Nat) (hd : d < 18446744073709551616) : bits BinOp.andNot IntKind.u64 (d : Int) 9223372036854775808 = ((d % 9223372036854775808 : Nat) : Int) := by
  rw [show (9223372036854775808 : Int) = ((9223372036854775808 : Nat) : Int) from rfl, u64_andNot_nat d 9223372036854775808 hd (by omega)]
  congr 1
  have e : (18446744073709551615 - 9223372036854775808 : Nat) = 2 ^ 63 - 1 := by decide
  rw [e, Nat.and_two_pow_sub_one_eq_mod]

/-- math.Trunc of an integer. -/
theorem trunc_int {d : Nat} {s : Bool} {k : Nat} (h : IsNum double d s (k * 2 ^ 1074)) (hk : k < 2 ^ 53) :
    ∃ t, (FloatKind.f64.decode d).integral .zero = .number s k 0 ∧ FloatKind.f64.encode (.number s k 0) = t ∧ IsNum double t s (k * 2 ^ 1074) := by
  generalize hu : (1074 : Nat) = u at *
  have e : ((0 : Int) - double.leastPlace).toNat = u := by subst hu; decide
  have hg := isNum_nearest two64 s k 0 0 hk (by decide) (by
    rw [e]; exact pow_split_lt hk (by subst hu; decide))
  rw [e, Nat.pow_zero, Nat.mul_one] at hg
  refine ⟨_, ?_, rfl, hg⟩
  have hD : double.leastPlace = -1074 := by decide
  obtain ⟨m, i, h1, h2, _, h4⟩ := h
  rw [hD] at h2 h4
  have h1' : FloatKind.f64.decode d = .number s m i := h1
  rw [h1']
  simp only [Datum.integral, cut_zero]
  congr 1
  rw [Nat.shiftLeft_eq]
  by_cases hi : 0 ≤ i
  · have e1 : (-i).toNat = 0 := by omega
    rw [e1, Nat.pow_zero, Nat.div_one]
    have e2 : m * 2 ^ i.toNat * 2 ^ u = m * 2 ^ (i - -1074).toNat := mul_pow_join m _ u _ (by omega)
    rw [← e2] at h4
    exact Nat.eq_of_mul_eq_mul_right (Nat.two_pow_pos u) h4
  · have e1 : i.toNat = 0 := by omega
    rw [e1, Nat.pow_zero, Nat.mul_one]
    have e2 : (1074 : Nat) = (i - -1074).toNat + (-i).toNat := by omega
    have e3 : k * 2 ^ u = k * 2 ^ (-i).toNat * 2 ^ (i - -1074).toNat := (mul_pow_join k _ _ u (by omega)).symm
    rw [e3] at h4
    have h5 := Nat.eq_of_mul_eq_mul_right (Nat.two_pow_pos _) h4
    rw [h5, Nat.mul_div_cancel _ (Nat.two_pow_pos _)]

theorem mul16_64 {d : Nat} {s : Bool} {v : Nat} (a : Nat) (h : IsNum double d s v) (hv : v < 2 ^ a) (ha : a ≤ 2000) : ∃ r, floatBits .mul .f64 d 4625196817309499392 = some r ∧ IsNum double r s (v * 2 ^ 4) := by
  have hc : double.read 4625196817309499392 = .number false (2 ^ double.fractionBits) (((4 : Nat) : Int) - double.fractionBits) := by decide +kernel
  obtain ⟨r, m1, _, m3⟩ := h.mul_pow two64 hc (pow_split_lt hv (show a + 4 < 2098 by omega))
  exact ⟨r, m1, m3⟩

theorem max16384 : IsNum double 4670232813583204352 false (16384 * 2 ^ 1074) := by
  have e : double.read 4670232813583204352 = .number false (2 ^ 52) (-38) := by decide +kernel
  refine ⟨2 ^ 52, -38, e, by decide, by decide, ?_⟩
  have e2 : ((-38 : Int) - double.leastPlace).toNat = 1036 := by decide
  rw [e2]
  generalize hv : (1074 : Nat) = v
  generalize hu : (1036 : Nat) = u
  have e3 : (1 : Nat) * 2 ^ 52 * 2 ^ u = 1 * 2 ^ (52 + u) := mul_pow_join 1 52 u _ rfl
  have e4 : (1 : Nat) * 2 ^ 14 * 2 ^ v = 1 * 2 ^ (14 + v) := mul_pow_join 1 14 v _ rfl
  rw [Nat.one_mul, Nat.one_mul] at e3 e4
  rw [e3, show (16384 : Nat) = 2 ^ 14 from rfl, e4]; congr 1; omega
theorem le_max16384 {n a : Nat} {s : Bool} (h : IsNum double n s (a * 2 ^ 1074)) (ha : a ≤ 16384) : (double.order (n % 9223372036854775808) 4670232813583204352 == some .lt || double.order (n % 9223372036854775808) 4670232813583204352 == some .eq) = true := by
  have hm := max16384
  generalize hv : (1074 : Nat) = v at h hm
  exact h.abs64.le_true hm (sgn_le ha)
theorem max64 : IsNum double 9218868437227405311 false ((2 ^ 53 - 1) * 2 ^ 2045) := ⟨2 ^ 53 - 1, 971, by decide +kernel, by decide, by decide +kernel, by decide +kernel⟩
theorem max64_ge {v a : Nat} (h : v < 2 ^ a) (ha : a ≤ 2097) : v ≤ (2 ^ 53 - 1) * 2 ^ 2045 := by
  generalize hu : (2045 : Nat) = u
  have e : (2 : Nat) ^ a ≤ 2 ^ 52 * 2 ^ u := by rw [← Nat.pow_add]; exact Nat.pow_le_pow_right (by omega) (by omega)
  exact Nat.le_trans (Nat.le_of_lt h) (Nat.le_trans e (Nat.mul_le_mul_right _ (by decide)))
end Go.Proofs.YtpmjiifdnnhecaaGreatDoor
