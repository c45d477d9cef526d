/-
  The iterator over the places of a map: its contract for every loop body that keeps what lay below a number.
-/
import Derived.RangeFuncNested
import Derived.RangeFuncBound
import Derived.RangeFuncCalls
import Derived.RangeFuncLeaves
import Derived.RangeFuncBox
import Derived.Shelf.Abstract
import Derived.Shelf.RegionOpen
import Derived.WalkKit
import Derived.OwnWalkIn
import Derived.TacticsInMore
import Derived.LoopNIn
import Derived.LoopIn
import Derived.Maps.AppendAt
import Derived.Lib.Hide
import Derived.Test.YthmaoeajbmfmaaaGreatDoorProg
import Derived.Test.YthmaoeajbmfmaaaGreatDoorDFlo
namespace Go.Proofs.YthmaoeajbmfmaaaGreatDoor
open Go.RowKit Go.Shelf
set_option linter.unusedVariables false
attribute [local go_sem] Oper.semAt_some

/-- The first k places of a map that is W wide. -/
def placesTo (W k : Nat) : List (Nat × Nat) := (List.range k).map (fun i => (i % W, i / W))
theorem placesTo_succ (W y x : Nat) (hx : x < W) : placesTo W (y * W + x + 1) = placesTo W (y * W + x) ++ [(x, y)] := by
  have h1 : (y * W + x) % W = x := by rw [Nat.mul_comm, Nat.mul_add_mod]; exact Nat.mod_eq_of_lt hx
  have h2 : (y * W + x) / W = y := by
    rw [Nat.mul_comm, Nat.mul_add_div (by omega), Nat.div_eq_of_lt hx]; rfl
  simp [placesTo, List.range_succ, h1, h2]
theorem placesTo_len (W k : Nat) : (placesTo W k).length = k := by simp [placesTo]
/-- A place of a map. -/
abbrev Pl (W H : Nat) := { p : Nat × Nat // p.1 < W ∧ p.2 < H }
abbrev encP {W H : Nat} (p : Pl W H) : Array Value := #[.agg #[.int .i64 (p.1.1 : Nat), .int .i64 (p.1.2 : Nat)]]

/-- What a round must keep: the width's box. -/
def KeepsWide (Bw W : Nat) (A B : World) : Prop := A.cell? ⟨Bw, 0, none⟩ = some (.int .i64 (W : Nat)) → B.cell? ⟨Bw, 0, none⟩ = some (.int .i64 (W : Nat))
theorem KeepsWide.t {Bw W : Nat} {A B C : World} (h : KeepsWide Bw W A B) (k : KeepsWide Bw W B C) : KeepsWide Bw W A C := fun x => k (h x)
theorem KeepsWide.r (Bw W : Nat) (A : World) : KeepsWide Bw W A A := fun x => x
theorem KeepsWide.b {Bw W N : Nat} (A : World) (l : Nat) (o o' : Obj) (_ : N ≤ l) (hl : A.heap[l]? = some o) (ho : o.isCells = false) (_ : o.isWalk = false) : KeepsWide Bw W A (A.putObj l o') := fun x =>
  cell_kept x (grownBy_putObj' A l o') (fun r e => by cases e; exact ⟨o, hl, ho⟩)
theorem KeepsWide.of_below {Bw W B : Nat} {A C : World} (h : Below B A C) (hB : Bw < B) : KeepsWide Bw W A C := fun x => (h.cell (p := ⟨Bw, 0, none⟩) hB).trans x

set_option maxRecDepth 100000 in
set_option maxHeartbeats 3200000 in
theorem places1_in (F : Fence) (n : Nat) (h6 : F.fn 165) (hro : F.round = none) (hn : 1 ≤ n) (l Bh Bw W H : Nat) (hW : W ≤ 64) (hH : H ≤ 64) (J Jx : List (Pl W H) → World → Prop)
    (hY : ∀ pre x W1, J pre W1 → pre.length < W * H → YieldAt F (n - 1) Tryz.prog l (encP x) W1 fun e W' =>
      (e = .returned (.bool true) ∧ J (pre ++ [x]) W' ∧ KeepsWide Bw W W1 W') ∨ (e = .returned (.bool false) ∧ Jx (pre ++ [x]) W'))
    (w : World) (hcH : w.cell? ⟨Bh, 0, none⟩ = some (.int .i64 H)) (hcW : w.cell? ⟨Bw, 0, none⟩ = some (.int .i64 W)) (h0 : J [] w) :
    CallsIn F n Tryz.prog 165 #[.func (.yield l) #[] #[], .pointer (some ⟨Bh, 0, none⟩), .pointer (some ⟨Bw, 0, none⟩)] w fun e W' => (∃ v, e = .returned v) ∧
      ((∃ ys : List (Pl W H), ys.map Subtype.val = placesTo W (H * W) ∧ J ys W') ∨ (∃ pre, True ∧ Jx pre W')) := by
  have HY := Lib.hid hY
  clear hY
  have i1 : ((W : Int) ≤ 64) := by omega
  have i2 : ((H : Int) ≤ 64) := by omega
  refine callsIn_of_wp Tryz.func165 rfl h6 ?_ hro
  simp only [Tryz.ntmps165, List.size_toArray, List.length_cons, List.length_nil, Nat.reduceAdd, Nat.reduceSub, Array.replicate_succ, Array.replicate_zero, List.push_toArray, List.append_toArray, List.nil_append, List.cons_append]
  gi_wp2
  gi_loopw [7] (fun yv wr => ∃ y : Nat, y ≤ H ∧ yv = .int .i64 y ∧ wr.cell? ⟨Bw, 0, none⟩ = some (.int .i64 W) ∧ ∃ ps : List (Pl W H), ps.map Subtype.val = placesTo W (y * W) ∧ J ps wr)
    (fun yv _ => H - (intOf yv).toNat)
  case atStart => exact ⟨0, Nat.zero_le _, rfl, hcW, [], by simp [placesTo], h0⟩
  case round =>
    obtain ⟨y, hy, rfl, hcw, ps, hps, hJ⟩ := hrel
    have HPS := Lib.hid hps
    clear hps
    clear hcH hcW h0
    by_cases hlt : y < H
    · gi_wp2
      gi_loopw [11] (fun xv wi => ∃ x : Nat, x ≤ W ∧ xv = .int .i64 x ∧ wi.cell? ⟨Bw, 0, none⟩ = some (.int .i64 W) ∧ ∃ ps : List (Pl W H), ps.map Subtype.val = placesTo W (y * W + x) ∧ J ps wi)
        (fun xv _ => W - (intOf xv).toNat)
      case atStart => exact ⟨0, Nat.zero_le _, rfl, hcw, ps, by simpa using HPS.out, hJ⟩
      case round =>
        obtain ⟨x, hx, rfl, hcw2, qs, hqs, hJ2⟩ := hrel
        have HQS := Lib.hid hqs
        clear hcw hJ hqs
        by_cases hxl : x < W
        · have hlen : qs.length < W * H := by
            rw [← List.length_map (f := Subtype.val), HQS.out, placesTo_len]
            have : y * W + W ≤ H * W := by
              have := Nat.mul_le_mul_right W (show y + 1 ≤ H by omega)
              rw [Nat.add_mul] at this; omega
            rw [Nat.mul_comm W H]; omega
          have hS := placesTo_succ W y x hxl
          obtain ⟨fn, tmps, assign, body, hy1, hR⟩ := HY.out _ ⟨(x, y), hxl, hlt⟩ wr hJ2 hlen
          have HS := Lib.hid hS
          have HR := Lib.hid hR
          clear hS hR hlen
          gi_wp2
          refine HR.out.mono ?_
          rintro e W3 (⟨rfl, hJ3, hk3⟩ | ⟨rfl, hJx3⟩)
          · have hcw3 : W3.cell? ⟨Bw, 0, none⟩ = some (.int .i64 W) := hk3 hcw2
            gi_wp2
            go_roundw
            case rel => exact ⟨x + 1, by omega, by go_num, hcw3, _, by rw [← Nat.add_assoc, HS.out, List.map_append, HQS.out]; rfl, hJ3⟩
            case measure => simp [intOf]; omega
          · gi_wp2
            refine bodyPost_ret (results_none rfl _ _ _) rfl ?_
            exact ⟨⟨_, rfl⟩, .inr ⟨_, trivial, hJx3⟩⟩
        · gi_wp2
          go_roundw
          case rel =>
            refine ⟨y + 1, by omega, by go_num, hcw2, qs, ?_, hJ2⟩
            obtain rfl : x = W := by omega
            rw [Nat.add_mul, Nat.one_mul]; exact HQS.out
          case measure => simp [intOf]; omega
    · gi_wp2
      go_end0
      obtain rfl : y = H := by omega
      exact ⟨⟨_, rfl⟩, .inl ⟨ps, HPS.out, hJ⟩⟩

set_option maxHeartbeats 1000000 in
/-- The iterator's maker: both sides are boxed; the function value captures the boxes. -/
theorem places_in (F : Fence) (n : Nat) (h5 : F.fn 121) (hro : F.round = none) (W H : Int) (w : World) :
    CallsIn F n Tryz.prog 121 #[.int .i64 W, .int .i64 H] w fun e w' => e = .returned (.func (.func 165) #[] #[.pointer (some ⟨w.heap.size + 1, 0, none⟩), .pointer (some ⟨w.heap.size, 0, none⟩)]) ∧
      w' = (w.alloc (.cells #[.int .i64 W] 3)).alloc (.cells #[.int .i64 H] 3) := by
  refine callsIn_of_wp Tryz.func121 rfl h5 ?_ hro
  simp only [Tryz.ntmps121, List.size_toArray, List.length_cons, List.length_nil, Nat.reduceAdd, Nat.reduceSub, Array.replicate_succ, Array.replicate_zero, List.push_toArray, List.append_toArray, List.nil_append, List.cons_append]
  gi_wp2
  go_ret
  exact ⟨rfl, rfl⟩

/-- The places, in their order; or a part of them, where a round has said 'no more'. -/
theorem places_stops (F : Fence) (n : Nat) (h6 : F.fn 165) (hro : F.round = none) (hn : 1 ≤ n) (Bh Bw W H : Nat) (hW : W ≤ 64) (hH : H ≤ 64) (w : World) (hbh : Bh < w.heap.size) (hbw : Bw < w.heap.size)
    (hcH : w.cell? ⟨Bh, 0, none⟩ = some (.int .i64 H)) (hcW : w.cell? ⟨Bw, 0, none⟩ = some (.int .i64 W)) :
    SeqStopsK F n Tryz.prog 165 #[.pointer (some ⟨Bh, 0, none⟩), .pointer (some ⟨Bw, 0, none⟩)] encP (KeepsWide Bw W) (fun ys : List (Pl W H) => ys.map Subtype.val = placesTo W (H * W)) (fun _ => True) (W * H) w := fun l J Jx W1 hW1 _ _ hY h0 =>
  places1_in F n h6 hro hn l Bh Bw W H hW hH J Jx hY W1 ((hW1.cell (p := ⟨Bh, 0, none⟩) hbh).trans hcH) ((hW1.cell (p := ⟨Bw, 0, none⟩) hbw).trans hcW) h0
end Go.Proofs.YthmaoeajbmfmaaaGreatDoor

/-
  Plain facts on float64: what the words of Go's conversion from float32, of a product with 16, of a number cut towards zero and of an absolute value stand for.
  Condition: the hypotheses written at each theorem (sizes of the numbers).
-/
namespace Go.Proofs.YthmaoeajbmfmaaaGreatDoor
open Ieee

theorem mul_pow_join (m a b c : Nat) (h : a + b = c) : m * 2 ^ a * 2 ^ b = m * 2 ^ c := by
  subst h; rw [Nat.mul_assoc, ← Nat.pow_add]
theorem pow_split_lt {v a b c : Nat} (h : v < 2 ^ a) (hc : a + b < c) : v * 2 ^ b < 2 ^ c :=
  Nat.lt_trans (pow_split h) ((Nat.pow_lt_pow_iff_right (by omega)).2 hc)

theorem sgn_le {a b c : Nat} (h : a ≤ b) : sgn false (a * c) ≤ sgn false (b * c) := by
  unfold sgn; simp only [Bool.false_eq_true, if_false]; exact Int.ofNat_le.2 (Nat.mul_le_mul_right _ h)
theorem sgn_le' {a b : Nat} (h : a ≤ b) : sgn false a ≤ sgn false b := by
  unfold sgn; simp only [Bool.false_eq_true, if_false]; exact Int.ofNat_le.2 h

theorem toF64 {x : Nat} {s : Bool} {v : Nat} (a : Nat) (h : IsNum single x s v) (hv : v < 2 ^ a) (ha : a ≤ 277) : ∃ d, floatToFloatBits .f32 x .f64 = some d ∧ IsNum double d s (v * 2 ^ 925) := by
  generalize hu : (925 : Nat) = u
  obtain ⟨m, e, h1, h2, h3, rfl⟩ := h
  have hL : single.leastPlace = -149 := by decide
  have hD : double.leastPlace = -1074 := by decide
  have ev : m * 2 ^ (e - single.leastPlace).toNat * 2 ^ u = m * 2 ^ (e - double.leastPlace).toNat := by
    exact mul_pow_join m _ u _ (by omega)
  have h3' : m < 2 ^ (double.fractionBits + 1) := Nat.lt_of_lt_of_le h3 (by decide +kernel)
  have hk := isNum_nearest two64 s m 0 e h3' (by omega) (by
    rw [← ev]
    exact pow_split_lt hv (by subst hu; show a + 925 < 2098; omega))
  have e0 : e - ((0 : Nat) : Int) = e := by omega
  rw [Nat.pow_zero, Nat.mul_one, e0] at hk
  refine ⟨double.nearest s m e, ?_, by rw [ev]; exact hk⟩
  obtain ⟨m', e', k1, _⟩ := hk
  unfold floatToFloatBits
  have hne : ¬ FloatKind.f32 = FloatKind.f64 := by decide
  have hdec : FloatKind.f32.decode x = .number s m e := h1
  have henc : FloatKind.f64.encode (.number s m e) = double.nearest s m e := rfl
  have hdec2 : FloatKind.f64.decode (double.nearest s m e) = .number s m' e' := k1
  simp only [hne, if_false, hdec, henc, hdec2, Datum.isInfinity]
  simp

theorem IsNum.self {f : Format} {x : Nat} {s : Bool} {v : Nat} (h : IsNum f x s v) : f.order x x = some .eq := by
  rw [h.order h]
  congr 1
  show compareOfLessAndEq _ _ = _
  unfold compareOfLessAndEq; simp

theorem IsNum.gt_false {f : Format} {x y : Nat} {s t : Bool} {v u : Nat} (h : IsNum f x s v) (g : IsNum f y t u) (hle : sgn s v ≤ sgn t u) : (f.order x y == some .gt) = false := by
  rw [h.order g]
  have : compare (sgn s v) (sgn t u) ≠ .gt := by
    show compareOfLessAndEq _ _ ≠ _
    unfold compareOfLessAndEq
    split
    · simp
    · split
      · simp
      · omega
  cases hc : compare (sgn s v) (sgn t u) <;> simp_all

theorem IsNum.le_true {f : Format} {x y : Nat} {s t : Bool} {v u : Nat} (h : IsNum f x s v) (g : IsNum f y t u) (hle : sgn s v ≤ sgn t u) : (f.order x y == some .lt || f.order x y == some .eq) = true := by
  rw [h.order g]
  have : compare (sgn s v) (sgn t u) ≠ .gt := by
    show compareOfLessAndEq _ _ ≠ _
    unfold compareOfLessAndEq
    split
    · simp
    · split
      · simp
      · omega
  cases hc : compare (sgn s v) (sgn t u) <;> simp_all

theorem IsNum.eq_true {f : Format} {x y : Nat} {s : Bool} {v : Nat} (h : IsNum f x s v) (g : IsNum f y s v) : (f.order x y == some .eq) = true := by
  rw [h.order g]
  have : compare (sgn s v) (sgn s v) = .eq := by
    show compareOfLessAndEq _ _ = _
    unfold compareOfLessAndEq; simp
  rw [this]; rfl

/-- d without its sign. -/
theorem IsNum.abs64 {d : Nat} {s : Bool} {v : Nat} (h : IsNum double d s v) : IsNum double (d % 9223372036854775808) false v := by
  obtain ⟨m, e, h1, h2, h3, h4⟩ := h
  refine ⟨m, e, ?_, h2, h3, h4⟩
  have hs : double.signWeight = 9223372036854775808 := by decide +kernel
  unfold Format.read at h1 ⊢
  simp only [hs] at h1 ⊢
  have e1 : d % 9223372036854775808 / 9223372036854775808 = 0 := Nat.div_eq_of_lt (Nat.mod_lt _ (by omega))
  have e2 : d % 9223372036854775808 % 9223372036854775808 = d % 9223372036854775808 := Nat.mod_mod _ _
  rw [e1, e2]
  split at h1
  · rename_i hlt
    simp only [Datum.number.injEq] at h1
    rw [if_pos hlt, h1.2.1, h1.2.2]; rfl
  · rename_i hlt
    split at h1
    · rename_i hlt2
      simp only [Datum.number.injEq] at h1
      rw [if_neg hlt, if_pos hlt2, h1.2.1, h1.2.2]; rfl
    · split at h1 <;> cases h1

theorem andNot_top (d : Nat) (hd : d < 18446744073709551616) : bits BinOp.andNot IntKind.u64 (d : Int) 9223372036854775808 = ((d % 9223372036854775808 : Nat) : Int) := by
  rw [show (9223372036854775808 : Int) = ((9223372036854775808 : Nat) : Int) from rfl, u64_andNot_nat d 9223372036854775808 hd (by omega)]
  congr 1
  have e : (18446744073709551615 - 9223372036854775808 : Nat) = 2 ^ 63 - 1 := by decide
  rw [e, Nat.and_two_pow_sub_one_eq_mod]

/-- math.Trunc of an integer. -/
theorem trunc_int {d : Nat} {s : Bool} {k : Nat} (h : IsNum double d s (k * 2 ^ 1074)) (hk : k < 2 ^ 53) :
    ∃ t, (FloatKind.f64.decode d).integral .zero = .number s k 0 ∧ FloatKind.f64.encode (.number s k 0) = t ∧ IsNum double t s (k * 2 ^ 1074) := by
  generalize hu : (1074 : Nat) = u at *
  have e : ((0 : Int) - double.leastPlace).toNat = u := by subst hu; decide
  have hg := isNum_nearest two64 s k 0 0 hk (by decide) (by
    rw [e]; exact pow_split_lt hk (by subst hu; decide))
  rw [e, Nat.pow_zero, Nat.mul_one] at hg
  refine ⟨_, ?_, rfl, hg⟩
  have hD : double.leastPlace = -1074 := by decide
  obtain ⟨m, i, h1, h2, _, h4⟩ := h
  rw [hD] at h2 h4
  have h1' : FloatKind.f64.decode d = .number s m i := h1
  rw [h1']
  simp only [Datum.integral, cut_zero]
  congr 1
  rw [Nat.shiftLeft_eq]
  by_cases hi : 0 ≤ i
  · have e1 : (-i).toNat = 0 := by omega
    rw [e1, Nat.pow_zero, Nat.div_one]
    have e2 : m * 2 ^ i.toNat * 2 ^ u = m * 2 ^ (i - -1074).toNat := mul_pow_join m _ u _ (by omega)
    rw [← e2] at h4
    exact Nat.eq_of_mul_eq_mul_right (Nat.two_pow_pos u) h4
  · have e1 : i.toNat = 0 := by omega
    rw [e1, Nat.pow_zero, Nat.mul_one]
    have e2 : (1074 : Nat) = (i - -1074).toNat + (-i).toNat := by omega
    have e3 : k * 2 ^ u = k * 2 ^ (-i).toNat * 2 ^ (i - -1074).toNat := (mul_pow_join k _ _ u (by omega)).symm
    rw [e3] at h4
    have h5 := Nat.eq_of_mul_eq_mul_right (Nat.two_pow_pos _) h4
    rw [h5, Nat.mul_div_cancel _ (Nat.two_pow_pos _)]

theorem mul16_64 {d : Nat} {s : Bool} {v : Nat} (a : Nat) (h : IsNum double d s v) (hv : v < 2 ^ a) (ha : a ≤ 2000) : ∃ r, floatBits .mul .f64 d 4625196817309499392 = some r ∧ IsNum double r s (v * 2 ^ 4) := by
  have hc : double.read 4625196817309499392 = .number false (2 ^ double.fractionBits) (((4 : Nat) : Int) - double.fractionBits) := by decide +kernel
  obtain ⟨r, m1, _, m3⟩ := h.mul_pow two64 hc (pow_split_lt hv (show a + 4 < 2098 by omega))
  exact ⟨r, m1, m3⟩

theorem max16384 : IsNum double 4670232813583204352 false (16384 * 2 ^ 1074) := by
  have e : double.read 4670232813583204352 = .number false (2 ^ 52) (-38) := by decide +kernel
  refine ⟨2 ^ 52, -38, e, by decide, by decide, ?_⟩
  have e2 : ((-38 : Int) - double.leastPlace).toNat = 1036 := by decide
  rw [e2]
  generalize hv : (1074 : Nat) = v
  generalize hu : (1036 : Nat) = u
  have e3 : (1 : Nat) * 2 ^ 52 * 2 ^ u = 1 * 2 ^ (52 + u) := mul_pow_join 1 52 u _ rfl
  have e4 : (1 : Nat) * 2 ^ 14 * 2 ^ v = 1 * 2 ^ (14 + v) := mul_pow_join 1 14 v _ rfl
  rw [Nat.one_mul, Nat.one_mul] at e3 e4
  rw [e3, show (16384 : Nat) = 2 ^ 14 from rfl, e4]; congr 1; omega
theorem le_max16384 {n a : Nat} {s : Bool} (h : IsNum double n s (a * 2 ^ 1074)) (ha : a ≤ 16384) : (double.order (n % 9223372036854775808) 4670232813583204352 == some .lt || double.order (n % 9223372036854775808) 4670232813583204352 == some .eq) = true := by
  have hm := max16384
  generalize hv : (1074 : Nat) = v at h hm
  exact h.abs64.le_true hm (sgn_le ha)
theorem max64 : IsNum double 9218868437227405311 false ((2 ^ 53 - 1) * 2 ^ 2045) := ⟨2 ^ 53 - 1, 971, by decide +kernel, by decide, by decide +kernel, by decide +kernel⟩
theorem max64_ge {v a : Nat} (h : v < 2 ^ a) (ha : a ≤ 2097) : v ≤ (2 ^ 53 - 1) * 2 ^ 2045 := by
  generalize hu : (2045 : Nat) = u
  have e : (2 : Nat) ^ a ≤ 2 ^ 52 * 2 ^ u := by rw [← Nat.pow_add]; exact Nat.pow_le_pow_right (by omega) (by omega)
  exact Nat.le_trans (Nat.le_of_lt h) (Nat.le_trans e (Nat.mul_le_mul_right _ (by decide)))
end Go.Proofs.YthmaoeajbmfmaaaGreatDoor

/-
  Contracts of the functions on one sample: its integer, the sample of an integer, whether it is one, for words that stand for k/16; and the reference's check of any word.
  Condition: the sizes of the integers that are written at each theorem.
-/
namespace Go.Proofs.YthmaoeajbmfmaaaGreatDoor
open Go.RowKit
set_option linter.unusedVariables false

theorem run_mul (t : TypeId) {k : FloatKind} {x y r : Nat} (h : floatBits .mul k x y = some r) : ∀ w : World, (binOp .mul t (.float k x) (.float k y)).run Tryz.prog w = .ok (.float k r) w :=
  fun w => run_float_arith w .mul t k x y r h
theorem run_quo (t : TypeId) {k : FloatKind} {x y r : Nat} (h : floatBits .quo k x y = some r) : ∀ w : World, (binOp .quo t (.float k x) (.float k y)).run Tryz.prog w = .ok (.float k r) w :=
  fun w => run_float_arith w .quo t k x y r h
theorem run_sub (t : TypeId) {k : FloatKind} {x y r : Nat} (h : floatBits .sub k x y = some r) : ∀ w : World, (binOp .sub t (.float k x) (.float k y)).run Tryz.prog w = .ok (.float k r) w :=
  fun w => run_float_arith w .sub t k x y r h
theorem run_toInt {r : Nat} {n : Int} (h : floatToIntVal .f32 r .i64 = some n) : ∀ w : World, (convert 22 3 (.float .f32 r)).run Tryz.prog w = .ok (.int .i64 n) w :=
  fun w => run_convert_float_int w 22 3 .f32 .i64 r n (by rw [Tryz.underlying22]; rfl) Tryz.underlying3 h
theorem run_to64 {r d : Nat} (h : floatToFloatBits .f32 r .f64 = some d) : ∀ w : World, (convert 22 218 (.float .f32 r)).run Tryz.prog w = .ok (.float .f64 d) w :=
  fun w => run_convert_float_float w 22 218 .f32 .f64 r d (by rw [Tryz.underlying22]; rfl) Tryz.underlying218 h
theorem run_ofInt (n : Int) : ∀ w : World, (convert 3 22 (.int .i64 n)).run Tryz.prog w = .ok (.float .f32 (floatOfInt .f32 n)) w :=
  fun w => run_convert_int_float w 3 22 .i64 .f32 n (by rw [Tryz.underlying3]; rfl) Tryz.underlying22

set_option maxHeartbeats 400000 in
theorem integer_any (x : Nat) (k : Int) (hs : Smp x k) (hk : k.natAbs < 2 ^ 40) (w : World) :
    Calls Tryz.prog 149 #[.float .f32 x] w fun e w' => e = .returned (.int .i64 k) ∧ w = w' := by
  obtain ⟨r, m1, m2, m3⟩ := hs.int16 hk
  have h1 := run_mul 22 m1
  have h2 := run_toInt m3
  clear hk
  go_enter Tryz.func149, Tryz.ntmps149
  go_wp2
  go_ret
  exact ⟨rfl, rfl⟩

set_option maxHeartbeats 400000 in
theorem sixteenths_any (x : Nat) (k : Int) (hs : Smp x k) (hk : k.natAbs < 2 ^ 40) (w : World) :
    Calls Tryz.prog 54 #[.float .f32 x] w fun e w' => e = .returned (.int .i64 k) ∧ w = w' := by
  obtain ⟨r, m1, m2, m3⟩ := hs.int16 hk
  have h1 := run_mul 22 m2
  have h2 := run_toInt m3
  clear hk
  go_enter Tryz.func54, Tryz.ntmps54
  go_wp2
  go_ret
  exact ⟨rfl, rfl⟩

set_option maxHeartbeats 400000 in
theorem sample_any (n : Int) (hn : n.natAbs < 2 ^ 24) (w : World) :
    Calls Tryz.prog 94 #[.int .i64 n] w fun e w' => e = .returned (.float .f32 (smpOf n)) ∧ w = w' := by
  have h1 := run_quo 22 (smpOf_run n hn)
  have h2 := run_ofInt n
  clear hn
  go_enter Tryz.func94, Tryz.ntmps94
  go_wp2
  go_ret
  exact ⟨rfl, rfl⟩

set_option maxHeartbeats 400000 in
theorem refSample_any (n : Int) (hn : n.natAbs < 2 ^ 24) (w : World) :
    Calls Tryz.prog 56 #[.int .i64 n] w fun e w' => e = .returned (.float .f32 (smpOf n)) ∧ w = w' := by
  have h1 := run_quo 22 (smpOf_run n hn)
  have h2 := run_ofInt n
  clear hn
  go_enter Tryz.func56, Tryz.ntmps56
  go_wp2
  go_ret
  exact ⟨rfl, rfl⟩

set_option maxHeartbeats 400000 in
theorem isNaN_any (d : Nat) (s : Bool) (v : Nat) (h : IsNum Ieee.double d s v) (w : World) :
    Calls Tryz.prog 168 #[.float .f64 d] w fun e w' => e = .returned (.bool false) ∧ w = w' := by
  have h1 : FloatKind.f64.format.order d d = some .eq := h.self
  have H := Lib.hid h
  clear h
  go_enter Tryz.func168, Tryz.ntmps168
  go_wp2
  go_ret
  exact ⟨rfl, rfl⟩

theorem run_bits64 (d : Nat) : ∀ w : World, (callFunc 174 #[.float .f64 d]).run Tryz.prog w = .ok (.value (.int .u64 d)) w := fun w => by kernel_rfl
theorem run_frombits64 (n : Nat) : ∀ w : World, (callFunc 186 #[.int .u64 n]).run Tryz.prog w = .ok (.value (.float .f64 n)) w := fun w => by kernel_rfl

theorem run_frombits64m (d : Nat) : ∀ w : World, (callFunc 186 #[.int .u64 ((d : Int) % 9223372036854775808)]).run Tryz.prog w = .ok (.value (.float .f64 (d % 9223372036854775808))) w := fun w => by
  have e : ((d : Int) % 9223372036854775808) = ((d % 9223372036854775808 : Nat) : Int) := by omega
  rw [e]; exact run_frombits64 _ w

set_option maxHeartbeats 400000 in
theorem abs_any (d : Nat) (hd : d < 18446744073709551616) (w : World) :
    Calls Tryz.prog 171 #[.float .f64 d] w fun e w' => e = .returned (.float .f64 (d % 9223372036854775808)) ∧ w = w' := by
  have h1 := run_bits64 d
  have h2 := run_frombits64m d
  have h3 := andNot_top d hd
  go_enter Tryz.func171, Tryz.ntmps171
  go_wp2
  go_ret
  exact ⟨rfl, rfl⟩

theorem isNum_lt {d : Nat} {s : Bool} {v : Nat} {x : Nat} (h : floatToFloatBits .f32 x .f64 = some d) (hx : x < 2 ^ 32) : d < 18446744073709551616 := by
  have := floatToFloatBits_wf (src := .f32) (dst := .f64) (wf_of_lt .f32 x hx) h
  simpa [Lit.wf] using this

set_option maxHeartbeats 800000 in
/-- A number that is below 2^1023 is not infinite. -/
theorem isInf_any (d : Nat) (s : Bool) (v : Nat) (h : IsNum Ieee.double d s v) (hd : d < 18446744073709551616) (hv : v ≤ (2 ^ 53 - 1) * 2 ^ 2045) (w : World) :
    Calls Tryz.prog 169 #[.float .f64 d, .int .i64 0] w fun e w' => e = .returned (.bool false) ∧ w = w' := by
  have h1 : (FloatKind.f64.format.order (d % 9223372036854775808) 9218868437227405311 == some .gt) = false := h.abs64.gt_false max64 (sgn_le' hv)
  clear hv h
  go_enter Tryz.func169, Tryz.ntmps169
  go_wp2_with (go_at_call 171; refine (abs_any d hd _).mono ?_; rintro e w' ⟨rfl, rfl⟩)
  go_ret
  exact ⟨rfl, rfl⟩

theorem run_trunc {d : Nat} {s : Bool} {k t : Nat} (h1 : (FloatKind.f64.decode d).integral .zero = .number s k 0) (h2 : FloatKind.f64.encode (.number s k 0) = t) :
    ∀ w : World, (callFunc 184 #[.float .f64 d]).run Tryz.prog w = .ok (.value (.float .f64 t)) w := fun w => by
  rw [run_callFunc_extern Tryz.func184 (by kernel_rfl) (by kernel_rfl) (by kernel_rfl) (e := Extern.MathFloor.toIntegral "math.archTrunc" .zero) (by kernel_rfl)]
  have key : ∀ D : Ieee.Datum, FloatKind.f64.decode d = D → D.integral .zero = .number s k 0 → (Extern.MathFloor.toIntegral "math.archTrunc" .zero #[.float .f64 d]).run Tryz.prog w = .ok (.float .f64 t) w := by
    intro D hD hI
    show Sem.run Tryz.prog (Extern.MathFloor.toIntegral.match_1 (fun _ => Sem Value) (FloatKind.f64.decode d) _ _) w = _
    rw [hD]
    cases D with
    | nan a b => cases hI
    | infinity a => cases hI
    | number a b c => rw [← h2, ← hI]; rfl
  rw [key _ rfl h1]; rfl

set_option maxHeartbeats 400000 in
theorem trunc_any (d t : Nat) (ht : ∀ w : World, (callFunc 184 #[.float .f64 d]).run Tryz.prog w = .ok (.value (.float .f64 t)) w) (w : World) :
    Calls Tryz.prog 170 #[.float .f64 d] w fun e w' => e = .returned (.float .f64 t) ∧ w = w' := by
  go_enter Tryz.func170, Tryz.ntmps170
  go_wp2
  go_ret
  exact ⟨rfl, rfl⟩

theorem floatBits_lt {op : BinOp} {x y r : Nat} (h : floatBits op .f64 x y = some r) : r < 18446744073709551616 := by
  simpa [Lit.wf] using floatBits_wf h

set_option maxHeartbeats 1000000 in
theorem isFinite_any (x : Nat) (k : Int) (hx : x < 2 ^ 32) (hs : Smp x k) (hk : k.natAbs < 2 ^ 40) (w : World) :
    Calls Tryz.prog 142 #[.float .f32 x] w fun e w' => e = .returned (.bool true) ∧ w = w' := by
  obtain ⟨s, h, _, _⟩ := hs
  obtain ⟨d, h1, h2⟩ := toF64 (40 + 145) h (pow_split hk) (by omega)
  have hd := isNum_lt (s := s) (v := 0) h1 hx
  have hv : k.natAbs * 2 ^ 145 * 2 ^ 925 ≤ (2 ^ 53 - 1) * 2 ^ 2045 := by
    generalize hu : (925 : Nat) = u
    exact max64_ge (pow_split (pow_split hk)) (by omega)
  have c1 := run_to64 h1
  have K1 := Lib.hid (isNaN_any d s _ h2)
  have K2 := Lib.hid (isInf_any d s _ h2 hd hv)
  clear h h1 h2 hd hv hx hk
  go_enter Tryz.func142, Tryz.ntmps142
  go_wp2_with (first | (go_at_call 168; refine (K1.out _).mono ?_; rintro e w' ⟨rfl, rfl⟩) | (go_at_call 169; refine (K2.out _).mono ?_; rintro e w' ⟨rfl, rfl⟩))
  go_ret
  exact ⟨rfl, rfl⟩

set_option maxHeartbeats 1000000 in
/-- Whether a sample's word is a multiple of 1/16 up to 1024: here one that is. -/
theorem isMultiple_any (x : Nat) (k : Int) (hs : Smp x k) (hk : k.natAbs ≤ 16384) (w : World) :
    Calls Tryz.prog 143 #[.float .f32 x, .float .f64 4652218415073722368] w fun e w' => e = .returned (.bool true) ∧ w = w' := by
  obtain ⟨s, h, _, _⟩ := hs
  have hk40 : k.natAbs < 2 ^ 40 := Nat.lt_of_le_of_lt hk (by decide)
  obtain ⟨d, h1, h2⟩ := toF64 (40 + 145) h (pow_split hk40) (by omega)
  obtain ⟨n, n1, n2⟩ := mul16_64 1110 h2 (by
    generalize hu : (925 : Nat) = u
    generalize hv : (1110 : Nat) = v
    exact Nat.lt_of_lt_of_le (pow_split (pow_split hk40)) (Nat.pow_le_pow_right (by omega) (by omega))) (by omega)
  have ev : k.natAbs * 2 ^ 145 * 2 ^ 925 * 2 ^ 4 = k.natAbs * 2 ^ 1074 := by
    generalize hu : (925 : Nat) = u
    generalize hv : (1074 : Nat) = v
    rw [mul_pow_join k.natAbs 145 u (145 + u) rfl, mul_pow_join _ _ 4 v (by omega)]
  rw [ev] at n2
  obtain ⟨t, t1, t2, t3⟩ := trunc_int n2 (Nat.lt_of_le_of_lt hk (by decide))
  have hn := floatBits_lt n1
  have c1 := run_to64 h1
  have c2 := run_mul 218 n1
  have c3 := run_trunc t1 t2
  have c4 : (FloatKind.f64.format.order n t == some .eq) = true := n2.eq_true t3
  have hm : floatBits .mul .f64 4652218415073722368 4625196817309499392 = some 4670232813583204352 := by decide +kernel
  have c5 := run_mul 218 hm
  have c6 : (FloatKind.f64.format.order (n % 9223372036854775808) 4670232813583204352 == some .lt || FloatKind.f64.format.order (n % 9223372036854775808) 4670232813583204352 == some .eq) = true :=
    le_max16384 n2 hk
  have K1 := Lib.hid (trunc_any n t c3)
  have K2 := Lib.hid (abs_any n hn)
  clear h h1 h2 n1 n2 t1 t2 t3 ev hm hn c3 hk hk40
  go_enter Tryz.func143, Tryz.ntmps143
  go_wp2_with (first | (go_at_call 170; refine (K1.out _).mono ?_; rintro e w' ⟨rfl, rfl⟩) | (go_at_call 171; refine (K2.out _).mono ?_; rintro e w' ⟨rfl, rfl⟩))
  go_ret
  exact ⟨rfl, rfl⟩

set_option maxHeartbeats 400000 in
theorem checkSample_any (x : Nat) (k : Int) (hx : x < 2 ^ 32) (hs : Smp x k) (hk : k.natAbs ≤ 16384) (w : World) :
    Calls Tryz.prog 62 #[.float .f32 x] w fun e w' => e = .returned (.int .i64 0) ∧ w = w' := by
  have K1 := Lib.hid (isFinite_any x k hx hs (Nat.lt_of_le_of_lt hk (by decide)))
  have K2 := Lib.hid (isMultiple_any x k hs hk)
  clear hx hs hk
  go_enter Tryz.func62, Tryz.ntmps62
  go_wp2_with (first | (go_at_call 142; refine (K1.out _).mono ?_; rintro e w' ⟨rfl, rfl⟩) | (go_at_call 143; refine (K2.out _).mono ?_; rintro e w' ⟨rfl, rfl⟩))
  go_ret
  exact ⟨rfl, rfl⟩
end Go.Proofs.YthmaoeajbmfmaaaGreatDoor

/-
  Contracts of the loops that look for the first error: over a slice of integers that is known cell by cell; and what it means that a slice's cells are known.
-/
namespace Go.Proofs.YthmaoeajbmfmaaaGreatDoor
open Go.RowKit
set_option linter.unusedVariables false

/-- The first number of a list that is not 0, or 0. -/
def firstNZ : List Int → Int
  | [] => 0
  | x :: r => if x ≠ 0 then x else firstNZ r

theorem firstNZ_zeros {l : List Int} (h : ∀ x ∈ l, x = 0) : firstNZ l = 0 := by
  induction l with
  | nil => rfl
  | cons x r ih => rw [firstNZ, if_neg (by have := h x (by simp); omega)]; exact ih fun y hy => h y (by simp [hy])
theorem firstNZ_at {l : List Int} {k : Nat} (hk : k < l.length) (h0 : ∀ j, j < k → l.getD j 0 = 0) (h1 : l.getD k 0 ≠ 0) : firstNZ l = l.getD k 0 := by
  induction l generalizing k with
  | nil => simp at hk
  | cons x r ih =>
    cases k with
    | zero => simp at h1 ⊢; rw [firstNZ, if_pos h1]
    | succ k =>
      have hx : x = 0 := by simpa using h0 0 (by omega)
      rw [firstNZ, if_neg (by omega)]
      simp only [List.getD_cons_succ] at h1 ⊢
      exact ih (by simpa using hk) (fun j hj => by simpa using h0 (j + 1) (by omega)) h1
theorem firstNZ_end {l : List Int} (h : ∀ j, j < l.length → l.getD j 0 = 0) : firstNZ l = 0 := by
  refine firstNZ_zeros fun x hx => ?_
  obtain ⟨i, hi, rfl⟩ := List.getElem_of_mem hx
  have := h i hi
  simpa [List.getD_eq_getElem?_getD, hi] using this

set_option maxHeartbeats 1000000 in
theorem refFirst_any (b o n c : Nat) (zs : List Int) (hz : zs.length = n) (hm : n ≤ 4611686018427387904) (w : World)
    (hc : ∀ j, j < n → w.cell? ⟨b, o + j, none⟩ = some (.int .i64 (zs[j]?.getD 0))) :
    Calls Tryz.prog 81 #[.slice (some ⟨b, o, none⟩) n c] w fun e w' => e = .returned (.int .i64 (firstNZ zs)) ∧ w = w' := by
  have Hz := Lib.hid hz
  have Hc := Lib.hid hc
  clear hz hc
  go_enter Tryz.func81, Tryz.ntmps81
  go_wp2
  go_loop [3] (fun i => ∃ k : Nat, k ≤ n ∧ i = .int .i64 k ∧ Hid (∀ j, j < k → zs.getD j 0 = 0)) (fun i => n - (intOf i).toNat)
  case atStart => exact ⟨0, Nat.zero_le _, rfl, fun j hj => absurd hj (by omega)⟩
  case round =>
    obtain ⟨k, hk, rfl, hh⟩ := hrel
    by_cases hlt : k < n
    · have hcell := Hc.out k hlt
      by_cases h0 : zs[k]?.getD 0 = 0
      · have e0 : (zs[k]?.getD 0 != 0) = false := by simp [h0]
        have H0 := Lib.hid h0
        clear h0
        go_wp2
        go_round
        case rel => exact ⟨k + 1, by omega, by go_num, fun j hj => by
          by_cases hjk : j < k
          · exact hh.out j hjk
          · obtain rfl : j = k := by omega
            rw [List.getD_eq_getElem?_getD]; exact H0.out⟩
        case measure => simp [intOf]; omega
      · have e0 : (zs[k]?.getD 0 != 0) = true := by simp [h0]
        have H0 := Lib.hid h0
        clear h0
        go_wp2
        go_ret
        exact ⟨ret_int (by rw [firstNZ_at (by rw [Hz.out]; exact hlt) hh.out (by rw [List.getD_eq_getElem?_getD]; exact H0.out), List.getD_eq_getElem?_getD]), rfl⟩
    · go_wp2
      go_ret
      exact ⟨ret_int (firstNZ_end fun j hj => hh.out j (by have := Hz.out; omega)).symm, rfl⟩
set_option maxHeartbeats 1000000 in
theorem first_any (b o n c : Nat) (zs : List Int) (hz : zs.length = n) (hm : n ≤ 4611686018427387904) (w : World)
    (hc : ∀ j, j < n → w.cell? ⟨b, o + j, none⟩ = some (.int .i64 (zs[j]?.getD 0))) :
    Calls Tryz.prog 60 #[.slice (some ⟨b, o, none⟩) n c] w fun e w' => e = .returned (.int .i64 (firstNZ zs)) ∧ w = w' := by
  have Hz := Lib.hid hz
  have Hc := Lib.hid hc
  clear hz hc
  go_enter Tryz.func60, Tryz.ntmps60
  go_wp2
  go_loop [7] (fun i => ∃ k : Nat, k ≤ n ∧ i = .int .i64 k ∧ Hid (∀ j, j < k → zs.getD j 0 = 0)) (fun i => n - (intOf i).toNat)
  case atStart => exact ⟨0, Nat.zero_le _, rfl, fun j hj => absurd hj (by omega)⟩
  case round =>
    obtain ⟨k, hk, rfl, hh⟩ := hrel
    by_cases hlt : k < n
    · have hcell := Hc.out k hlt
      by_cases h0 : zs[k]?.getD 0 = 0
      · have e0 : (zs[k]?.getD 0 != 0) = false := by simp [h0]
        have H0 := Lib.hid h0
        clear h0
        go_wp2
        go_round
        case rel => exact ⟨k + 1, by omega, by go_num, fun j hj => by
          by_cases hjk : j < k
          · exact hh.out j hjk
          · obtain rfl : j = k := by omega
            rw [List.getD_eq_getElem?_getD]; exact H0.out⟩
        case measure => simp [intOf]; omega
      · have e0 : (zs[k]?.getD 0 != 0) = true := by simp [h0]
        have H0 := Lib.hid h0
        clear h0
        go_wp2
        go_ret
        exact ⟨ret_int (by rw [firstNZ_at (by rw [Hz.out]; exact hlt) hh.out (by rw [List.getD_eq_getElem?_getD]; exact H0.out), List.getD_eq_getElem?_getD]), rfl⟩
    · go_wp2
      go_ret
      exact ⟨ret_int (firstNZ_end fun j hj => hh.out j (by have := Hz.out; omega)).symm, rfl⟩

theorem first_zeros (b o n c : Nat) (hm : n ≤ 4611686018427387904) (w : World) (hc : ∀ j, j < n → w.cell? ⟨b, o + j, none⟩ = some (.int .i64 0)) :
    Calls Tryz.prog 60 #[.slice (some ⟨b, o, none⟩) n c] w fun e w' => e = .returned (.int .i64 0) ∧ w = w' := by
  have h := first_any b o n c (List.replicate n 0) (by simp) hm w (fun j hj => by rw [hc j hj]; simp [hj])
  rwa [firstNZ_zeros (fun x hx => (List.mem_replicate.1 hx).2)] at h

/-- The cells of a row that the call owns. -/
theorem owns_cell {w : World} {B T n c g : Nat} {vs : List Value} (h : w.ownsRow B T 1 (.slice (some ⟨g, 0, none⟩) n c) n vs) {j : Nat} {v : Value} (hj : vs[j]? = some v) : w.cell? ⟨g, j, none⟩ = some v := by
  have hadd : (⟨g, 0, none⟩ : Addr).add j = ⟨g, j, none⟩ := by unfold Addr.add; split <;> simp_all
  rw [← hadd]; exact h.cells (g := g) rfl j v hj
end Go.Proofs.YthmaoeajbmfmaaaGreatDoor
