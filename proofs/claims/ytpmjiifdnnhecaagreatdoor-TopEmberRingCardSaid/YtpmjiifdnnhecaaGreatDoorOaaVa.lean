/-
  The fixed examples of chapter 1: maps that are written out, and the contracts of light's functions at them.
-/
import Derived.Deep.CutBlock
import Derived.Deep.DeepCutAuto
import Derived.Deep.RegionHeld3
import Derived.StillTailTactics
import Derived.Test.YtpmjiifdnnhecaaGreatDoorOaaZy
import Derived.Test.YtpmjiifdnnhecaaGreatDoorOaaZu
import Derived.Test.YtpmjiifdnnhecaaGreatDoorOaaZi
import Derived.Test.YtpmjiifdnnhecaaGreatDoorOaaXe
import Derived.Test.YtpmjiifdnnhecaaGreatDoorOaaXg
import Derived.Test.YtpmjiifdnnhecaaGreatDoorOaaXd
import Derived.Test.YtpmjiifdnnhecaaGreatDoorOaaWf
import Derived.Test.YtpmjiifdnnhecaaGreatDoorOaaWk
import Derived.Test.YtpmjiifdnnhecaaGreatDoorOaaWc
import Derived.Test.YtpmjiifdnnhecaaGreatDoorOaaZk
import Derived.Test.YtpmjiifdnnhecaaGreatDoorOaaZr
import Derived.Test.YtpmjiifdnnhecaaGreatDoorOaaWh
import Derived.BigQuiet
import Derived.Test.YtpmjiifdnnhecaaGreatDoorOaaBo
import Derived.Test.YtpmjiifdnnhecaaGreatDoorOaaBd
import Derived.Test.YtpmjiifdnnhecaaGreatDoorOaaXi
import Derived.Test.YtpmjiifdnnhecaaGreatDoorOaaXh
import Derived.Test.YtpmjiifdnnhecaaGreatDoorOaaXc
import Derived.Laws.ComplexArith
namespace Go.Proofs.YtpmjiifdnnhecaaGreatDoor
open Go.RowKit Go.Shelf
set_option linter.unusedVariables false

/-- Samples in a block, by their integers. -/
def LitAt (w : World) (g n : Nat) (ks : List Int) : Prop := g < w.heap.size ∧ ∀ j, j < n → w.cell? ⟨g, j, none⟩ = some (.float .f32 (smpOf (ks[j]?.getD 0)))
theorem LitAt.below {N g n : Nat} {ks : List Int} {w w' : World} (h : LitAt w g n ks) (hb : Below N w w') (hg : g < N) : LitAt w' g n ks :=
  ⟨Nat.lt_of_lt_of_le h.1 hb.size, fun j hj => (hb.cell (p := ⟨g, j, none⟩) hg).trans (h.2 j hj)⟩
theorem LitAt.kept {g n : Nat} {ks : List Int} {w w' : World} (h : LitAt w g n ks) (hb : Below w.heap.size w w') : LitAt w' g n ks := h.below hb h.1
theorem LitAt.right {w : World} {g n : Nat} {ks : List Int} (h : LitAt w g n ks) (W H : Nat) (hl : ks.length = n) (hn : n ≤ 4096) (hs : ∀ j, j < n → (ks[j]?.getD 0).natAbs ≤ 16384) (hW : 1 ≤ W ∧ W ≤ 64) (hH : 1 ≤ H ∧ H ≤ 64) (ha : W * H = n) : RightMap w W H g 0 n (ks.map smpOf) ks := by
  have e : ∀ j, j < n → (ks.map smpOf)[j]?.getD 0 = smpOf (ks[j]?.getD 0) := fun j hj => by
    rw [List.getElem?_map, List.getElem?_eq_getElem (by omega)]; rfl
  have hlt : ∀ k : Int, k.natAbs < 2 ^ 24 → smpOf k < 2 ^ 32 := fun k hk => by
    have := floatBits_wf (smpOf_run k hk)
    simpa [Lit.wf] using this
  exact ⟨⟨by rw [List.length_map]; exact hl, hl, hn, fun j hj => by rw [Nat.zero_add, e j hj]; exact h.2 j hj, fun j hj => by rw [e j hj]; exact hlt _ (Nat.lt_of_le_of_lt (hs j hj) (by decide)), fun j hj => by rw [e j hj]; exact smpOf_smp _ (Nat.lt_of_le_of_lt (hs j hj) (by decide)), hs⟩, by omega, by omega, by rw [← ha]; push_cast; rfl⟩

section
variable (w : World)
theorem itoa_neg (u : Nat) (h : u < 10) (h0 : 0 < u) : Lib.itoa (-(u : Int)) = [45, UInt8.ofNat (48 + u)] := by
  have e : Lib.decDigits u = [UInt8.ofNat (48 + u)] := by rw [Lib.decDigits, dif_pos h]
  unfold Lib.itoa
  rw [if_pos (by omega)]
  simpa using e
end
end Go.Proofs.YtpmjiifdnnhecaaGreatDoor

/-
  The walk of awake, chapter 1's fixed examples: regions 1 to 3.
-/
namespace Go.Proofs.YtpmjiifdnnhecaaGreatDoor
open Go.RowKit Go.Shelf
set_option linter.unusedVariables false
set_option linter.unusedSimpArgs false

/-- A variable with a map that is written out; with the point 2, 1. -/
def MBox (w : World) (B : Nat) (W H : Int) (n : Nat) (L : List Int) : Prop := ∃ g, w.heap[B]? = some (.cells #[.int .i64 W, .int .i64 H, .slice (some ⟨g, 0, none⟩) n n] 121 (0, 0)) ∧ LitAt w g n L
theorem MBox.kept {w w' : World} {B : Nat} {W H : Int} {n : Nat} {L : List Int} (h : MBox w B W H n L) (hb : Below w.heap.size w w') : MBox w' B W H n L := by
  obtain ⟨g, h1, h2⟩ := h
  exact ⟨g, (hb.block _ (lt_of_blk h1)).trans h1, h2.kept hb⟩
theorem MBox.new {w : World} {W H : Int} {g n : Nat} {L : List Int} (h : LitAt w g n L) : MBox (w.alloc (.cells #[.int .i64 W, .int .i64 H, .slice (some ⟨g, 0, none⟩) n n] 121)) w.heap.size W H n L :=
  ⟨g, blk_alloc_new _ _, h.kept ((Below.refl _ w).alloc (Nat.le_refl _) _)⟩
def PBox (w : World) (B : Nat) : Prop := w.heap[B]? = some (.cells #[.int .i64 2, .int .i64 1] 124 (0, 0))
theorem PBox.kept {w w' : World} {B : Nat} (h : PBox w B) (hb : Below w.heap.size w w') : PBox w' B := (hb.block _ (lt_of_blk h)).trans h
theorem PBox.new (w : World) : PBox (w.alloc (.cells #[.int .i64 2, .int .i64 1] 124)) w.heap.size := blk_alloc_new _ _

end Go.Proofs.YtpmjiifdnnhecaaGreatDoor

/-
  The walk of awake, chapter 1's fixed examples: regions 10 to 13.
-/
namespace Go.Proofs.YtpmjiifdnnhecaaGreatDoor
open Go.RowKit Go.Shelf
set_option linter.unusedVariables false
set_option linter.unusedSimpArgs false

/-- Variables with the transform, with the frame, with the telegram of the examples. -/
def CBox (w : World) (B : Nat) : Prop := w.heap[B]? = some (.cells #[.complex .f32 1092616192 0, .complex .f32 3221225472 1073741824, .complex .f32 3221225472 0, .complex .f32 3221225472 3221225472] 136 (0, 0))
theorem CBox.kept {w w' : World} {B : Nat} (h : CBox w B) (hb : Below w.heap.size w w') : CBox w' B := (hb.block _ (lt_of_blk h)).trans h
def frV : List Value := (frame 1 258 3 5 (-5) 0).map (Value.int .u8)
def FBox (w : World) (B : Nat) : Prop := w.heap[B]? = some (.cells frV.toArray 327 (0, 0))
theorem FBox.kept {w w' : World} {B : Nat} (h : FBox w B) (hb : Below w.heap.size w w') : FBox w' B := (hb.block _ (lt_of_blk h)).trans h
end Go.Proofs.YtpmjiifdnnhecaaGreatDoor

/-
  Contracts of Part and Placed for every map, every spans, sides and place; the reference's.
-/
namespace Go.Proofs.YtpmjiifdnnhecaaGreatDoor
open Go.RowKit
set_option linter.unusedVariables false
set_option linter.unusedSimpArgs false

def placedOk (W H ww hh px py : Int) : Prop := 0 ≤ px ∧ px ≤ ww - W ∧ 0 ≤ py ∧ py ≤ hh - H
instance (W H ww hh px py : Int) : Decidable (placedOk W H ww hh px py) := by unfold placedOk; infer_instance
end Go.Proofs.YtpmjiifdnnhecaaGreatDoor

/-
  What Part, At, Peak, Placed and Added make of right maps in memory, by their integers.
-/

namespace Go.Proofs.YtpmjiifdnnhecaaGreatDoor
open Go.RowKit
set_option linter.unusedVariables false
set_option linter.unusedSimpArgs false

/-- The integers of a map that is placed. -/
def placeK (W H PX PY WW N : Nat) (L : List Int) : List Int := (List.range N).map (fun j => placedK W H PX PY L (j % WW, j / WW))
theorem placeK_get {W H PX PY WW N : Nat} {L : List Int} {j : Nat} (hj : j < N) : (placeK W H PX PY WW N L)[j]?.getD 0 = placedK W H PX PY L (j % WW, j / WW) := by
  unfold placeK; rw [List.getElem?_map, List.getElem?_range hj]; rfl
theorem rm_placed {w : World} {W H n b o : Nat} {L : List Int} (h : RM w W H n L b o) (c : Nat) {WW HH PX PY N : Nat} (hX : PX + W ≤ WW) (hY : PY + H ≤ HH) (hWW : WW ≤ 64) (hHH : HH ≤ 64) (hN : HH * WW = N) :
    GivesMap 64 #[.agg #[.int .i64 W, .int .i64 H, .slice (some ⟨b, o, none⟩) n c], .int .i64 WW, .int .i64 HH, .agg #[.int .i64 PX, .int .i64 PY]] w WW HH N (placeK W H PX PY WW N L) := by
  have hw := h.wid
  have hh := h.hei
  have ha := h.area
  have hsz := h.sizes
  obtain ⟨h1, xs, h2⟩ := h
  have hN' : WW * HH = N := by rw [Nat.mul_comm]; exact hN
  have k := placed_any W H WW HH PX PY hX hY hWW hHH b o c n xs L w h2 h1
  rw [hN'] at k
  refine k.mono ?_
  rintro e w' ⟨g, he, hg, hcell, hb⟩
  refine ⟨g, he, RM.of_cells (by simp [placeK]) (by rw [← hN]; exact Nat.le_trans (Nat.mul_le_mul hHH hWW) (by decide)) (fun j hj => ?_) (by omega) (by omega) hN hg (fun j hj => by rw [placeK_get hj]; exact hcell j hj), hb⟩
  rw [placeK_get hj]
  unfold placedK
  split
  · rename_i hin
    exact hsz _ (by rw [← ha]; exact place_in (by omega) (by omega))
  · simp

/-- The sums of two lists of integers. -/
def addK (n : Nat) (L M : List Int) : List Int := (List.range n).map (fun j => L[j]?.getD 0 + M[j]?.getD 0)
theorem addK_get {n : Nat} {L M : List Int} {j : Nat} (hj : j < n) : (addK n L M)[j]?.getD 0 = L[j]?.getD 0 + M[j]?.getD 0 := by
  unfold addK; rw [List.getElem?_map, List.getElem?_range hj]; rfl
theorem rm_added {w : World} {W H n b o b' o' : Nat} {L M : List Int} (h : RM w W H n L b o) (h' : RM w W H n M b' o') (c c' : Nat) (hs : ∀ j, j < n → (L[j]?.getD 0 + M[j]?.getD 0 : Int).natAbs ≤ 16384) :
    GivesMap 65 #[.agg #[.int .i64 W, .int .i64 H, .slice (some ⟨b, o, none⟩) n c], .agg #[.int .i64 W, .int .i64 H, .slice (some ⟨b', o', none⟩) n c']] w W H n (addK n L M) := by
  have hw := h.wid
  have hh := h.hei
  have ha := h.area
  have hn := h.small
  have hl := h.len
  have hl' := h'.len
  obtain ⟨h1, xs, h2⟩ := h
  obtain ⟨g1, ys, g2⟩ := h'
  refine (added_any W H b o c b' o' c' n xs ys L M w h2 g2 h1 g1 (fun j => ?_)).mono ?_
  · by_cases hj : j < n
    · exact hs j hj
    · rw [List.getElem?_eq_none (by omega), List.getElem?_eq_none (by omega)]; decide
  · rintro e w' ⟨g, he, hg, hcell, hb⟩
    exact ⟨g, he, RM.of_cells (by simp [addK]) hn (fun j hj => by rw [addK_get hj]; exact hs j hj) (by omega) (by omega) ha hg (fun j hj => by rw [addK_get hj]; exact hcell j hj), hb⟩
end Go.Proofs.YtpmjiifdnnhecaaGreatDoor

/-
  Exact sums, products by 1, -1 and 0, and conversions of floats that stand for integers of one unit.
-/

namespace Go.Proofs.YtpmjiifdnnhecaaGreatDoor
open Go.RowKit
open Ieee (Format single double Datum signed)
set_option linter.unusedVariables false
set_option linter.unusedSimpArgs false

/-- The word stands for the integer z in units of 2 ^ U least places. -/
def Val (f : Format) (x : Nat) (z : Int) (U : Nat) : Prop := ∃ s, IsNum f x s (z.natAbs * 2 ^ U) ∧ (z < 0 → s = true) ∧ (0 < z → s = false)
theorem Val.smp {x : Nat} {k : Int} (h : Smp x k) : Val single x k 145 := h
theorem Val.zero {f : Format} {x : Nat} {U : Nat} {s : Bool} (h : IsNum f x s 0) : Val f x 0 U := ⟨s, by simpa using h, by omega, by omega⟩
theorem sgn_val {s : Bool} {z : Int} (c : Nat) (h1 : z < 0 → s = true) (h2 : 0 < z → s = false) : sgn s (z.natAbs * c) = z * c := sgn_smp c h1 h2

theorem signed_val {f : Format} {s : Bool} {m : Nat} {i base : Int} (h1 : f.leastPlace ≤ base) (h2 : base ≤ i) :
    signed s m (i - base).toNat * ((2 ^ (base - f.leastPlace).toNat : Nat) : Int) = sgn s (m * 2 ^ (i - f.leastPlace).toNat) := by
  rw [signed_eq, ← sgn_mul, Nat.mul_assoc, ← Nat.pow_add]
  congr 3
  omega

/-- A sum that needs no more digits than there are is exact. -/
theorem num_sum {f : Format} (hf : Two f) (s t : Bool) (m n : Nat) (i j : Int) (hi : f.leastPlace ≤ i) (hj : f.leastPlace ≤ j) (z : Int) (U : Nat)
    (hz : sgn s (m * 2 ^ (i - f.leastPlace).toNat) + sgn t (n * 2 ^ (j - f.leastPlace).toNat) = z * ((2 ^ U : Nat) : Int)) (ha : z.natAbs < 2 ^ (f.fractionBits + 1)) (hU : f.fractionBits + 1 + U ≤ f.fractionBits + 2 ^ f.exponentBits - 2) :
    ∃ r, ((Datum.number s m i).sum (.number t n j)).map f.write = some r ∧ Val f r z U := by
  obtain ⟨base, hb⟩ : ∃ base, min i j = base := ⟨_, rfl⟩
  have hb1 : f.leastPlace ≤ base := by omega
  have hb2 : base ≤ i := by omega
  have hb3 : base ≤ j := by omega
  obtain ⟨T, hT⟩ : ∃ T, signed s m (i - base).toNat + signed t n (j - base).toNat = T := ⟨_, rfl⟩
  obtain ⟨B, hB⟩ : ∃ B, (base - f.leastPlace).toNat = B := ⟨_, rfl⟩
  have e : T * ((2 ^ B : Nat) : Int) = z * ((2 ^ U : Nat) : Int) := by
    rw [← hz, ← hT, Int.add_mul, ← hB, signed_val hb1 hb2, signed_val hb1 hb3]
  have pB : (0 : Int) < ((2 ^ B : Nat) : Int) := by have := Nat.two_pow_pos B; omega
  have pU : (0 : Int) < ((2 ^ U : Nat) : Int) := by have := Nat.two_pow_pos U; omega
  have en : T.natAbs * 2 ^ B = z.natAbs * 2 ^ U := by
    have := congrArg Int.natAbs e
    rwa [Int.natAbs_mul, Int.natAbs_mul, Int.natAbs_natCast, Int.natAbs_natCast] at this
  have hmax : z.natAbs * 2 ^ U < 2 ^ (f.fractionBits + 2 ^ f.exponentBits - 2) := Nat.lt_of_lt_of_le (pow_split ha) (Nat.pow_le_pow_right (by omega) hU)
  refine ⟨f.nearest (if T = 0 then s && t else decide (T < 0)) T.natAbs base, ?_, ?_⟩
  · simp only [Datum.sum, hb, Option.map_some, Format.write, hT]
  · have hs1 : T = 0 ↔ z = 0 := by
      constructor
      · intro h; rw [h, Int.zero_mul] at e
        rcases Int.mul_eq_zero.1 e.symm with h | h
        · exact h
        · omega
      · intro h; rw [h, Int.zero_mul] at e
        rcases Int.mul_eq_zero.1 e with h | h
        · exact h
        · omega
    have hs2 : T < 0 ↔ z < 0 := by
      constructor
      · intro h
        have := Int.mul_neg_of_neg_of_pos h pB
        rw [e] at this
        exact Int.not_le.1 fun h0 => by have := Int.mul_nonneg h0 (Int.le_of_lt pU); omega
      · intro h
        have := Int.mul_neg_of_neg_of_pos h pU
        rw [← e] at this
        exact Int.not_le.1 fun h0 => by have := Int.mul_nonneg h0 (Int.le_of_lt pB); omega
    obtain ⟨σ, hσ⟩ : ∃ σ, (if T = 0 then s && t else decide (T < 0)) = σ := ⟨_, rfl⟩
    have hσ1 : z < 0 → σ = true := fun h => by
      have h1 : ¬ T = 0 := fun h0 => by have := hs1.1 h0; omega
      rw [← hσ, if_neg h1]; exact decide_eq_true (hs2.2 h)
    have hσ2 : 0 < z → σ = false := fun h => by
      have h1 : ¬ T = 0 := fun h0 => by have := hs1.1 h0; omega
      rw [← hσ, if_neg h1]; exact decide_eq_false (fun h2 => by have := hs2.1 h2; omega)
    refine ⟨σ, ?_, hσ1, hσ2⟩
    rw [hσ]
    by_cases hBU : B ≤ U
    · have eT : T.natAbs = z.natAbs * 2 ^ (U - B) := by
        have h1 : z.natAbs * 2 ^ U = z.natAbs * 2 ^ (U - B) * 2 ^ B := by rw [Nat.mul_assoc, ← Nat.pow_add]; congr 2; omega
        rw [h1] at en
        exact Nat.eq_of_mul_eq_mul_right (Nat.two_pow_pos _) en
      have k := isNum_nearest hf σ z.natAbs (U - B) (base + ((U - B : Nat) : Int)) ha (by omega) (by
        rw [show (base + ((U - B : Nat) : Int) - f.leastPlace).toNat = U by omega]; exact hmax)
      rw [show (base + ((U - B : Nat) : Int) - f.leastPlace).toNat = U by omega, show base + ((U - B : Nat) : Int) - ((U - B : Nat) : Int) = base by omega, ← eT] at k
      exact k
    · have eT : T.natAbs * 2 ^ (B - U) = z.natAbs := by
        have h1 : T.natAbs * 2 ^ B = T.natAbs * 2 ^ (B - U) * 2 ^ U := by rw [Nat.mul_assoc, ← Nat.pow_add]; congr 2; omega
        rw [h1] at en
        exact Nat.eq_of_mul_eq_mul_right (Nat.two_pow_pos _) en
      have hle : T.natAbs ≤ z.natAbs := by rw [← eT]; exact Nat.le_mul_of_pos_right _ (Nat.two_pow_pos _)
      have k := isNum_nearest hf σ T.natAbs 0 base (by omega) hb1 (by rw [hB, en]; exact hmax)
      rw [hB, en, Nat.pow_zero, Nat.mul_one, show base - ((0 : Nat) : Int) = base by omega] at k
      exact k
theorem Val.add {f : Format} (hf : Two f) {x y : Nat} {k l : Int} {U : Nat} (hx : Val f x k U) (hy : Val f y l U) (ha : (k + l).natAbs < 2 ^ (f.fractionBits + 1)) (hU : f.fractionBits + 1 + U ≤ f.fractionBits + 2 ^ f.exponentBits - 2) :
    ∃ r, f.add x y = some r ∧ Val f r (k + l) U := by
  obtain ⟨s, ⟨m, i, h1, h2, h3, h4⟩, hs1, hs2⟩ := hx
  obtain ⟨t, ⟨n, j, g1, g2, g3, g4⟩, gs1, gs2⟩ := hy
  unfold Format.add
  rw [h1, g1]
  refine num_sum hf s t m n i j h2 g2 (k + l) U ?_ ha hU
  rw [h4, g4, sgn_val _ hs1 hs2, sgn_val _ gs1 gs2, Int.add_mul]
theorem Val.sub {f : Format} (hf : Two f) {x y : Nat} {k l : Int} {U : Nat} (hx : Val f x k U) (hy : Val f y l U) (ha : (k - l).natAbs < 2 ^ (f.fractionBits + 1)) (hU : f.fractionBits + 1 + U ≤ f.fractionBits + 2 ^ f.exponentBits - 2) :
    ∃ r, f.sub x y = some r ∧ Val f r (k - l) U := by
  obtain ⟨s, ⟨m, i, h1, h2, h3, h4⟩, hs1, hs2⟩ := hx
  obtain ⟨t, ⟨n, j, g1, g2, g3, g4⟩, gs1, gs2⟩ := hy
  unfold Format.sub
  rw [h1, g1]
  refine num_sum hf s (!t) m n i j h2 g2 (k - l) U ?_ ha hU
  have e : sgn (!t) (n * 2 ^ (j - f.leastPlace).toNat) = -(l * ((2 ^ U : Nat) : Int)) := by
    rw [g4, ← sgn_val _ gs1 gs2]
    unfold sgn
    cases t <;> simp
  rw [e, h4, sgn_val _ hs1 hs2, Int.sub_mul]
  omega

/-- Times 1, -1 or 0. -/
def UnitW (f : Format) (c : Nat) (q : Int) : Prop := (∃ t, f.read c = .number t (2 ^ f.fractionBits) (-(f.fractionBits : Int)) ∧ q = if t then -1 else 1) ∨ (∃ t e, f.read c = .number t 0 e ∧ q = 0)
theorem Val.mulU {f : Format} (hf : Two f) {x c : Nat} {k q : Int} {U : Nat} (hx : Val f x k U) (hc : UnitW f c q) (ha : k.natAbs < 2 ^ (f.fractionBits + 1)) (hU : f.fractionBits + 1 + U ≤ f.fractionBits + 2 ^ f.exponentBits - 2) :
    ∃ r, f.mul x c = some r ∧ Val f r (k * q) U := by
  obtain ⟨s, ⟨m, i, h1, h2, h3, h4⟩, hs1, hs2⟩ := hx
  rcases hc with ⟨t, hc, rfl⟩ | ⟨t, e, hc, rfl⟩
  · have hmax : m * 2 ^ (i - f.leastPlace).toNat < 2 ^ (f.fractionBits + 2 ^ f.exponentBits - 2) := by
      rw [h4]; exact Nat.lt_of_lt_of_le (pow_split ha) (Nat.pow_le_pow_right (by omega) hU)
    have h := isNum_nearest hf (s ^^ t) m f.fractionBits i h3 h2 hmax
    rw [h4] at h
    refine ⟨f.nearest (s ^^ t) (m * 2 ^ f.fractionBits) (i - (f.fractionBits : Int)), ?_, s ^^ t, ?_, ?_, ?_⟩
    · unfold Format.mul
      rw [h1, hc]
      simp only [Datum.product, Option.map_some, Format.write]
      rw [show i + -(f.fractionBits : Int) = i - (f.fractionBits : Int) by omega]
    · have e : (k * if t then -1 else 1).natAbs = k.natAbs := by cases t <;> simp
      rw [e]; exact h
    · cases t
      · simp; exact hs1
      · simp; intro hk; exact hs2 hk
    · cases t
      · simp; exact hs2
      · simp; intro hk; exact hs1 hk
  · refine ⟨f.word (s ^^ t) 0, ?_, ?_⟩
    · unfold Format.mul
      rw [h1, hc]
      simp only [Datum.product, Option.map_some, Format.write, Nat.mul_zero, nearest_zero]
    · rw [Int.mul_zero]
      have h := isNum_nearest hf (s ^^ t) 0 0 f.leastPlace (Nat.two_pow_pos _) (Int.le_refl _) (by rw [Nat.zero_mul]; exact Nat.two_pow_pos _)
      rw [Nat.zero_mul, nearest_zero, Nat.zero_mul] at h
      exact Val.zero h

/-- From float32 to float64 and back. -/
theorem Val.to64 {x : Nat} {k : Int} (h : Smp x k) (hk : k.natAbs < 2 ^ 24) : ∃ d, floatToFloatBits .f32 x .f64 = some d ∧ Val double d k 1070 := by
  obtain ⟨s, h1, h2, h3⟩ := h
  obtain ⟨d, hd, hn⟩ := toF64 (24 + 145) h1 (pow_split hk) (by decide)
  refine ⟨d, hd, s, ?_, h2, h3⟩
  have e : k.natAbs * 2 ^ 145 * 2 ^ 925 = k.natAbs * 2 ^ 1070 := mul_pow_join _ 145 925 1070 rfl
  rw [e] at hn
  exact hn
theorem Val.to32 {d : Nat} {k : Int} (h : Val double d k 1070) (hk : k.natAbs < 2 ^ 24) : ∃ x, floatToFloatBits .f64 d .f32 = some x ∧ Smp x k := by
  obtain ⟨s, ⟨m, e, h1, h2, h3, h4⟩, hs1, hs2⟩ := h
  have hD : double.leastPlace = -1074 := by decide
  have hS : single.leastPlace = -149 := by decide
  have hpos : 0 < 2 ^ (e - double.leastPlace).toNat := Nat.two_pow_pos _
  -- the number as k sixteenths: written at the place -4
  have hmax : k.natAbs * 2 ^ ((-4 : Int) - single.leastPlace).toNat < 2 ^ (single.fractionBits + 2 ^ single.exponentBits - 2) := by
    rw [hS]; exact Nat.lt_of_lt_of_le (pow_split hk) (Nat.pow_le_pow_right (by omega) (by decide))
  obtain ⟨E, hE⟩ : ∃ E, (e - double.leastPlace).toNat = E := ⟨_, rfl⟩
  rw [hE] at h4
  by_cases hEU : E ≤ 1070
  · have em : m = k.natAbs * 2 ^ (1070 - E) := by
      have h5 := fun (U : Nat) (hU : E ≤ U) => (mul_pow_join k.natAbs (U - E) E U (by omega)).symm
      rw [h5 1070 hEU] at h4
      exact Nat.eq_of_mul_eq_mul_right (Nat.two_pow_pos _) h4
    have q := isNum_nearest two32 s k.natAbs (1070 - E) (-4) hk (by omega) hmax
    rw [show ((-4 : Int) - ((1070 - E : Nat) : Int)) = e by omega, ← em, show ((-4 : Int) - single.leastPlace).toNat = 145 by rw [hS]; rfl] at q
    refine ⟨single.nearest s m e, ?_, s, q, hs1, hs2⟩
    obtain ⟨m', e', k1, _⟩ := q
    unfold floatToFloatBits
    have hne : ¬ FloatKind.f64 = FloatKind.f32 := by decide
    have hdec : FloatKind.f64.decode d = .number s m e := h1
    have henc : FloatKind.f32.encode (.number s m e) = single.nearest s m e := rfl
    have hdec2 : FloatKind.f32.decode (single.nearest s m e) = .number s m' e' := k1
    simp only [hne, if_false, hdec, henc, hdec2, Datum.isInfinity]
    simp
  · have em : m * 2 ^ (E - 1070) = k.natAbs := by
      have h5 := fun (U : Nat) (hU : U ≤ E) => (mul_pow_join m (E - U) U E (by omega)).symm
      rw [h5 1070 (by omega)] at h4
      exact Nat.eq_of_mul_eq_mul_right (Nat.two_pow_pos _) h4
    have hm : m < 2 ^ 24 := Nat.lt_of_le_of_lt (by rw [← em]; exact Nat.le_mul_of_pos_right _ (Nat.two_pow_pos _)) hk
    have ev : m * 2 ^ (e - single.leastPlace).toNat = k.natAbs * 2 ^ 145 := by
      rw [← em]
      exact (mul_pow_join m _ _ _ (by rw [hS]; rw [hD] at hE; omega)).symm
    have q := isNum_nearest two32 s m 0 e hm (by rw [hS]; rw [hD] at hE; omega) (by
      rw [ev]; exact Nat.lt_of_lt_of_le (pow_split hk) (Nat.pow_le_pow_right (by omega) (by decide)))
    rw [Nat.pow_zero, Nat.mul_one, show e - ((0 : Nat) : Int) = e by omega, ev] at q
    refine ⟨single.nearest s m e, ?_, s, q, hs1, hs2⟩
    obtain ⟨m', e', k1, _⟩ := q
    unfold floatToFloatBits
    have hne : ¬ FloatKind.f64 = FloatKind.f32 := by decide
    have hdec : FloatKind.f64.decode d = .number s m e := h1
    have henc : FloatKind.f32.encode (.number s m e) = single.nearest s m e := rfl
    have hdec2 : FloatKind.f32.decode (single.nearest s m e) = .number s m' e' := k1
    simp only [hne, if_false, hdec, henc, hdec2, Datum.isInfinity]
    simp
end Go.Proofs.YtpmjiifdnnhecaaGreatDoor

/-
  Sums of complex numbers, and their products with the powers of -i, where the parts are multiples of 1/16: exact.
-/
namespace Go.Proofs.YtpmjiifdnnhecaaGreatDoor
open Go.RowKit
open Ieee (Format single double Datum signed)
set_option linter.unusedVariables false
set_option linter.unusedSimpArgs false

theorem run_conv {P : Program} (w : World) {src dst : FloatKind} {x d : Nat} (hne : ¬ src = dst) (h : floatToFloatBits src x dst = some d) : (Op.Complex.conv src x dst).run P w = .ok d w := by
  unfold floatToFloatBits at h
  rw [if_neg hne] at h
  unfold Op.Complex.conv
  rw [if_neg hne]
  unfold Conv.floatToFloat
  rw [if_neg hne]
  split at h
  · cases h
  · rename_i s hs
    cases h
    simp [hs]
  · rename_i s m e hs
    split at h
    · cases h
    · rename_i hi
      cases h
      simp [hs, hi]

/-- What -i to the power of n is. -/
def powRe (n : Nat) : Int := match n with | 0 => 1 | 1 => 0 | 2 => -1 | _ => 0
def powIm (n : Nat) : Int := match n with | 0 => 0 | 1 => -1 | 2 => 0 | _ => 1
/-- The words of the powers of -i. -/
def powWR (n : Nat) : Nat := match n with | 0 => 1065353216 | 1 => 0 | 2 => 3212836864 | _ => 0
def powWI (n : Nat) : Nat := match n with | 0 => 0 | 1 => 3212836864 | 2 => 0 | _ => 1065353216
theorem powL_words {n : Nat} (hn : n < 4) : powL[n]? = some (.complex .f32 (powWR n) (powWI n)) := by
  match n, hn with
  | 0, _ => rfl
  | 1, _ => rfl
  | 2, _ => rfl
  | 3, _ => rfl
theorem unit_one : UnitW double 4607182418800017408 1 := .inl ⟨false, by decide +kernel, rfl⟩
theorem unit_neg : UnitW double 13830554455654793216 (-1) := .inl ⟨true, by decide +kernel, rfl⟩
theorem unit_zero : UnitW double 0 0 := .inr ⟨false, -1074, by decide +kernel, rfl⟩
theorem conv_one : floatToFloatBits .f32 1065353216 .f64 = some 4607182418800017408 := by decide +kernel
theorem conv_neg : floatToFloatBits .f32 3212836864 .f64 = some 13830554455654793216 := by decide +kernel
theorem conv_zero : floatToFloatBits .f32 0 .f64 = some 0 := by decide +kernel
theorem pow_conv {n : Nat} (hn : n < 4) : ∃ c d, floatToFloatBits .f32 (powWR n) .f64 = some c ∧ floatToFloatBits .f32 (powWI n) .f64 = some d ∧ UnitW double c (powRe n) ∧ UnitW double d (powIm n) := by
  match n, hn with
  | 0, _ => exact ⟨_, _, conv_one, conv_zero, unit_one, unit_zero⟩
  | 1, _ => exact ⟨_, _, conv_zero, conv_neg, unit_zero, unit_neg⟩
  | 2, _ => exact ⟨_, _, conv_neg, conv_zero, unit_neg, unit_zero⟩
  | 3, _ => exact ⟨_, _, conv_zero, conv_one, unit_zero, unit_one⟩
theorem pow_small {n : Nat} (hn : n < 4) : (powRe n = 0 ∨ powRe n = 1 ∨ powRe n = -1) ∧ (powIm n = 0 ∨ powIm n = 1 ∨ powIm n = -1) := by
  match n, hn with
  | 0, _ => decide
  | 1, _ => decide
  | 2, _ => decide
  | 3, _ => decide
theorem mul_small {k q : Int} {M : Nat} (hk : k.natAbs ≤ M) (hq : q = 0 ∨ q = 1 ∨ q = -1) : (k * q).natAbs ≤ M := by
  rcases hq with rfl | rfl | rfl
  · simp
  · simpa using hk
  · simpa using hk

/-- The product with a power of -i. -/
theorem cmul_pow (P : Program) (t : TypeId) {x y : Nat} {k l : Int} (hx : Smp x k) (hy : Smp y l) (hk : k.natAbs ≤ 4194304) (hl : l.natAbs ≤ 4194304) {n : Nat} (hn : n < 4) :
    ∃ e f, (∀ w : World, (binOp .mul t (.complex .f32 x y) (.complex .f32 (powWR n) (powWI n))).run P w = .ok (.complex .f32 e f) w) ∧ Smp e (k * powRe n - l * powIm n) ∧ Smp f (k * powIm n + l * powRe n) := by
  obtain ⟨c, d, hc, hd, uc, ud⟩ := pow_conv hn
  obtain ⟨p1, p2⟩ := pow_small hn
  have hw : (4194304 : Nat) < 2 ^ 24 := by decide
  obtain ⟨a, ha, va⟩ := Val.to64 hx (Nat.lt_of_le_of_lt hk hw)
  obtain ⟨b, hb, vb⟩ := Val.to64 hy (Nat.lt_of_le_of_lt hl hw)
  have hU : double.fractionBits + 1 + 1070 ≤ double.fractionBits + 2 ^ double.exponentBits - 2 := by decide
  have h53 : (8388608 : Nat) < 2 ^ (double.fractionBits + 1) := by decide
  have q1 := mul_small hk p1
  have q2 := mul_small hl p2
  have q3 := mul_small hk p2
  have q4 := mul_small hl p1
  obtain ⟨ac, h1, v1⟩ := va.mulU two64 uc (Nat.lt_of_le_of_lt hk (by omega)) hU
  obtain ⟨bd, h2, v2⟩ := vb.mulU two64 ud (Nat.lt_of_le_of_lt hl (by omega)) hU
  obtain ⟨re, h3, v3⟩ := Val.sub two64 v1 v2 (Nat.lt_of_le_of_lt (show _ ≤ 8388608 by omega) h53) hU
  obtain ⟨ad, h4, v4⟩ := va.mulU two64 ud (Nat.lt_of_le_of_lt hk (by omega)) hU
  obtain ⟨bc, h5, v5⟩ := vb.mulU two64 uc (Nat.lt_of_le_of_lt hl (by omega)) hU
  obtain ⟨im, h6, v6⟩ := Val.add two64 v4 v5 (Nat.lt_of_le_of_lt (show _ ≤ 8388608 by omega) h53) hU
  obtain ⟨e, h7, v7⟩ := Val.to32 v3 (Nat.lt_of_le_of_lt (show _ ≤ 8388608 by omega) (by decide))
  obtain ⟨f, h8, v8⟩ := Val.to32 v6 (Nat.lt_of_le_of_lt (show _ ≤ 8388608 by omega) (by decide))
  have g1 : floatBits .mul .f64 a c = some ac := h1
  have g2 : floatBits .mul .f64 b d = some bd := h2
  have g3 : floatBits .sub .f64 ac bd = some re := h3
  have g4 : floatBits .mul .f64 a d = some ad := h4
  have g5 : floatBits .mul .f64 b c = some bc := h5
  have g6 : floatBits .add .f64 ad bc = some im := h6
  have n1 : ¬ FloatKind.f32 = FloatKind.f64 := by decide
  have n2 : ¬ FloatKind.f64 = FloatKind.f32 := by decide
  refine ⟨e, f, fun w => ?_, v7, v8⟩
  simp [binOp, Op.complexOp, Op.Complex.product, Op.Complex.mul, Op.Complex.sub, Op.Complex.add, run_carith w g1, run_carith w g2, run_carith w g3, run_carith w g4, run_carith w g5, run_carith w g6, run_conv w n1 ha, run_conv w n1 hb, run_conv w n1 hc, run_conv w n1 hd, run_conv w n2 h7, run_conv w n2 h8]
/-- The sum. -/
theorem cadd_smp (P : Program) (t : TypeId) {x y x' y' : Nat} {k l k' l' : Int} (hx : Smp x k) (hy : Smp y l) (hx' : Smp x' k') (hy' : Smp y' l') (h1 : (k + k').natAbs < 2 ^ 24) (h2 : (l + l').natAbs < 2 ^ 24) :
    ∃ e f, (∀ w : World, (binOp .add t (.complex .f32 x y) (.complex .f32 x' y')).run P w = .ok (.complex .f32 e f) w) ∧ Smp e (k + k') ∧ Smp f (l + l') ∧ e < 2 ^ 32 ∧ f < 2 ^ 32 := by
  have hU : single.fractionBits + 1 + 145 ≤ single.fractionBits + 2 ^ single.exponentBits - 2 := by decide
  obtain ⟨e, g1, v1⟩ := Val.add two32 (Val.smp hx) (Val.smp hx') h1 hU
  obtain ⟨f, g2, v2⟩ := Val.add two32 (Val.smp hy) (Val.smp hy') h2 hU
  refine ⟨e, f, fun w => run_complex_sum w .add (.inl rfl) t .f32 x y x' y' e f ?_, v1, v2, by simpa [Lit.wf] using floatBits_wf (show floatBits .add .f32 x x' = some e from g1), by simpa [Lit.wf] using floatBits_wf (show floatBits .add .f32 y y' = some f from g2)⟩
  have k1 : floatBits .add .f32 x x' = some e := g1
  have k2 : floatBits .add .f32 y y' = some f := g2
  simp [cSumBits, k1, k2]
end Go.Proofs.YtpmjiifdnnhecaaGreatDoor
