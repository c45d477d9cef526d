/-
  LightBins, plain mathematics: binning in blocks (by 1, twice, its light), the transform of four there and back, and the sums of its squares.
-/
import Derived.Test.YtfdkmmllemkogaaGreatDoorOdKb
import Derived.Test.YtfdkmmllemkogaaGreatDoorOZt
import Derived.Test.YtfdkmmllemkogaaGreatDoorOdPf
import Derived.Test.YtfdkmmllemkogaaGreatDoorOWp
import Derived.Test.YtfdkmmllemkogaaGreatDoorOWv
import Derived.Deep.CutBlock
import Derived.Deep.DeepCutAuto
import Derived.Test.YtfdkmmllemkogaaGreatDoorOZr
import Derived.Test.YtfdkmmllemkogaaGreatDoorOdPc
import Derived.Test.YtfdkmmllemkogaaGreatDoorOVk
import Derived.Test.YtfdkmmllemkogaaGreatDoorOBd
import Derived.Test.YtfdkmmllemkogaaGreatDoorOZa
import Derived.Test.YtfdkmmllemkogaaGreatDoorOZd
import Derived.Test.YtfdkmmllemkogaaGreatDoorOXi
import Derived.Test.YtfdkmmllemkogaaGreatDoorOXk
import Derived.BigQuiet
import Derived.Test.YtfdkmmllemkogaaGreatDoorOZk
import Derived.Deep.AppendLies
import Derived.Deep.RegionHeldLaw
import Derived.Deep.RegionLaw
import Derived.Test.YtfdkmmllemkogaaGreatDoorOWf
import Derived.Deep.DeepBigQuietO
namespace Go.Proofs.YtfdkmmllemkogaaGreatDoor
open Go.RowKit
set_option linter.unusedVariables false
set_option linter.unusedSimpArgs false

theorem sum2_blocks (p q a : Nat) (f : Nat → Nat → Int) : sum2 p q (fun X Y => sum2 a a (fun x y => f (X * a + x) (Y * a + y))) = sum2 (p * a) (q * a) f := by
  unfold sum2
  rw [sumTo_grid q a]
  refine sumTo_congr fun Y _ => ?_
  rw [sumTo_comm p a]
  refine sumTo_congr fun y _ => ?_
  rw [sumTo_grid p a]

/-- The integers of a map that is binned. -/
def binK (W s WW HH : Nat) (ks : List Int) : List Int := (List.range (WW * HH)).map fun j => binTo W ks s (j % WW) (j / WW) (placesTo s (s * s))
theorem binK_len (W s WW HH : Nat) (ks : List Int) : (binK W s WW HH ks).length = WW * HH := by simp [binK]
theorem binK_get {W s WW HH : Nat} {ks : List Int} {j : Nat} (hj : j < WW * HH) : (binK W s WW HH ks)[j]?.getD 0 = binTo W ks s (j % WW) (j / WW) (placesTo s (s * s)) := by
  unfold binK; rw [List.getElem?_map, List.getElem?_range hj]; rfl
theorem binTo_sum2 (W : Nat) (ks : List Int) {s : Nat} (hs : 1 ≤ s) (X Y : Nat) : binTo W ks s X Y (placesTo s (s * s)) = sum2 s s (fun x y => ks[(Y * s + y) * W + (X * s + x)]?.getD 0) := by
  unfold binTo placesTo
  rw [List.map_map, sum_range, sumTo_grid]
  unfold sum2
  refine sumTo_congr fun y hy => sumTo_congr fun x hx => ?_
  have e1 : (y * s + x) % s = x := by rw [Nat.mul_comm, Nat.mul_add_mod]; exact Nat.mod_eq_of_lt hx
  have e2 : (y * s + x) / s = y := by rw [Nat.mul_comm, Nat.mul_add_div (by omega), Nat.div_eq_of_lt hx]; rfl
  show binCell W ks s X Y ((y * s + x) % s, (y * s + x) / s) = _
  rw [e1, e2]
  rfl
theorem binK_at {W s WW HH : Nat} {ks : List Int} (hs : 1 ≤ s) {X Y : Nat} (hX : X < WW) (hY : Y < HH) : (binK W s WW HH ks)[Y * WW + X]?.getD 0 = sum2 s s (fun x y => ks[(Y * s + y) * W + (X * s + x)]?.getD 0) := by
  have hj : Y * WW + X < WW * HH := by
    have h := Nat.mul_le_mul_right WW (show Y + 1 ≤ HH from hY)
    rw [Nat.succ_mul, Nat.mul_comm HH WW] at h
    omega
  have e1 : (Y * WW + X) % WW = X := by rw [Nat.mul_comm, Nat.mul_add_mod]; exact Nat.mod_eq_of_lt hX
  have e2 : (Y * WW + X) / WW = Y := by rw [Nat.mul_comm, Nat.mul_add_div (by omega), Nat.div_eq_of_lt hX]; rfl
  rw [binK_get hj, e1, e2, binTo_sum2 W ks hs]
theorem list_eq_of {A B : List Int} (h : A.length = B.length) (hg : ∀ j, j < A.length → A[j]?.getD 0 = B[j]?.getD 0) : A = B := by
  refine List.ext_getElem h fun i h1 h2 => ?_
  have e := hg i h1
  rw [List.getElem?_eq_getElem h1, List.getElem?_eq_getElem h2] at e
  exact e
theorem binK_one {W H n : Nat} {ks : List Int} (hl : ks.length = n) (hn : W * H = n) (hW : 1 ≤ W) : binK W 1 W H ks = ks := by
  refine list_eq_of (by rw [binK_len, hl, hn]) fun j hj => ?_
  rw [binK_len] at hj
  have hy : j / W < H := (Nat.div_lt_iff_lt_mul hW).2 (by rw [Nat.mul_comm H W]; exact hj)
  have hx : j % W < W := Nat.mod_lt _ hW
  have e : j / W * W + j % W = j := by rw [Nat.mul_comm]; exact Nat.div_add_mod _ _
  have h := binK_at (W := W) (s := 1) (WW := W) (HH := H) (ks := ks) (by omega) hx hy
  rw [e] at h
  rw [h]
  simp only [sum2, sumTo]
  rw [show (j / W * 1 + 0) * W + (j % W * 1 + 0) = j by simpa using e]
  omega
theorem binK_two {W a b WW HH VV UU : Nat} {ks : List Int} (ha : 1 ≤ a) (hb : 1 ≤ b) (hV : VV * b = WW) (hU : UU * b = HH) : binK WW b VV UU (binK W a WW HH ks) = binK W (a * b) VV UU ks := by
  refine list_eq_of (by rw [binK_len, binK_len]) fun j hj => ?_
  rw [binK_len] at hj
  have hV1 : 1 ≤ VV := by
    rcases Nat.eq_zero_or_pos VV with h | h
    · subst h; simp at hj
    · exact h
  rw [binK_get hj, binK_get hj, binTo_sum2 _ _ hb, binTo_sum2 _ _ (Nat.mul_pos ha hb)]
  have hx : j % VV < VV := Nat.mod_lt _ hV1
  have hy : j / VV < UU := (Nat.div_lt_iff_lt_mul hV1).2 (by rw [Nat.mul_comm UU VV]; exact hj)
  generalize j % VV = X at hx ⊢
  generalize j / VV = Y at hy ⊢
  rw [Nat.mul_comm a b, ← sum2_blocks b b a (fun x y => ks[(Y * (b * a) + y) * W + (X * (b * a) + x)]?.getD 0)]
  refine sum2_congr fun x y h1 h2 => ?_
  have hXl : X * b + x < WW := by
    have h := Nat.mul_le_mul_right b (show X + 1 ≤ VV from hx)
    rw [Nat.succ_mul] at h
    omega
  have hYl : Y * b + y < HH := by
    have h := Nat.mul_le_mul_right b (show Y + 1 ≤ UU from hy)
    rw [Nat.succ_mul] at h
    omega
  rw [binK_at ha hXl hYl]
  refine sum2_congr fun x' y' h3 h4 => ?_
  have e1 : (Y * b + y) * a + y' = Y * (b * a) + (y * a + y') := by rw [Nat.add_mul, Nat.mul_assoc]; omega
  have e2 : (X * b + x) * a + x' = X * (b * a) + (x * a + x') := by rw [Nat.add_mul, Nat.mul_assoc]; omega
  rw [e1, e2]
theorem sum_grid {W H n : Nat} {ks : List Int} (hl : ks.length = n) (hn : W * H = n) : ks.sum = sum2 W H (fun x y => ks[y * W + x]?.getD 0) := by
  rw [sum_get, hl, ← hn, Nat.mul_comm W H, sumTo_grid]; rfl
theorem binK_sum {W H n a WW HH : Nat} {ks : List Int} (hl : ks.length = n) (hn : W * H = n) (ha : 1 ≤ a) (hW : WW * a = W) (hH : HH * a = H) : (binK W a WW HH ks).sum = ks.sum := by
  rw [sum_grid (binK_len W a WW HH ks) rfl, sum_grid hl hn]
  subst hW hH
  rw [← sum2_blocks WW HH a]
  refine sum2_congr fun x y h1 h2 => ?_
  rw [binK_at ha h1 h2]
theorem sumTo_bd {n M : Nat} {f : Nat → Int} (h : ∀ i, i < n → (f i).natAbs ≤ M) : (sumTo n f).natAbs ≤ n * M := by
  induction n with
  | zero => simp [sumTo]
  | succ n ih =>
    simp only [sumTo]
    have h1 := ih fun i hi => h i (by omega)
    have h2 := h n (by omega)
    rw [Nat.succ_mul]
    omega
theorem binK_bd {W s WW HH M : Nat} {ks : List Int} (hs : 1 ≤ s) (h : ∀ j : Nat, (ks[j]?.getD 0 : Int).natAbs ≤ M) : ∀ j, j < WW * HH → ((binK W s WW HH ks)[j]?.getD 0).natAbs ≤ s * (s * M) := fun j hj => by
  rw [binK_get hj, binTo_sum2 _ _ hs]
  exact sumTo_bd fun y _ => sumTo_bd fun x _ => h _
theorem bd_all {ks : List Int} {n M : Nat} (hl : ks.length = n) (hs : ∀ j, j < n → (ks[j]?.getD 0).natAbs ≤ M) (i : Nat) : (ks[i]?.getD 0).natAbs ≤ M := by
  by_cases h : i < n
  · exact hs i h
  · rw [List.getElem?_eq_none (by omega)]; exact Nat.zero_le _

/-- The sums of the transform of four integers. -/
theorem acc_four (a b c d : Int) : (accR [a, b, c, d] 0 4 = a + b + c + d ∧ accI [a, b, c, d] 0 4 = 0) ∧ (accR [a, b, c, d] 1 4 = a - c ∧ accI [a, b, c, d] 1 4 = d - b) ∧
    (accR [a, b, c, d] 2 4 = a - b + c - d ∧ accI [a, b, c, d] 2 4 = 0) ∧ (accR [a, b, c, d] 3 4 = a - c ∧ accI [a, b, c, d] 3 4 = b - d) := by
  simp [accR, accI, powRe, powIm]
  omega
theorem un_four (a b c d : Int) (i : Nat) (hi : i < 4) : unR [accR [a, b, c, d] 0 4, accR [a, b, c, d] 1 4, accR [a, b, c, d] 2 4, accR [a, b, c, d] 3 4] [accI [a, b, c, d] 0 4, accI [a, b, c, d] 1 4, accI [a, b, c, d] 2 4, accI [a, b, c, d] 3 4] i 4 = 4 * ([a, b, c, d] : List Int)[i]?.getD 0 ∧
    unI [accR [a, b, c, d] 0 4, accR [a, b, c, d] 1 4, accR [a, b, c, d] 2 4, accR [a, b, c, d] 3 4] [accI [a, b, c, d] 0 4, accI [a, b, c, d] 1 4, accI [a, b, c, d] 2 4, accI [a, b, c, d] 3 4] i 4 = 0 := by
  obtain ⟨⟨e0, f0⟩, ⟨e1, f1⟩, ⟨e2, f2⟩, ⟨e3, f3⟩⟩ := acc_four a b c d
  rw [e0, f0, e1, f1, e2, f2, e3, f3]
  match i, hi with
  | 0, _ => simp [unR, unI, powRe, powIm]; omega
  | 1, _ => simp [unR, unI, powRe, powIm]; omega
  | 2, _ => simp [unR, unI, powRe, powIm]; omega
  | 3, _ => simp [unR, unI, powRe, powIm]; omega
theorem sq_sub (a b : Int) : (a - b) * (a - b) = a * a - 2 * (a * b) + b * b := by
  rw [Int.sub_mul, Int.mul_sub, Int.mul_sub, Int.mul_comm b a]; omega
theorem sq_add (a b : Int) : (a + b) * (a + b) = a * a + 2 * (a * b) + b * b := by
  rw [Int.add_mul, Int.mul_add, Int.mul_add, Int.mul_comm b a]; omega
/-- The squares of the transform are four times the squares. -/
theorem squares_four (a b c d : Int) : ((a + b + c + d) * (a + b + c + d) + 0 * 0) + ((a - c) * (a - c) + (d - b) * (d - b)) + ((a - b + c - d) * (a - b + c - d) + 0 * 0) + ((a - c) * (a - c) + (b - d) * (b - d)) = 4 * (a * a + b * b + c * c + d * d) := by
  have e1 : (a + b + c + d) = (a + c) + (b + d) := by omega
  have e2 : (a - b + c - d) = (a + c) - (b + d) := by omega
  rw [e1, e2, sq_add (a + c) (b + d), sq_sub (a + c) (b + d), sq_add a c, sq_add b d, sq_sub a c, sq_sub b d, sq_sub d b, Int.mul_comm d b]
  omega
end Go.Proofs.YtfdkmmllemkogaaGreatDoor

/-
  Bytes in memory; blocks that lie in a world through calls, allocations and stores.
-/

namespace Go.Proofs.YtfdkmmllemkogaaGreatDoor
open Go.RowKit
set_option linter.unusedVariables false
set_option linter.unusedSimpArgs false

def BytesV (S : List Int) (n : Nat) : Prop := S.length = n ∧ ∀ v ∈ S, 0 ≤ v ∧ v ≤ 255
def AnyBytes (w : World) (a : Option Addr) (n : Nat) (S : List Int) : Prop := BytesV S n ∧ ∀ j, j < n → ∃ b q, a = some ⟨b, q, none⟩ ∧ b < w.heap.size ∧ w.rangeAt b q (S.map (Value.int .u8))
theorem AnyBytes.kept {w w' : World} {a : Option Addr} {n : Nat} {S : List Int} (h : AnyBytes w a n S) (hb : Below w.heap.size w w') : AnyBytes w' a n S :=
  ⟨h.1, fun j hj => by
    obtain ⟨b, q, e, h1, h2⟩ := h.2 j hj
    exact ⟨b, q, e, Nat.lt_of_lt_of_le h1 hb.size, fun i v hv => by rw [hb.cell (by exact h1)]; exact h2 i v hv⟩⟩

/-- These blocks lie so, and nothing below has changed. -/
def Kp (w w' : World) (l : List (Nat × Obj)) : Prop := Below w.heap.size w w' ∧ ∀ p ∈ l, w'.heap[p.1]? = some p.2
theorem Kp.none (w : World) : Kp w w [] := ⟨Below.refl _ _, fun p h => nomatch h⟩
theorem Kp.call {w w1 w2 : World} {l : List (Nat × Obj)} (h : Kp w w1 l) (hb : Below w1.heap.size w1 w2) : Kp w w2 l :=
  ⟨h.1.trans (hb.mono h.1.size), fun p hp => (hb.block _ (lt_of_blk (h.2 p hp))).trans (h.2 p hp)⟩
theorem Kp.kept {w w1 w2 : World} {l : List (Nat × Obj)} (h : Kp w w1 l) (hb : Below w.heap.size w w2) (hq : ∀ p ∈ l, w2.heap[p.1]? = w1.heap[p.1]?) : Kp w w2 l :=
  ⟨hb, fun p hp => (hq p hp).trans (h.2 p hp)⟩
theorem Kp.alloc {w w1 : World} {l : List (Nat × Obj)} (h : Kp w w1 l) (o : Obj) : Kp w (w1.alloc o) ((w1.heap.size, o) :: l) :=
  ⟨h.1.alloc h.1.size o, fun p hp => by
    rcases List.mem_cons.1 hp with rfl | hp
    · exact blk_alloc_new _ _
    · exact blk_alloc_other (h.2 p hp) o⟩
theorem Kp.setHead {w w1 : World} {l : List (Nat × Obj)} {g : Nat} {cur : Array Value} {T : TypeId} (h : Kp w w1 ((g, .cells cur T (0, 0)) :: l)) (cs : Array Value) (hg : w.heap.size ≤ g) (hne : ∀ p ∈ l, p.1 ≠ g) :
    Kp w (w1.setRow g cs) ((g, .cells cs T (0, 0)) :: l) :=
  ⟨h.1.trans ((OnlyBlk.setRow w1 g cs).below h.1.size hg), fun p hp => by
    rcases List.mem_cons.1 hp with rfl | hp
    · exact setRow_heap w1 _ _ _ _ _ (h.2 _ (.head _))
    · exact ((OnlyBlk.setRow w1 g cs).1.block _ (lt_of_blk (h.2 p (.tail _ hp))) (by intro e; exact hne p hp (Option.some.inj e))).trans (h.2 p (.tail _ hp))⟩

theorem Kp.stored {w w1 : World} {l : List (Nat × Obj)} (h : Kp w w1 l) (cur cs : Array Value) (T : TypeId) : Kp w ((w1.alloc (.cells cur T)).setRow w1.heap.size cs) ((w1.heap.size, .cells cs T) :: l) :=
  (h.alloc (.cells cur T)).setHead cs h.1.size (fun p hp => Nat.ne_of_lt (lt_of_blk (h.2 p hp)))

theorem Kp.below {w w1 : World} {l : List (Nat × Obj)} (h : Kp w w1 l) : Below w.heap.size w w1 := h.1
end Go.Proofs.YtfdkmmllemkogaaGreatDoor

/-
  What serves every walk: the code from a region on, blocks that are kept, cells of a block.
-/
namespace Go.Proofs.YtfdkmmllemkogaaGreatDoor
open Go.RowKit Go.Shelf
set_option linter.unusedVariables false
set_option linter.unusedSimpArgs false

def headsC (n : Nat) : Code → Bool
  | .region m _ _ => m == n
  | .seq a _ => headsC n a
  | _ => false
def tailC (n : Nat) : Code → Option Code
  | .seq a b => if headsC n a then some (.seq a b) else match tailC n b with
    | some c => some c
    | none => tailC n a
  | .block _ c => tailC n c
  | .scope c => tailC n c
  | .loop c => tailC n c
  | .cond _ a b => match tailC n a with
    | some c => some c
    | none => tailC n b
  | c => if headsC n c then some c else none
theorem Kp.subs {w w1 : World} {l m : List (Nat × Obj)} (h : Kp w w1 l) (hs : ∀ p ∈ m, p ∈ l) : Kp w w1 m := ⟨h.1, fun p hp => h.2 p (hs p hp)⟩
theorem cells3 {w : World} {B : Nat} {T : TypeId} {x y z : Value} (h : w.heap[B]? = some (.cells #[x, y, z] T (0, 0))) :
    w.cell? ⟨B, 0, none⟩ = some x ∧ w.cell? ⟨B, 1, none⟩ = some y ∧ w.cell? ⟨B, 2, none⟩ = some z :=
  ⟨by rw [cell_of_row w _ 0 _ _ (0, 0) h]; rfl, by rw [cell_of_row w _ 1 _ _ (0, 0) h]; rfl, by rw [cell_of_row w _ 2 _ _ (0, 0) h]; rfl⟩
theorem cells2 {w : World} {B : Nat} {T : TypeId} {x y : Value} (h : w.heap[B]? = some (.cells #[x, y] T (0, 0))) :
    w.cell? ⟨B, 0, none⟩ = some x ∧ w.cell? ⟨B, 1, none⟩ = some y :=
  ⟨by rw [cell_of_row w _ 0 _ _ (0, 0) h]; rfl, by rw [cell_of_row w _ 1 _ _ (0, 0) h]; rfl⟩
theorem Kp.cons {w w1 : World} {l : List (Nat × Obj)} (h : Kp w w1 l) {B : Nat} {O : Obj} (hB : w1.heap[B]? = some O) : Kp w w1 ((B, O) :: l) := ⟨h.1, fun p hp => by
  rcases List.mem_cons.1 hp with rfl | hp
  · exact hB
  · exact h.2 p hp⟩
/-- The world of a walk may be taken as any that has what is known of it. -/
theorem wp_world {P : Program} {c : Code} {Q : Exit → Act → World → Prop} {fr : Act} {w1 : World} (R : World → Prop) (h : R w1) (k : ∀ w', R w' → Code.wp P c Q fr w') : Code.wp P c Q fr w1 := k w1 h
theorem kp_set4 {w w1 : World} {l : List (Nat × Obj)} (h : Kp w w1 l) {x y z u : Value} {T : TypeId} (a b c d : Value) :
    Kp w (((((w1.alloc (.cells #[x, y, z, u] T)).setCell ⟨w1.heap.size, 0, none⟩ a).setCell ⟨w1.heap.size, 1, none⟩ b).setCell ⟨w1.heap.size, 2, none⟩ c).setCell ⟨w1.heap.size, 3, none⟩ d) ((w1.heap.size, .cells #[a, b, c, d] T (0, 0)) :: l) := by
  have hs : w.heap.size ≤ w1.heap.size := h.1.size
  have k := h.alloc (.cells #[x, y, z, u] T)
  refine ⟨(((k.1.setCell (p := ⟨w1.heap.size, 0, none⟩) hs _).setCell (p := ⟨w1.heap.size, 1, none⟩) hs _).setCell (p := ⟨w1.heap.size, 2, none⟩) hs _).setCell (p := ⟨w1.heap.size, 3, none⟩) hs _, fun p hp => ?_⟩
  rcases List.mem_cons.1 hp with rfl | hp
  · exact blk_set4u (blk_alloc_new _ _) _ _ _ _
  · have hne : p.1 ≠ w1.heap.size := by have := lt_of_blk (h.2 p hp); omega
    refine (Below.heap_setCell _ _ _ _ hne).trans ((Below.heap_setCell _ _ _ _ hne).trans ((Below.heap_setCell _ _ _ _ hne).trans ((Below.heap_setCell _ _ _ _ hne).trans (k.2 p (.tail _ hp)))))
theorem cells4 {w : World} {B : Nat} {T : TypeId} {x y z u : Value} (h : w.heap[B]? = some (.cells #[x, y, z, u] T (0, 0))) :
    w.cell? ⟨B, 0, none⟩ = some x ∧ w.cell? ⟨B, 1, none⟩ = some y ∧ w.cell? ⟨B, 2, none⟩ = some z ∧ w.cell? ⟨B, 3, none⟩ = some u :=
  ⟨by rw [cell_of_row w _ 0 _ _ (0, 0) h]; rfl, by rw [cell_of_row w _ 1 _ _ (0, 0) h]; rfl, by rw [cell_of_row w _ 2 _ _ (0, 0) h]; rfl, by rw [cell_of_row w _ 3 _ _ (0, 0) h]; rfl⟩
end Go.Proofs.YtfdkmmllemkogaaGreatDoor

/-
  LightBins: its round over four samples, from the sums on.
-/

namespace Go.Proofs.YtfdkmmllemkogaaGreatDoor
open Go.RowKit Go.Shelf
set_option linter.unusedVariables false
set_option linter.unusedSimpArgs false

noncomputable def cutB (n : Nat) : Code := ((Tryz.f15.body.bind (tailC n)).getD .skip)

theorem smp_eq' {a : Nat} {k : Int} (h : Smp a k) (hk : k.natAbs < 2 ^ 24) : FloatKind.f32.format.order a (smpOf k) = some .eq := by
  have e : Ieee.single.order a (smpOf k) = some (compare k k) := h.order (smpOf_smp k hk)
  have c : compare k k = .eq := by
    show compareOfLessAndEq _ _ = _
    unfold compareOfLessAndEq; rw [if_neg (by omega), if_pos rfl]
  rw [c] at e
  exact e
theorem smpOf0 : smpOf 0 = 0 := by decide +kernel
set_option maxHeartbeats 1600000 in
theorem square_any (a b : Int) (ha : (a * a).natAbs ≤ 1073741824) (hb : (b * b).natAbs ≤ 1073741824) (w : World) :
    Calls Tryz.prog 100 #[.agg #[.int .i64 a, .int .i64 b]] w fun e w' => e = .returned (.int .i64 (a * a + b * b)) ∧ Below w.heap.size w w' := by
  obtain ⟨p, hp⟩ : ∃ p, a * a = p := ⟨_, rfl⟩
  obtain ⟨q, hq⟩ : ∃ q, b * b = q := ⟨_, rfl⟩
  rw [hp] at ha ⊢
  rw [hq] at hb ⊢
  have i1 : IntKind.i64.wrap p = p := IntWalk.i64_in _ ⟨by omega, by omega⟩
  have i2 : IntKind.i64.wrap q = q := IntWalk.i64_in _ ⟨by omega, by omega⟩
  have i5 : IntKind.i64.wrap (p + q) = p + q := IntWalk.i64_in _ ⟨by omega, by omega⟩
  clear ha hb
  go_enter Tryz.func100, Tryz.ntmps100
  go_wp2
  refine bodyPost_ret (v := .int .i64 (p + q)) (by simp [results, Tryz.results100, go_sem]) rfl ⟨rfl, ?_⟩
  exact (Below.refl _ w).alloc (Nat.le_refl _) _

theorem Kp.drew {w w1 : World} {l : List (Nat × Obj)} (h : Kp w w1 l) : Kp w w1.drew l := ⟨h.1.drew, h.2⟩
/-- The sums of the round: of the samples, of their squares, of the squares of the panel. -/
def sm1 (ks : List Int) (j : Nat) : Int := sumTo j (fun i => ks[i]?.getD 0)
def sm2 (ks : List Int) (j : Nat) : Int := sumTo j (fun i => ks[i]?.getD 0 * ks[i]?.getD 0)
def sm3 (ks : List Int) (j : Nat) : Int := sumTo j (fun i => accR ks i 4 * accR ks i 4 + accI ks i 4 * accI ks i 4)
theorem sq_small {a : Int} {M : Nat} (h : a.natAbs ≤ M) : (a * a).natAbs ≤ M * M := by rw [Int.natAbs_mul]; exact Nat.mul_le_mul h h
theorem sm_small {ks : List Int} (h : ∀ j, j < 4 → (ks[j]?.getD 0).natAbs ≤ 96) {j : Nat} (hj : j ≤ 4) : (sm1 ks j).natAbs ≤ 4 * 96 ∧ (sm2 ks j).natAbs ≤ 4 * 9216 ∧ (sm3 ks j).natAbs ≤ 4 * 294912 := by
  refine ⟨Nat.le_trans (sumTo_bd (M := 96) fun i hi => h i (by omega)) (Nat.mul_le_mul_right _ hj), Nat.le_trans (sumTo_bd (M := 9216) fun i hi => sq_small (h i (by omega))) (Nat.mul_le_mul_right _ hj), Nat.le_trans (sumTo_bd (M := 294912) fun i hi => ?_) (Nat.mul_le_mul_right _ hj)⟩
  have a := acc_small h i 4 (by omega)
  have a1 := sq_small (a := accR ks i 4) (M := 384) (by omega)
  have a2 := sq_small (a := accI ks i 4) (M := 384) (by omega)
  omega
theorem sm_end (a b c d : Int) : sm3 [a, b, c, d] 4 = 4 * sm2 [a, b, c, d] 4 ∧ sm1 [a, b, c, d] 4 = accR [a, b, c, d] 0 4 ∧ accI [a, b, c, d] 0 4 = 0 := by
  obtain ⟨⟨e0, f0⟩, ⟨e1, f1⟩, ⟨e2, f2⟩, ⟨e3, f3⟩⟩ := acc_four a b c d
  refine ⟨?_, ?_, f0⟩
  · have h := squares_four a b c d
    have e : sm3 [a, b, c, d] 4 = ((a + b + c + d) * (a + b + c + d) + 0 * 0) + ((a - c) * (a - c) + (d - b) * (d - b)) + ((a - b + c - d) * (a - b + c - d) + 0 * 0) + ((a - c) * (a - c) + (b - d) * (b - d)) := by
      simp only [sm3, sumTo, e0, f0, e1, f1, e2, f2, e3, f3]
      omega
    have e2 : sm2 [a, b, c, d] 4 = a * a + b * b + c * c + d * d := by
      simp [sm2, sumTo]
    rw [e, e2, h]
  · rw [e0]; simp [sm1, sumTo]

set_option maxRecDepth 1000000 in
set_option maxHeartbeats 12800000 in
theorem bins31 (w : World) (W H b o n c : Nat) (n0 n1 : Int) (B24 B25 : Nat) (x0 x1 x2 x3 q0 q1 q2 q3 q4 q5 q6 q7 : Nat) (k0 k1 k2 k3 : Int) (wr : World)
    (hX : ∀ j, j < 4 → Smp (([x0, x1, x2, x3] : List Nat)[j]?.getD 0) (([k0, k1, k2, k3] : List Int)[j]?.getD 0) ∧ (([k0, k1, k2, k3] : List Int)[j]?.getD 0).natAbs ≤ 96)
    (hP : ∀ j, j < 4 → Smp (([q0, q2, q4, q6] : List Nat)[j]?.getD 0) (accR [k0, k1, k2, k3] j 4) ∧ Smp (([q1, q3, q5, q7] : List Nat)[j]?.getD 0) (accI [k0, k1, k2, k3] j 4))
    (Q : Exit → Act → World → Prop) (u4 u5 u6 u7 u8 u9 u10 u11 u12 u13 u14 u15 u16 u17 u18 u19 u20 u21 u22 u23 u26 u27 u28 u29 u30 u31 u32 u33 u34 u35 u36 u37 u38 u39 u40 u41 u42 u43 u44 u45 u46 u47 u48 u49 u50 u51 u52 u53 u54 u55 u56 u57 u58 u59 u60 u61 u62 u63 u64 u65 u66 u67 u68 u69 u70 u71 u72 u73 u74 u75 u76 u77 u78 u79 u80 u81 u82 u83 u84 u85 u86 u87 u88 u89 u90 u91 u92 u93 u94 u95 u96 u97 u98 u99 u100 u101 u102 u103 u104 u105 u106 u107 u108 u109 u110 u111 u112 u113 u114 u115 u116 u117 u118 u119 u120 u121 u122 u123 u124 u125 u126 u127 u128 u129 u130 u131 u132 u133 u134 u135 u136 u137 u138 u139 u140 u141 u142 u143 u144 u145 u146 u147 u148 u149 u150 u151 u152 u153 u154 u155 u156 u157 u158 u159 u160 u161 u162 u163 u164 u165 u166 u167 u168 u169 u170 u171 u172 u173 u174 u175 u176 u177 u178 u179 u180 u181 u182 u183 u184 u185 u186 u187 u188 u189 u190 u191 u192 u193 u194 u195 u196 u197 u198 u199 u200 u201 u202 u203 u204 u205 u206 u207 u208 u209 u210 u211 u212 u213 u214 u215 u216 u217 u218 u219 u220 u221 u222 u223 u224 u225 u226 u227 u228 u229 u230 u231 u232 u233 u234 u235 u236 u237 u238 u239 u240 u241 u242 u243 u244 u245 u246 u247 u248 u249 u250 u251 u252 u253 u254 u255 u256 u257 u258 u259 u260 u261 u262 u263 u264 u265 u266 u267 u268 u269 u270 u271 u272 u273 u274 u275 u276 : Value)
    (hKp : Kp w wr [(B24, (.cells #[.float .f32 x0, .float .f32 x1, .float .f32 x2, .float .f32 x3] 92 (0, 0))), (B25, (.cells #[.complex .f32 q0 q1, .complex .f32 q2 q3, .complex .f32 q4 q5, .complex .f32 q6 q7] 95 (0, 0))), (w.heap.size, (.cells #[.int .i64 W, .int .i64 H, .slice (some ⟨b, o, none⟩) n c] 48 (0, 0)))])
    (hQ : ∀ (w' : World) (v29 v30 v31 v32 v33 v233 v234 v235 v236 v237 v238 v239 v240 v241 v242 v243 v244 v245 v246 v247 v248 v249 v250 v251 v252 v253 v254 v255 v256 v257 v258 v259 v260 v261 v262 v263 v264 v265 v266 v267 v268 v269 v270 v271 v272 v273 v274 v275 : Value), Kp w w' [(w.heap.size, (.cells #[.int .i64 W, .int .i64 H, .slice (some ⟨b, o, none⟩) n c] 48 (0, 0)))] → Q .normal ⟨#[.agg #[.int .i64 (W : Nat), .int .i64 (H : Nat), .slice (some ⟨b, o, none⟩) n c], .agg #[.int .u8 n0, .int .u8 n1], .pointer (some ⟨w.heap.size, 0, none⟩), .pointer (some ⟨w.heap.size + 1, 0, none⟩), u4, u5, u6, u7, u8, u9, u10, u11, u12, u13, u14, u15, u16, u17, u18, u19, u20, u21, u22, u23, .pointer (some ⟨B24, 0, none⟩), .pointer (some ⟨B25, 0, none⟩), u26, u27, u28, v29, v30, v31, v32, v33, u34, u35, u36, u37, u38, u39, u40, u41, u42, u43, u44, u45, u46, u47, u48, u49, u50, u51, u52, u53, u54, u55, u56, u57, u58, u59, u60, u61, u62, u63, u64, u65, u66, u67, u68, u69, u70, u71, u72, u73, u74, u75, u76, u77, u78, u79, u80, u81, u82, u83, u84, u85, u86, u87, u88, u89, u90, u91, u92, u93, u94, u95, u96, u97, u98, u99, u100, u101, u102, u103, u104, u105, u106, u107, u108, u109, u110, u111, u112, u113, u114, u115, u116, u117, u118, u119, u120, u121, u122, u123, u124, u125, u126, u127, u128, u129, u130, u131, u132, u133, u134, u135, u136, u137, u138, u139, u140, u141, u142, u143, u144, u145, u146, u147, u148, u149, u150, u151, u152, u153, u154, u155, u156, u157, u158, u159, u160, u161, u162, u163, u164, u165, u166, u167, u168, u169, u170, u171, u172, u173, u174, u175, u176, u177, u178, u179, u180, u181, u182, u183, u184, u185, u186, u187, u188, u189, u190, u191, u192, u193, u194, u195, u196, u197, u198, u199, u200, u201, u202, u203, u204, u205, u206, u207, u208, u209, u210, u211, u212, u213, u214, u215, u216, u217, u218, u219, u220, u221, u222, u223, u224, u225, u226, u227, u228, u229, u230, u231, u232, v233, v234, v235, v236, v237, v238, v239, v240, v241, v242, v243, v244, v245, v246, v247, v248, v249, v250, v251, v252, v253, v254, v255, v256, v257, v258, v259, v260, v261, v262, v263, v264, v265, v266, v267, v268, v269, v270, v271, v272, v273, v274, v275, u276], []⟩ w') :
    Code.wp Tryz.prog (cutB 31) Q ⟨#[.agg #[.int .i64 (W : Nat), .int .i64 (H : Nat), .slice (some ⟨b, o, none⟩) n c], .agg #[.int .u8 n0, .int .u8 n1], .pointer (some ⟨w.heap.size, 0, none⟩), .pointer (some ⟨w.heap.size + 1, 0, none⟩), u4, u5, u6, u7, u8, u9, u10, u11, u12, u13, u14, u15, u16, u17, u18, u19, u20, u21, u22, u23, .pointer (some ⟨B24, 0, none⟩), .pointer (some ⟨B25, 0, none⟩), u26, u27, u28, u29, u30, u31, u32, u33, u34, u35, u36, u37, u38, u39, u40, u41, u42, u43, u44, u45, u46, u47, u48, u49, u50, u51, u52, u53, u54, u55, u56, u57, u58, u59, u60, u61, u62, u63, u64, u65, u66, u67, u68, u69, u70, u71, u72, u73, u74, u75, u76, u77, u78, u79, u80, u81, u82, u83, u84, u85, u86, u87, u88, u89, u90, u91, u92, u93, u94, u95, u96, u97, u98, u99, u100, u101, u102, u103, u104, u105, u106, u107, u108, u109, u110, u111, u112, u113, u114, u115, u116, u117, u118, u119, u120, u121, u122, u123, u124, u125, u126, u127, u128, u129, u130, u131, u132, u133, u134, u135, u136, u137, u138, u139, u140, u141, u142, u143, u144, u145, u146, u147, u148, u149, u150, u151, u152, u153, u154, u155, u156, u157, u158, u159, u160, u161, u162, u163, u164, u165, u166, u167, u168, u169, u170, u171, u172, u173, u174, u175, u176, u177, u178, u179, u180, u181, u182, u183, u184, u185, u186, u187, u188, u189, u190, u191, u192, u193, u194, u195, u196, u197, u198, u199, u200, u201, u202, u203, u204, u205, u206, u207, u208, u209, u210, u211, u212, u213, u214, u215, u216, u217, u218, u219, u220, u221, u222, u223, u224, u225, u226, u227, u228, u229, u230, u231, u232, u233, u234, u235, u236, u237, u238, u239, u240, u241, u242, u243, u244, u245, u246, u247, u248, u249, u250, u251, u252, u253, u254, u255, u256, u257, u258, u259, u260, u261, u262, u263, u264, u265, u266, u267, u268, u269, u270, u271, u272, u273, u274, u275, u276], []⟩ wr := by
  conv => arg 2; whnf
  dsimp only
  obtain ⟨ks, hks⟩ : ∃ ks : List Int, [k0, k1, k2, k3] = ks := ⟨_, rfl⟩
  have hend := sm_end k0 k1 k2 k3
  rw [hks] at hX hP hend
  have HQ := Lib.hid hQ
  have HK := Lib.hid hKp
  have HX := Lib.hid hX
  have HP := Lib.hid hP
  have HE := Lib.hid hend
  have SMS := Lib.hid (fun j (hj : j ≤ 4) => sm_small (ks := ks) (fun j hj => (hX j hj).2) hj)
  have ACS := Lib.hid (fun j => acc_small (ks := ks) (M := 96) (fun j hj => (hX j hj).2) j 4 (by omega))
  clear hQ hKp hX hP hend hks
  obtain ⟨a0, a1, a2, a3⟩ := cells4 (HK.out.2 _ (.head _))
  go_upto_block 2 with fail
  clear a0 a1 a2 a3
  go_wp2_with fail
  go_loopw [29, 30, 31, 234] (fun s29 s30 s31 jv wy => ∃ j : Nat, j ≤ 4 ∧ jv = .int .i64 j ∧ s29 = .int .i64 (sm1 ks j) ∧ s30 = .int .i64 (sm2 ks j) ∧ s31 = .int .i64 (sm3 ks j) ∧ Kp w wy [(B24, (.cells #[.float .f32 x0, .float .f32 x1, .float .f32 x2, .float .f32 x3] 92 (0, 0))), (B25, (.cells #[.complex .f32 q0 q1, .complex .f32 q2 q3, .complex .f32 q4 q5, .complex .f32 q6 q7] 95 (0, 0))), (w.heap.size, (.cells #[.int .i64 W, .int .i64 H, .slice (some ⟨b, o, none⟩) n c] 48 (0, 0)))]) (fun _ _ _ j _ => 4 - (intOf j).toNat)
  case atStart => exact ⟨0, by omega, rfl, rfl, rfl, rfl, HK.out⟩
  case round =>
    obtain ⟨j, hj4, rfl, rfl, rfl, rfl, hk⟩ := hrel
    have K1 := Lib.hid hk
    clear hk HK
    obtain ⟨p1, hp1⟩ : ∃ p1, sm1 ks j = p1 := ⟨_, rfl⟩
    obtain ⟨p2, hp2⟩ : ∃ p2, sm2 ks j = p2 := ⟨_, rfl⟩
    obtain ⟨p3, hp3⟩ : ∃ p3, sm3 ks j = p3 := ⟨_, rfl⟩
    have hs := SMS.out j hj4
    rw [hp1, hp2, hp3] at hs ⊢
    by_cases hlt : j < 4
    · have hltI : (j : Int) < 4 := by omega
      have hix := idx_four x0 x1 x2 x3 j hlt
      have hx := HX.out j hlt
      have hp := HP.out j hlt
      have ha := ACS.out j
      have hcx : wr.cell? ⟨B25, j, none⟩ = some (.complex .f32 (([q0, q2, q4, q6] : List Nat)[j]?.getD 0) (([q1, q3, q5, q7] : List Nat)[j]?.getD 0)) := by
        rw [cell_of_row _ _ j _ _ (0, 0) (K1.out.2 _ (.tail _ (.head _)))]
        match j, hlt with
        | 0, _ => rfl
        | 1, _ => rfl
        | 2, _ => rfl
        | 3, _ => rfl
      obtain ⟨x, hxv⟩ : ∃ x, ([x0, x1, x2, x3] : List Nat)[j]?.getD 0 = x := ⟨_, rfl⟩
      obtain ⟨qa, hqa⟩ : ∃ qa, ([q0, q2, q4, q6] : List Nat)[j]?.getD 0 = qa := ⟨_, rfl⟩
      obtain ⟨qb, hqb⟩ : ∃ qb, ([q1, q3, q5, q7] : List Nat)[j]?.getD 0 = qb := ⟨_, rfl⟩
      obtain ⟨kj, hkj⟩ : ∃ kj, ks[j]?.getD 0 = kj := ⟨_, rfl⟩
      obtain ⟨ar, har⟩ : ∃ ar, accR ks j 4 = ar := ⟨_, rfl⟩
      obtain ⟨ai, hai⟩ : ∃ ai, accI ks j 4 = ai := ⟨_, rfl⟩
      rw [hqa, hqb] at hcx hp
      rw [hxv] at hix hx
      rw [hkj] at hx
      rw [har, hai] at hp ha
      have e1 : sm1 ks (j + 1) = p1 + kj := by rw [← hp1, ← hkj]; rfl
      have e2 : sm2 ks (j + 1) = p2 + kj * kj := by rw [← hp2, ← hkj]; rfl
      have e3 : sm3 ks (j + 1) = p3 + (ar * ar + ai * ai) := by rw [← hp3, ← har, ← hai]; rfl
      have hb1 := sq_small hx.2
      have hb2 := sq_small (a := ar) (M := 384) (by omega)
      have hb3 := sq_small (a := ai) (M := 384) (by omega)
      have K6 : Hid (∀ w1 : World, Calls Tryz.prog 99 #[.float .f32 x] w1 fun e w' => e = .returned (.int .i64 kj) ∧ w1 = w') := Lib.hid fun w1 => sixteenths_any x kj hx.1 (Nat.lt_of_le_of_lt hx.2 (by decide)) w1
      have KR : Hid (∀ w1 : World, Blw wr.heap.size wr w1 → Calls Tryz.prog 99 #[.float .f32 qa] w1 fun e w' => e = .returned (.int .i64 ar) ∧ Blw wr.heap.size wr w') := Lib.hid fun w1 h => (sixteenths_any qa ar hp.1 (Nat.lt_of_le_of_lt (show _ ≤ 384 by omega) (by decide)) w1).mono fun e w' ⟨h1, h2⟩ => ⟨h1, by rw [← h2]; exact h⟩
      have KI : Hid (∀ w1 : World, Blw wr.heap.size wr w1 → Calls Tryz.prog 99 #[.float .f32 qb] w1 fun e w' => e = .returned (.int .i64 ai) ∧ Blw wr.heap.size wr w') := Lib.hid fun w1 h => (sixteenths_any qb ai hp.2 (Nat.lt_of_le_of_lt (show _ ≤ 384 by omega) (by decide)) w1).mono fun e w' ⟨h1, h2⟩ => ⟨h1, by rw [← h2]; exact h⟩
      have KS : Hid (∀ w1 : World, Blw wr.heap.size wr w1 → Calls Tryz.prog 100 #[.agg #[.int .i64 ar, .int .i64 ai]] w1 fun e w' => e = .returned (.int .i64 (ar * ar + ai * ai)) ∧ Blw wr.heap.size wr w') := Lib.hid fun w1 h => (square_any ar ai (by omega) (by omega) w1).mono fun e w' ⟨h1, h2⟩ => ⟨h1, Below.trans h (h2.mono (Below.size h))⟩
      obtain ⟨sk, hsk⟩ : ∃ sk, kj * kj = sk := ⟨_, rfl⟩
      obtain ⟨sq, hsq⟩ : ∃ sq, ar * ar + ai * ai = sq := ⟨_, rfl⟩
      rw [hsq] at KS
      rw [hsk] at e2 hb1
      rw [hsq] at e3
      have w1' : IntKind.i64.wrap (p1 + kj) = p1 + kj := IntWalk.i64_in _ ⟨by omega, by omega⟩
      have w2' : IntKind.i64.wrap sk = sk := IntWalk.i64_in _ ⟨by omega, by omega⟩
      have w3' : IntKind.i64.wrap (p2 + sk) = p2 + sk := IntWalk.i64_in _ ⟨by omega, by omega⟩
      have w4' : IntKind.i64.wrap (p3 + sq) = p3 + sq := IntWalk.i64_in _ ⟨by omega, by omega⟩
      have E1 := Lib.hid e1
      have E2 := Lib.hid e2
      have E3 := Lib.hid e3
      clear e1 e2 e3 hb1 hb2 hb3 hx hp ha hs hp1 hp2 hp3 hxv hqa hqb hkj har hai hsq
      go_upto_region 35 with fail
      clear hix
      go_upto_region 37 with (go_at_call 99; with_reducible refine (K6.out _).mono ?_; rintro e w6 ⟨rfl, rfl⟩)
      have lc := lt_of_blk (K1.out.2 _ (.tail _ (.head _)))
      have hBw : Blw wr.heap.size wr wr := show Below _ _ _ from Below.refl _ _
      have hBd : Blw wr.heap.size wr wr.drew := show Below _ _ _ from (Below.refl wr.heap.size wr).drew
      go_region_held3 (fun w' => w'.cell? ⟨B25, j, none⟩ = some (.complex .f32 qa qb) ∧ Blw wr.heap.size wr w')
        (first
          | (go_split_ands; refine ⟨?_, ?_⟩ <;> with_reducible assumption)
          | (go_split_ands; refine ⟨?_, ?_⟩ <;> first | (with_reducible assumption) | (rw [Below.cell (w := wr) (by assumption : Blw wr.heap.size wr _) (by assumption)]; assumption))
          | (go_keep; done))
        (first
          | (go_at_call_of 99 (Value.float .f32 qa); with_reducible refine (KR.out _ (by assumption)).mono ?_; rintro e w7 ⟨rfl, hb7⟩)
          | (go_at_call_of 99 (Value.float .f32 qb); with_reducible refine (KI.out _ (by assumption)).mono ?_; rintro e w8 ⟨rfl, hb8⟩)
          | (go_at_call 100; with_reducible refine (KS.out _ (by assumption)).mono ?_; rintro e w9 ⟨rfl, hb9⟩))
      all_goals
        have K9 : Hid (Kp w w9 [(B24, (.cells #[.float .f32 x0, .float .f32 x1, .float .f32 x2, .float .f32 x3] 92 (0, 0))), (B25, (.cells #[.complex .f32 q0 q1, .complex .f32 q2 q3, .complex .f32 q4 q5, .complex .f32 q6 q7] 95 (0, 0))), (w.heap.size, (.cells #[.int .i64 W, .int .i64 H, .slice (some ⟨b, o, none⟩) n c] 48 (0, 0)))]) := Lib.hid (K1.out.call hb9)
        go_wp2_with fail
        go_roundw
        case rel => exact ⟨j + 1, by omega, by go_num, by rw [E1.out], by rw [E2.out], by rw [E3.out], K9.out⟩
        case measure => simp [intOf]; omega
    · obtain rfl : j = 4 := by omega
      have he := HE.out
      rw [hp1, hp2, hp3] at he
      obtain ⟨e1, e2, e3⟩ := he
      subst e1
      have hp := HP.out 0 (by omega)
      have h1 : Smp q0 p1 := by rw [e2]; exact hp.1
      have h2 : Smp q1 0 := by rw [← e3]; exact hp.2
      have o2 := smp_eq' h2 (by decide)
      rw [smpOf0] at o2
      have o1 := smp_eq' h1 (by omega)
      have KA : Hid (∀ w1 : World, Blw wr.heap.size wr w1 → Calls Tryz.prog 45 #[.int .i64 p1] w1 fun e w' => e = .returned (.float .f32 (smpOf p1)) ∧ Blw wr.heap.size wr w') := Lib.hid fun w1 h => (refSample_any p1 (Nat.lt_of_le_of_lt (show _ ≤ 384 by omega) (by decide)) w1).mono fun e w' ⟨h1, h2⟩ => ⟨h1, by rw [← h2]; exact h⟩
      have wm : IntKind.i64.wrap (4 * p2) = 4 * p2 := IntWalk.i64_in _ ⟨by omega, by omega⟩
      have hcx : wr.cell? ⟨B25, 0, none⟩ = some (.complex .f32 q0 q1) := by
        rw [cell_of_row _ _ 0 _ _ (0, 0) (K1.out.2 _ (.tail _ (.head _)))]; rfl
      clear hp h1 h2 hp1 hp2 hp3 hs e2 e3
      go_upto_region 39 with fail
      have lc := lt_of_blk (K1.out.2 _ (.tail _ (.head _)))
      have hBw : Blw wr.heap.size wr wr := show Below _ _ _ from Below.refl _ _
      have hBd : Blw wr.heap.size wr wr.drew := show Below _ _ _ from (Below.refl wr.heap.size wr).drew
      go_region_held3 (fun w' => w'.cell? ⟨B25, 0, none⟩ = some (.complex .f32 q0 q1) ∧ Blw wr.heap.size wr w')
        (first
          | (go_split_ands; refine ⟨?_, ?_⟩ <;> with_reducible assumption)
          | (go_split_ands; refine ⟨?_, ?_⟩ <;> first | (with_reducible assumption) | (rw [Below.cell (w := wr) (by assumption : Blw wr.heap.size wr _) (by assumption)]; assumption))
          | (go_keep; done))
        (first
          | (go_at_call 45; with_reducible refine (KA.out _ (by assumption)).mono ?_; rintro e w6 ⟨rfl, hb6⟩))
      all_goals
        have K9 : Hid (Kp w w6 [(w.heap.size, (.cells #[.int .i64 W, .int .i64 H, .slice (some ⟨b, o, none⟩) n c] 48 (0, 0)))]) := Lib.hid ((K1.out.call hb6).subs (fun p hp => .tail _ (.tail _ hp)))
        go_wp2_with fail
        exact HQ.out _ _ _ _ _ _ _ _ _ _ _ _ _ _ _ _ _ _ _ _ _ _ _ _ _ _ _ _ _ _ _ _ _ _ _ _ _ _ _ _ _ _ _ _ _ _ _ _ _ K9.out
end Go.Proofs.YtfdkmmllemkogaaGreatDoor

/-
  Contracts of At and Total for every map: the error of the map, or of the place, or the sample and the light.
-/

namespace Go.Proofs.YtfdkmmllemkogaaGreatDoor
open Go.RowKit
open Ieee (Format single)
set_option linter.unusedVariables false
set_option linter.unusedSimpArgs false

/-- The integer of a sample's word. -/
def kOf (x : Nat) : Int :=
  match single.read x with
  | .number s m e => sgn s (m * 2 ^ (e - single.leastPlace).toNat / 2 ^ 145)
  | _ => 0

theorem smp_kOf {x : Nat} (h : smpErr x = 0) : Smp x (kOf x) ∧ (kOf x).natAbs ≤ 16384 := by
  rcases smp_class x with ⟨a, b, hd⟩ | ⟨s, hd⟩ | ⟨s, v, hn, _⟩
  · rw [smpErr_nan hd] at h; cases h
  · rw [smpErr_inf hd] at h; cases h
  · rw [smpErr_num hn] at h
    split at h
    · rename_i hh
      obtain ⟨h1, h2⟩ := hh
      have e : v = v / 2 ^ 145 * 2 ^ 145 := by
        have := Nat.div_add_mod v (2 ^ 145)
        rw [h2, Nat.add_zero, Nat.mul_comm] at this; exact this.symm
      have hq : v / 2 ^ 145 ≤ 16384 := by
        have := Nat.div_le_div_right (c := 2 ^ 145) h1
        have e2 : 1024 * 2 ^ 149 = 16384 * 2 ^ 145 := by decide +kernel
        rwa [e2, Nat.mul_div_cancel _ (Nat.two_pow_pos _)] at this
      have hk : kOf x = sgn s (v / 2 ^ 145) := by
        obtain ⟨m, i, k1, _, _, k4⟩ := hn
        unfold kOf
        rw [k1]
        dsimp only
        rw [k4]
      rw [hk]
      generalize v / 2 ^ 145 = p at e hq
      have hpa : (sgn s p).natAbs = p := by unfold sgn; cases s <;> simp
      refine ⟨⟨s, ?_, ?_, ?_⟩, by rw [hpa]; exact hq⟩
      · rw [hpa, ← e]; exact hn
      · intro hs; unfold sgn at hs; cases s
        · simp only [Bool.false_eq_true, if_false] at hs; omega
        · rfl
      · intro hs; unfold sgn at hs; cases s
        · rfl
        · simp only [if_true] at hs; omega
    · cases h

theorem mapErr_smps {W H : Int} {n : Nat} {xs : List Nat} (hx : xs.length = n) (h : mapErr W H n xs = 0) : ∀ j, j < n → smpErr (xs[j]?.getD 0) = 0 := by
  intro j hj
  unfold mapErr at h
  split at h
  · split at h
    · refine firstNZ_all h _ (List.mem_map.2 ⟨xs[j]?.getD 0, ?_, rfl⟩)
      rw [List.getElem?_eq_getElem (by omega)]
      exact List.getElem_mem _
    · cases h
  · rename_i h0; exact absurd h h0

theorem AnyMap.rightK {w : World} {W H : Int} {a : Option Addr} {n c : Nat} {xs : List Nat} (h : AnyMap w a n c xs) (h0 : mapErr W H n xs = 0) :
    ∃ b o, a = some ⟨b, o, none⟩ ∧ b < w.heap.size ∧ RightMap w W H b o n xs (xs.map kOf) := by
  obtain ⟨b, o, ks, ha, hb, hr⟩ := h.right h0
  have hk : ∀ j, j < n → (xs.map kOf)[j]?.getD 0 = kOf (xs[j]?.getD 0) := fun j hj => by
    have := hr.len
    rw [List.getElem?_map, List.getElem?_eq_getElem (by omega)]; rfl
  have hs := mapErr_smps h.len h0
  exact ⟨b, o, ha, hb, ⟨⟨hr.len, by rw [List.length_map]; exact hr.len, hr.small, hr.cells, hr.words, fun j hj => by rw [hk j hj]; exact (smp_kOf (hs j hj)).1, fun j hj => by rw [hk j hj]; exact (smp_kOf (hs j hj)).2⟩, hr.wid, hr.hei, hr.area⟩⟩

theorem refCheckMap_map (W H : Int) (a : Option Addr) (n c : Nat) (xs : List Nat) (w : World) (h : AnyMap w a n c xs) :
    Calls Tryz.prog 41 #[.agg #[.int .i64 W, .int .i64 H, .slice a n c]] w fun e w' => e = .returned (.int .i64 (mapErr W H n xs)) ∧ Below w.heap.size w w' :=
  refCheckMap_all W H a n c xs h.len w h.cells

/-! ### At -/

def inPlace (W H X Y : Int) : Prop := 0 ≤ X ∧ X < W ∧ 0 ≤ Y ∧ Y < H
instance (W H X Y : Int) : Decidable (inPlace W H X Y) := by unfold inPlace; infer_instance
end Go.Proofs.YtfdkmmllemkogaaGreatDoor

/-
  Right maps in memory, by their integers; what own, Total, Spread, Flipped, Turned, CheckMap and SameMap make of them.
-/

namespace Go.Proofs.YtfdkmmllemkogaaGreatDoor
open Go.RowKit
set_option linter.unusedVariables false
set_option linter.unusedSimpArgs false

/-- A right map with these integers lies there. -/
def RM (w : World) (W H n : Nat) (L : List Int) (b o : Nat) : Prop := b < w.heap.size ∧ ∃ xs, RightMap w W H b o n xs L
theorem RM.kept {w w' : World} {W H n b o : Nat} {L : List Int} (h : RM w W H n L b o) (hb : Below w.heap.size w w') : RM w' W H n L b o := by
  obtain ⟨h1, xs, h2⟩ := h
  exact ⟨Nat.lt_of_lt_of_le h1 hb.size, xs, h2.below hb h1⟩
theorem RM.any {w : World} {W H n b o : Nat} {L : List Int} (h : RM w W H n L b o) (c : Nat) : ∃ xs, AnyMap w (some ⟨b, o, none⟩) n c xs ∧ RightMap w W H b o n xs L := by
  obtain ⟨h1, xs, h2⟩ := h
  exact ⟨xs, ⟨h2.len, h2.words, .inr ⟨_, rfl⟩, fun j hj => ⟨b, o, rfl, h1, h2.cells⟩⟩, h2⟩
theorem RM.len {w : World} {W H n b o : Nat} {L : List Int} (h : RM w W H n L b o) : L.length = n := by obtain ⟨_, xs, h2⟩ := h; exact h2.lenk
theorem RM.area {w : World} {W H n b o : Nat} {L : List Int} (h : RM w W H n L b o) : H * W = n := by
  obtain ⟨_, xs, h2⟩ := h
  have := h2.area
  rw [Nat.mul_comm]; exact_mod_cast this
theorem RM.of_cells {w : World} {W H n g : Nat} {L : List Int} (hl : L.length = n) (hn : n ≤ 4096) (hs : ∀ j, j < n → (L[j]?.getD 0).natAbs ≤ 16384) (hW : 1 ≤ W ∧ W ≤ 64) (hH : 1 ≤ H ∧ H ≤ 64) (hA : H * W = n)
    (hg : g < w.heap.size) (hc : ∀ j, j < n → w.cell? ⟨g, j, none⟩ = some (.float .f32 (smpOf (L[j]?.getD 0)))) : RM w W H n L g 0 := by
  have e : ∀ j, j < n → (L.map smpOf)[j]?.getD 0 = smpOf (L[j]?.getD 0) := fun j hj => by rw [List.getElem?_map, List.getElem?_eq_getElem (by omega)]; rfl
  refine ⟨hg, L.map smpOf, ⟨⟨by rw [List.length_map]; exact hl, hl, hn, fun j hj => ?_, fun j hj => ?_, fun j hj => ?_, hs⟩, by omega, by omega, ?_⟩⟩
  · rw [Nat.zero_add, e j hj]; exact hc j hj
  · rw [e j hj]; exact smpOf_word _ (Nat.lt_of_le_of_lt (hs j hj) (by decide))
  · rw [e j hj]; exact smpOf_smp _ (Nat.lt_of_le_of_lt (hs j hj) (by decide))
  · rw [← hA]; push_cast; rw [Int.mul_comm]

theorem rm_own {w : World} {W H n b o : Nat} {L : List Int} (h : RM w W H n L b o) (c : Nat) :
    Calls Tryz.prog 38 #[.agg #[.int .i64 W, .int .i64 H, .slice (some ⟨b, o, none⟩) n c]] w fun e w' =>
      ∃ g c', e = .returned (.agg #[.int .i64 W, .int .i64 H, .slice (some ⟨g, 0, none⟩) n c']) ∧ RM w' W H n L g 0 ∧ Below w.heap.size w w' := by
  obtain ⟨xs, hM, hR⟩ := h.any c
  have hn := hR.small
  refine (lawOwn_all W H _ n c xs (by omega) hM).mono ?_
  rintro e w' ⟨g, c', he, _, hg, hc, hb, _⟩
  exact ⟨g, c', he, ⟨hg, xs, ⟨⟨hR.len, hR.lenk, hR.small, fun j hj => by rw [Nat.zero_add]; exact hc j hj, hR.words, hR.smps, hR.sizes⟩, hR.wid, hR.hei, hR.area⟩⟩, hb⟩
theorem rm_total {w : World} {W H n b o : Nat} {L : List Int} (h : RM w W H n L b o) (c : Nat) :
    Calls Tryz.prog 39 #[.agg #[.int .i64 W, .int .i64 H, .slice (some ⟨b, o, none⟩) n c]] w fun e w' => e = .returned (.tuple #[.int .i64 L.sum, .int .i64 0]) ∧ Below w.heap.size w w' := by
  obtain ⟨h1, xs, h2⟩ := h
  exact total_any W H b o n c xs L w h2 h1
theorem rm_check {w : World} {W H n b o : Nat} {L : List Int} (h : RM w W H n L b o) (c : Nat) :
    Calls Tryz.prog 41 #[.agg #[.int .i64 W, .int .i64 H, .slice (some ⟨b, o, none⟩) n c]] w fun e w' => e = .returned (.int .i64 0) ∧ Below w.heap.size w w' := by
  obtain ⟨xs, hM, hR⟩ := h.any c
  have e : mapErr W H n xs = 0 := by
    unfold mapErr
    have h1 := hR.wid
    have h2 := hR.hei
    rw [rangeErr_in h1.1 h1.2, rangeErr_in h2.1 h2.2, if_pos (by simp [firstNZ]), if_pos hR.area]
    refine firstNZ_zeros fun x hx => ?_
    obtain ⟨y, hy, rfl⟩ := List.mem_map.1 hx
    obtain ⟨j, hj, rfl⟩ := List.mem_iff_getElem.1 hy
    have hjn : j < n := by have := hR.len; omega
    have hs := hR.smps j hjn
    have hz := hR.sizes j hjn
    rw [List.getElem?_eq_getElem hj] at hs
    obtain ⟨s, g1, _, _⟩ := hs
    refine smpErr_ok g1 ?_ (Nat.mul_mod_left _ _)
    refine Nat.le_trans (Nat.mul_le_mul_right _ hz) ?_
    decide +kernel
  have k := refCheckMap_map W H (some ⟨b, o, none⟩) n c xs w hM
  rw [e] at k
  exact k
theorem rm_same {w : World} {W H n b o b' o' : Nat} {L : List Int} (h : RM w W H n L b o) (h' : RM w W H n L b' o') (c c' : Nat) :
    Calls Tryz.prog 98 #[.agg #[.int .i64 W, .int .i64 H, .slice (some ⟨b, o, none⟩) n c], .agg #[.int .i64 W, .int .i64 H, .slice (some ⟨b', o', none⟩) n c']] w fun e w' => e = .returned (.bool true) ∧ Below w.heap.size w w' := by
  obtain ⟨h1, xs, h2⟩ := h
  obtain ⟨g1, ys, g2⟩ := h'
  exact sameMap_any W H b o c b' o' c' n xs ys L h2.small h1 g1 h2.cells g2.cells h2.smps g2.smps

/-- A call that returns a right map. -/
def GivesMap (f : FuncId) (args : Array Value) (w : World) (W H n : Nat) (L : List Int) : Prop :=
  Calls Tryz.prog f args w fun e w' => ∃ g, e = .returned (.tuple #[.agg #[.int .i64 W, .int .i64 H, .slice (some ⟨g, 0, none⟩) n n], .int .i64 0]) ∧ RM w' W H n L g 0 ∧ Below w.heap.size w w'

/-- What a right map's own words say of its integers. -/
theorem rm_of_any {w : World} {W H : Int} {a : Option Addr} {n c : Nat} {xs : List Nat} (h : AnyMap w a n c xs) (h0 : mapErr W H n xs = 0) :
    ∃ (Wn Hn b o : Nat), W = Wn ∧ H = Hn ∧ a = some ⟨b, o, none⟩ ∧ RM w Wn Hn n (xs.map kOf) b o := by
  obtain ⟨b, o, ha, hb, hR⟩ := h.rightK h0
  obtain ⟨Wn, rfl⟩ := Int.eq_ofNat_of_zero_le (show 0 ≤ W by have := hR.wid; omega)
  obtain ⟨Hn, rfl⟩ := Int.eq_ofNat_of_zero_le (show 0 ≤ H by have := hR.hei; omega)
  exact ⟨Wn, Hn, b, o, rfl, rfl, ha, hb, xs, hR⟩
end Go.Proofs.YtfdkmmllemkogaaGreatDoor

/-
  LightBins: its loop over the samples, four at a time.
-/

namespace Go.Proofs.YtfdkmmllemkogaaGreatDoor
open Go.RowKit Go.Shelf
set_option linter.unusedVariables false
set_option linter.unusedSimpArgs false

theorem vals4' {L : List Value} (h : L.length = 4) {a b c d : Value} (h0 : L[0]? = some a) (h1 : L[1]? = some b) (h2 : L[2]? = some c) (h3 : L[3]? = some d) : L = [a, b, c, d] := by
  match L, h with
  | [_, _, _, _], _ =>
    cases h0; cases h1; cases h2; cases h3
    rfl
theorem cells4D {w : World} {b : Nat} (x0 y0 x1 y1 x2 y2 x3 y3 : Nat) (h : w.heap[b]? = some (.cells #[.complex .f32 x0 y0, .complex .f32 x1 y1, .complex .f32 x2 y2, .complex .f32 x3 y3] 95 (0, 0))) :
    ∀ j, j < 4 → w.cell? ⟨b, 0 + j, none⟩ = some (.complex .f32 (([(x0, y0), (x1, y1), (x2, y2), (x3, y3)] : List (Nat × Nat))[j]?.getD (0, 0)).1 (([(x0, y0), (x1, y1), (x2, y2), (x3, y3)] : List (Nat × Nat))[j]?.getD (0, 0)).2) := fun j hj => by
  rw [Nat.zero_add, cell_of_row _ _ j _ _ (0, 0) h]
  match j, hj with
  | 0, _ => rfl
  | 1, _ => rfl
  | 2, _ => rfl
  | 3, _ => rfl
section
variable {P : Program} (w : World)
theorem equalIn_flt4 (d : Nat) (t e : TypeId) (n : Nat) (ht : P.underlying t = some (.array n e)) (he : P.underlying e = some (.float .f32)) (hsz : ∀ w, (sizeOf e).run P w = .ok 1 w) (xs ys : List Nat) (hx : xs.length = n) (hy : ys.length = n)
    (ho : ∀ i, i < n → FloatKind.f32.format.order (xs[i]?.getD 0) (ys[i]?.getD 0) = some .eq) :
    (Op.equalIn (d + 2) t (.agg (xs.map (fun z => Value.float .f32 z)).toArray) (.agg (ys.map (fun z => Value.float .f32 z)).toArray)).run P w = .ok true w := by
  rw [Op.equalIn]
  simp only [Sem.run_bind, run_underlying ht, Result.andThen_ok, hsz, Std.Legacy.Range.forIn_eq_forIn_range', Std.Legacy.Range.size, Nat.sub_zero, Nat.add_sub_cancel, Nat.div_one]
  have hl : ∀ i ∈ List.range' 0 n 1, i < n := fun i hi => by simpa using (List.mem_range'_1.1 hi).2
  generalize List.range' 0 n 1 = l at hl ⊢
  induction l with
  | nil => simp
  | cons i l ih =>
    have hi : i < n := hl i (by simp)
    have o1 := ho i hi
    have px : (part e (xs.map (fun z => Value.float .f32 z)).toArray (i * 1)).run P w = .ok (Value.float .f32 (xs[i]?.getD 0)) w := by
      simp [part, isAgg, run_underlying he, List.getElem?_eq_getElem (show i < xs.length by omega)]
    have py : (part e (ys.map (fun z => Value.float .f32 z)).toArray (i * 1)).run P w = .ok (Value.float .f32 (ys[i]?.getD 0)) w := by
      simp [part, isAgg, run_underlying he, List.getElem?_eq_getElem (show i < ys.length by omega)]
    have pe : (Op.equalIn (d + 1) e (Value.float .f32 (xs[i]?.getD 0)) (Value.float .f32 (ys[i]?.getD 0))).run P w = .ok true w := by
      rw [Op.equalIn]
      simp [run_underlying he, Sem.run_bind, Op.floatEq, o1]
    simp only [List.forIn_cons, Sem.run_bind, px, py, pe, Result.andThen_ok]
    simp only [Bool.not_true, Bool.false_eq_true, if_false, Sem.run_pure, Result.andThen_ok]
    exact ih fun j hj => hl j (by simp [hj])
end
theorem eq_four4 (t0 t1 t2 t3 s0 s1 s2 s3 : Nat) (h : FloatKind.f32.format.order t0 s0 = some .eq ∧ FloatKind.f32.format.order t1 s1 = some .eq ∧ FloatKind.f32.format.order t2 s2 = some .eq ∧ FloatKind.f32.format.order t3 s3 = some .eq) (w : World) :
    (Op.equalIn 10000 92 (.agg #[.float .f32 t0, .float .f32 t1, .float .f32 t2, .float .f32 t3]) (.agg #[.float .f32 s0, .float .f32 s1, .float .f32 s2, .float .f32 s3])).run Tryz.prog w = .ok true w := by
  obtain ⟨o0, o1, o2, o3⟩ := h
  refine equalIn_flt4 w 9998 92 23 4 (Tryz.underlying92) (Tryz.underlying23) (fun w => by first | kernel_rfl | rfl) [t0, t1, t2, t3] [s0, s1, s2, s3] rfl rfl (fun i hi => ?_)
  match i, hi with
  | 0, _ => exact o0
  | 1, _ => exact o1
  | 2, _ => exact o2
  | 3, _ => exact o3
theorem four_ints {P : Nat → Nat → Int → Prop} (h : ∀ j, j < 4 → ∃ x k, P j x k) : ∃ (x0 x1 x2 x3 : Nat) (k0 k1 k2 k3 : Int), ∀ j, j < 4 → P j (([x0, x1, x2, x3] : List Nat)[j]?.getD 0) (([k0, k1, k2, k3] : List Int)[j]?.getD 0) := by
  obtain ⟨x0, k0, h0⟩ := h 0 (by omega)
  obtain ⟨x1, k1, h1⟩ := h 1 (by omega)
  obtain ⟨x2, k2, h2⟩ := h 2 (by omega)
  obtain ⟨x3, k3, h3⟩ := h 3 (by omega)
  refine ⟨x0, x1, x2, x3, k0, k1, k2, k3, fun j hj => ?_⟩
  match j, hj with
  | 0, _ => exact h0
  | 1, _ => exact h1
  | 2, _ => exact h2
  | 3, _ => exact h3
theorem slice4 (b o n c i : Nat) (hc : i + 4 ≤ c) (w : World) :
    (Instr.sliceAt 46 (.slice (some ⟨b, o, none⟩) n c) (some (.int .i64 (i : Int))) (some (.int .i64 ((i + 4 : Nat) : Int))) none).run Tryz.prog w = .ok (.slice (some ⟨b, o + i, none⟩) 4 (c - i)) w := by
  have hu : Tryz.prog.underlying 46 = some (.slice (Tryz.prog.elem 46)) := by kernel_rfl
  have hz : (sizeOf (Tryz.prog.elem 46)).run Tryz.prog w = .ok 1 w := by first | kernel_rfl | rfl
  rw [run_sliceAt_slice w _ _ _ _ _ hu, run_slice_lh w _ _ _ _ hu _ _ _ _ (by omega) (by omega) (by omega), hz]
  simp only [Result.andThen, sliced, Int.toNat_natCast]
  rw [if_neg (by omega), show i + 4 - i = 4 by omega, Nat.mul_one, Option.map_some, Addr.add_mid]
/-- What Four answers for four samples, by its parts. -/
theorem four_parts (x0 x1 x2 x3 : Nat) (k0 k1 k2 k3 : Int) (HX : ∀ j, j < 4 → ([x0, x1, x2, x3] : List Nat)[j]?.getD 0 < 2 ^ 32 ∧ Smp (([x0, x1, x2, x3] : List Nat)[j]?.getD 0) (([k0, k1, k2, k3] : List Int)[j]?.getD 0) ∧ (([k0, k1, k2, k3] : List Int)[j]?.getD 0).natAbs ≤ 96) (w : World) :
    Calls Tryz.prog 68 #[.agg #[.float .f32 x0, .float .f32 x1, .float .f32 x2, .float .f32 x3]] w fun e w' =>
      ∃ q0 q1 q2 q3 q4 q5 q6 q7 : Nat, e = .returned (.tuple #[.agg #[.complex .f32 q0 q1, .complex .f32 q2 q3, .complex .f32 q4 q5, .complex .f32 q6 q7], .int .i64 0]) ∧ (∀ j, j < 4 → Smp (([q0, q2, q4, q6] : List Nat)[j]?.getD 0) (accR [k0, k1, k2, k3] j 4) ∧ Smp (([q1, q3, q5, q7] : List Nat)[j]?.getD 0) (accI [k0, k1, k2, k3] j 4)) ∧ (∀ j, j < 4 → (([(q0, q1), (q2, q3), (q4, q5), (q6, q7)] : List (Nat × Nat))[j]?.getD (0, 0)).1 < 2 ^ 32 ∧ (([(q0, q1), (q2, q3), (q4, q5), (q6, q7)] : List (Nat × Nat))[j]?.getD (0, 0)).2 < 2 ^ 32) ∧ Below w.heap.size w w' := by
  refine (four_any x0 x1 x2 x3 [k0, k1, k2, k3] rfl (fun j hj => ⟨(HX j hj).1, (HX j hj).2.1, Nat.le_trans (HX j hj).2.2 (by decide)⟩) w).mono ?_
  rintro e w' ⟨L, rfl, ⟨hL, hp⟩, hb⟩
  obtain ⟨a0, b0, g0, A0, B0, D0⟩ := hp 0 (by omega)
  obtain ⟨a1, b1, g1, A1, B1, D1⟩ := hp 1 (by omega)
  obtain ⟨a2, b2, g2, A2, B2, D2⟩ := hp 2 (by omega)
  obtain ⟨a3, b3, g3, A3, B3, D3⟩ := hp 3 (by omega)
  have eL := vals4' hL g0 g1 g2 g3
  subst eL
  refine ⟨a0, b0, a1, b1, a2, b2, a3, b3, rfl, fun j hj => ?_, fun j hj => ?_, hb⟩
  · match j, hj with
    | 0, _ => exact ⟨A0, B0⟩
    | 1, _ => exact ⟨A1, B1⟩
    | 2, _ => exact ⟨A2, B2⟩
    | 3, _ => exact ⟨A3, B3⟩
  · match j, hj with
    | 0, _ => exact D0
    | 1, _ => exact D1
    | 2, _ => exact D2
    | 3, _ => exact D3
theorem numErr_ok {x y : Nat} {k l : Int} (hx : Smp x k) (hy : Smp y l) (hk : k.natAbs ≤ 65536) (hl : l.natAbs ≤ 65536) : numErr x y = 0 := by
  obtain ⟨s, h1, _, _⟩ := hx
  obtain ⟨s', h2, _, _⟩ := hy
  have e1 : mulB x = true := by
    rw [mulB_num h1, decide_eq_true_iff]
    exact ⟨by refine Nat.le_trans (Nat.mul_le_mul_right _ hk) ?_; decide +kernel, Nat.mul_mod_left _ _⟩
  have e2 : mulB y = true := by
    rw [mulB_num h2, decide_eq_true_iff]
    exact ⟨by refine Nat.le_trans (Nat.mul_le_mul_right _ hl) ?_; decide +kernel, Nat.mul_mod_left _ _⟩
  unfold numErr
  rw [if_pos ⟨finB_num h1, finB_num h2⟩, if_pos ⟨e1, e2⟩]
theorem unfour_back (q0 q1 q2 q3 q4 q5 q6 q7 : Nat) (k0 k1 k2 k3 : Int) (hk : ∀ j, j < 4 → (([k0, k1, k2, k3] : List Int)[j]?.getD 0).natAbs ≤ 96)
    (hw : ∀ j, j < 4 → (([(q0, q1), (q2, q3), (q4, q5), (q6, q7)] : List (Nat × Nat))[j]?.getD (0, 0)).1 < 2 ^ 32 ∧ (([(q0, q1), (q2, q3), (q4, q5), (q6, q7)] : List (Nat × Nat))[j]?.getD (0, 0)).2 < 2 ^ 32)
    (hP : ∀ j, j < 4 → Smp (([q0, q2, q4, q6] : List Nat)[j]?.getD 0) (accR [k0, k1, k2, k3] j 4) ∧ Smp (([q1, q3, q5, q7] : List Nat)[j]?.getD 0) (accI [k0, k1, k2, k3] j 4)) (w : World) :
    Calls Tryz.prog 69 #[.agg #[.complex .f32 q0 q1, .complex .f32 q2 q3, .complex .f32 q4 q5, .complex .f32 q6 q7]] w fun e w' =>
      ∃ t0 t1 t2 t3 : Nat, e = .returned (.tuple #[.agg #[.float .f32 t0, .float .f32 t1, .float .f32 t2, .float .f32 t3], .int .i64 0]) ∧ (∀ j, j < 4 → Smp (([t0, t1, t2, t3] : List Nat)[j]?.getD 0) (([k0, k1, k2, k3] : List Int)[j]?.getD 0)) ∧ Below w.heap.size w w' := by
  have hS : ∀ k, (accR [k0, k1, k2, k3] k 4).natAbs ≤ 65536 ∧ (accI [k0, k1, k2, k3] k 4).natAbs ≤ 65536 := fun k => by
    have := acc_small hk k 4 (by omega)
    omega
  have hU := fun i hi => un_four k0 k1 k2 k3 i hi
  obtain ⟨rs, hrs⟩ : ∃ rs : List Int, [accR [k0, k1, k2, k3] 0 4, accR [k0, k1, k2, k3] 1 4, accR [k0, k1, k2, k3] 2 4, accR [k0, k1, k2, k3] 3 4] = rs := ⟨_, rfl⟩
  obtain ⟨is, his⟩ : ∃ is : List Int, [accI [k0, k1, k2, k3] 0 4, accI [k0, k1, k2, k3] 1 4, accI [k0, k1, k2, k3] 2 4, accI [k0, k1, k2, k3] 3 4] = is := ⟨_, rfl⟩
  rw [hrs, his] at hU
  have hH : ∀ j, j < 4 → Smp (([q0, q2, q4, q6] : List Nat)[j]?.getD 0) (rs[j]?.getD 0) ∧ Smp (([q1, q3, q5, q7] : List Nat)[j]?.getD 0) (is[j]?.getD 0) ∧ (rs[j]?.getD 0).natAbs ≤ 65536 ∧ (is[j]?.getD 0).natAbs ≤ 65536 := fun j hj => by
    subst hrs his
    match j, hj with
    | 0, _ => exact ⟨(hP 0 (by omega)).1, (hP 0 (by omega)).2, (hS 0).1, (hS 0).2⟩
    | 1, _ => exact ⟨(hP 1 (by omega)).1, (hP 1 (by omega)).2, (hS 1).1, (hS 1).2⟩
    | 2, _ => exact ⟨(hP 2 (by omega)).1, (hP 2 (by omega)).2, (hS 2).1, (hS 2).2⟩
    | 3, _ => exact ⟨(hP 3 (by omega)).1, (hP 3 (by omega)).2, (hS 3).1, (hS 3).2⟩
  have ho : ∀ i, i < 4 → unOk rs is i := fun i hi => by
    obtain ⟨h1, h2⟩ := hU i hi
    have h3 := hk i hi
    refine ⟨h2, ?_, ?_⟩
    · rw [h1]; omega
    · rw [h1]; omega
  have hE : ∀ (w1 : World) (b : Nat), b < w1.heap.size → w1.heap[b]? = some (.cells #[.complex .f32 q0 q1, .complex .f32 q2 q3, .complex .f32 q4 q5, .complex .f32 q6 q7] 95 (0, 0)) → Calls Tryz.prog 157 #[.slice (some ⟨b, 0, none⟩) 4 4, .func (.func 158) #[] #[]] w1 fun e w' =>
      e = .returned (.slice (some ⟨w1.heap.size, 0, none⟩) 4 4) ∧ (∀ j, j < 4 → w'.cell? ⟨w1.heap.size, 0 + j, none⟩ = some (.int .i64 0)) ∧ Below w1.heap.size w1 w' := fun w1 b hb hx => by
    refine (mapped_num b 0 4 4 [(q0, q1), (q2, q3), (q4, q5), (q6, q7)] rfl (by decide) hb (cells4D _ _ _ _ _ _ _ _ hx) hw).mono ?_
    rintro e w' ⟨he, hown, hbl⟩
    refine ⟨he, fun j hj => ?_, hbl⟩
    rw [Nat.zero_add]
    refine owns_cell hown ?_
    match j, hj with
    | 0, _ => exact congrArg (fun z => some (Value.int .i64 z)) (numErr_ok (hH 0 (by omega)).1 (hH 0 (by omega)).2.1 (hH 0 (by omega)).2.2.1 (hH 0 (by omega)).2.2.2)
    | 1, _ => exact congrArg (fun z => some (Value.int .i64 z)) (numErr_ok (hH 1 (by omega)).1 (hH 1 (by omega)).2.1 (hH 1 (by omega)).2.2.1 (hH 1 (by omega)).2.2.2)
    | 2, _ => exact congrArg (fun z => some (Value.int .i64 z)) (numErr_ok (hH 2 (by omega)).1 (hH 2 (by omega)).2.1 (hH 2 (by omega)).2.2.1 (hH 2 (by omega)).2.2.2)
    | 3, _ => exact congrArg (fun z => some (Value.int .i64 z)) (numErr_ok (hH 3 (by omega)).1 (hH 3 (by omega)).2.1 (hH 3 (by omega)).2.2.1 (hH 3 (by omega)).2.2.2)
  refine (unfour_any q0 q1 q2 q3 q4 q5 q6 q7 rs is hH hE w).mono ?_
  rintro e w' ⟨hb, ⟨_, t0, t1, t2, t3, he, hs⟩ | ⟨hn, _⟩⟩
  · refine ⟨t0, t1, t2, t3, he, fun j hj => ?_, hb⟩
    have h1 := hs j hj
    rw [(hU j hj).1, Int.mul_ediv_cancel_left _ (by decide)] at h1
    exact h1
  · exact absurd ho hn

attribute [local go_sem] store_complex store_float4
set_option maxRecDepth 1000000 in
set_option maxHeartbeats 12800000 in
theorem bins23 (w : World) (W H b o n c : Nat) (ks : List Int) (hR : RM w W H n ks b o) (hsz : ∀ j, j < n → (ks[j]?.getD 0).natAbs ≤ 96) (hcap : n ≤ c) (n0 n1 : Int) (wr : World) (ht : TabAt w) (u4 u5 u6 u7 u8 u9 u10 u11 u12 u13 u14 u15 u16 u17 u18 u19 u20 u21 u22 u23 u24 u25 u26 u27 u28 u29 u30 u31 u32 u33 u34 u35 u36 u37 u38 u39 u40 u41 u42 u43 u44 u45 u46 u47 u48 u49 u50 u51 u52 u53 u54 u55 u56 u57 u58 u59 u60 u61 u62 u63 u64 u65 u66 u67 u68 u69 u70 u71 u72 u73 u74 u75 u76 u77 u78 u79 u80 u81 u82 u83 u84 u85 u86 u87 u88 u89 u90 u91 u92 u93 u94 u95 u96 u97 u98 u99 u100 u101 u102 u103 u104 u105 u106 u107 u108 u109 u110 u111 u112 u113 u114 u115 u116 u117 u118 u119 u120 u121 u122 u123 u124 u125 u126 u127 u128 u129 u130 u131 u132 u133 u134 u135 u136 u137 u138 u139 u140 u141 u142 u143 u144 u145 u146 u147 u148 u149 u150 u151 u152 u153 u154 u155 u156 u157 u158 u159 u160 u161 u162 u163 u164 u165 u166 u167 u168 u169 u170 u171 u172 u173 u174 u175 u176 u177 u178 u179 u180 u181 u182 u183 u184 u185 u186 u187 u188 u189 u190 u191 u192 u193 u194 u195 u196 u197 u198 u199 u200 u201 u202 u203 u204 u205 u206 u207 u208 u209 u210 u211 u212 u213 u214 u215 u216 u217 u218 u219 u220 u221 u222 u223 u224 u225 u226 u227 u228 u229 u230 u231 u232 u233 u234 u235 u236 u237 u238 u239 u240 u241 u242 u243 u244 u245 u246 u247 u248 u249 u250 u251 u252 u253 u254 u255 u256 u257 u258 u259 u260 u261 u262 u263 u264 u265 u266 u267 u268 u269 u270 u271 u272 u273 u274 u275 u276 : Value)
    (hKp : Kp w wr [(w.heap.size, (.cells #[.int .i64 W, .int .i64 H, .slice (some ⟨b, o, none⟩) n c] 48 (0, 0)))]) :
    Code.wp Tryz.prog (cutB 23) (bodyPost Tryz.prog Tryz.f15 (TruePost w)) ⟨#[.agg #[.int .i64 (W : Nat), .int .i64 (H : Nat), .slice (some ⟨b, o, none⟩) n c], .agg #[.int .u8 n0, .int .u8 n1], .pointer (some ⟨w.heap.size, 0, none⟩), .pointer (some ⟨w.heap.size + 1, 0, none⟩), u4, u5, u6, u7, u8, u9, u10, u11, u12, u13, u14, u15, u16, u17, u18, u19, u20, u21, u22, u23, u24, u25, u26, u27, u28, u29, u30, u31, u32, u33, u34, u35, u36, u37, u38, u39, u40, u41, u42, u43, u44, u45, u46, u47, u48, u49, u50, u51, u52, u53, u54, u55, u56, u57, u58, u59, u60, u61, u62, u63, u64, u65, u66, u67, u68, u69, u70, u71, u72, u73, u74, u75, u76, u77, u78, u79, u80, u81, u82, u83, u84, u85, u86, u87, u88, u89, u90, u91, u92, u93, u94, u95, u96, u97, u98, u99, u100, u101, u102, u103, u104, u105, u106, u107, u108, u109, u110, u111, u112, u113, u114, u115, u116, u117, u118, u119, u120, u121, u122, u123, u124, u125, u126, u127, u128, u129, u130, u131, u132, u133, u134, u135, u136, u137, u138, u139, u140, u141, u142, u143, u144, u145, u146, u147, u148, u149, u150, u151, u152, u153, u154, u155, u156, u157, u158, u159, u160, u161, u162, u163, u164, u165, u166, u167, u168, u169, u170, u171, u172, u173, u174, u175, u176, u177, u178, u179, u180, u181, u182, u183, u184, u185, u186, u187, u188, u189, u190, u191, u192, u193, u194, u195, u196, u197, u198, u199, u200, u201, u202, u203, u204, u205, u206, u207, u208, u209, u210, u211, u212, u213, u214, u215, u216, u217, u218, u219, u220, u221, u222, u223, u224, u225, u226, u227, u228, u229, u230, u231, u232, u233, u234, u235, u236, u237, u238, u239, u240, u241, u242, u243, u244, u245, u246, u247, u248, u249, u250, u251, u252, u253, u254, u255, u256, u257, u258, u259, u260, u261, u262, u263, u264, u265, u266, u267, u268, u269, u270, u271, u272, u273, u274, u275, u276], []⟩ wr := by
  conv => arg 2; whnf
  dsimp only
  have KW : Hid (∀ w1 : World, Below w.heap.size w w1 → Calls Tryz.prog 19 #[] w1 fun e w' => e = .returned (.bool true) ∧ Below w.heap.size w w') :=
    Lib.hid fun w1 h => (awake_any w1 (ht.on h)).mono fun e w' ⟨he, hb⟩ => ⟨he, h.trans (hb.mono h.size)⟩
  obtain ⟨hb0, xs, hX⟩ := hR
  have HK := Lib.hid hKp
  have HX := Lib.hid hX
  have HB := Lib.hid hb0
  have HS := Lib.hid hsz
  have hnM := hX.small
  clear hKp hX hb0 hsz ht
  go_upto_block 0 with fail
  go_wp2_with fail
  go_loopw [23] (fun s23 wy => ∃ i : Nat, i ≤ n ∧ s23 = .int .i64 i ∧ Kp w wy [(w.heap.size, (.cells #[.int .i64 W, .int .i64 H, .slice (some ⟨b, o, none⟩) n c] 48 (0, 0)))]) (fun i _ => n - (intOf i).toNat)
  case atStart => exact ⟨0, by omega, rfl, HK.out⟩
  case round =>
    obtain ⟨i, hin, rfl, hk⟩ := hrel
    have K1 := Lib.hid hk
    clear hk HK
    obtain ⟨m0, m1, m2⟩ := cells3 (K1.out.2 _ (.head _))
    have hw4 : IntKind.i64.wrap ((i : Int) + 4) = ((i + 4 : Nat) : Int) := by rw [show (i : Int) + 4 = ((i + 4 : Nat) : Int) by omega]; exact IntWalk.i64_in _ ⟨by omega, by omega⟩
    by_cases hlt : i + 4 ≤ n
    · have hle : ((i + 4 : Nat) : Int) ≤ (n : Int) := by omega
      have hall : ∀ j, j < 4 → ∃ (x : Nat) (k : Int), (x < 2 ^ 32 ∧ Smp x k ∧ k.natAbs ≤ 96) ∧ wr.cell? ⟨b, o + i + j, none⟩ = some (.float .f32 x) := fun j hj => by
        refine ⟨xs[i + j]?.getD 0, ks[i + j]?.getD 0, ⟨HX.out.words _ (by omega), HX.out.smps _ (by omega), HS.out _ (by omega)⟩, ?_⟩
        have h := HX.out.cells (i + j) (by omega)
        rw [show o + i + j = o + (i + j) by omega]
        exact (K1.out.1.cell (p := ⟨b, o + (i + j), none⟩) HB.out).trans h
      obtain ⟨x0, x1, x2, x3, k0, k1, k2, k3, hq⟩ := four_ints hall
      have c0 : wr.cell? ⟨b, o + i, none⟩ = some (.float .f32 x0) := (hq 0 (by omega)).2
      have c1 : wr.cell? ⟨b, o + i + 1, none⟩ = some (.float .f32 x1) := (hq 1 (by omega)).2
      have c2 : wr.cell? ⟨b, o + i + 2, none⟩ = some (.float .f32 x2) := (hq 2 (by omega)).2
      have c3 : wr.cell? ⟨b, o + i + 3, none⟩ = some (.float .f32 x3) := (hq 3 (by omega)).2
      have HQ := Lib.hid (fun j hj => (hq j hj).1)
      have hsl := slice4 b o n c i (by omega)
      have har : ∀ w1 : World, (Instr.arrayAt 92 (.slice (some ⟨b, o + i, none⟩) 4 (c - i))).run Tryz.prog w1 = .ok (.pointer (some ⟨b, o + i, none⟩)) w1 := fun w1 => run_arrayAt w1 _ _ 4 _ 4 _ Tryz.underlying92 (by omega)
      clear hq hall
      go_upto_region 27 with fail
      clear c0 c1 c2 c3 hsl har m0 m1 m2
      refine wp_world (fun w' => Kp w w' [(wr.heap.size, .cells #[.float .f32 x0, .float .f32 x1, .float .f32 x2, .float .f32 x3] 92 (0, 0)), (w.heap.size, (.cells #[.int .i64 W, .int .i64 H, .slice (some ⟨b, o, none⟩) n c] 48 (0, 0)))]) (by first | exact K1.out.alloc _ | exact kp_set4 K1.out _ _ _ _) fun w2 k2 => ?_
      have K2 := Lib.hid k2
      have l24 : w.heap.size < wr.heap.size := lt_of_blk (K1.out.2 _ (.head _))
      obtain ⟨B24, hB24⟩ : ∃ B24, wr.heap.size = B24 := ⟨_, rfl⟩
      rw [hB24] at K2 l24 ⊢
      clear k2 K1 hB24
      obtain ⟨y0, y1, y2, y3⟩ := cells4 (K2.out.2 _ (.head _))
      go_upto_region 28 with (go_at_call 68; with_reducible refine (four_parts x0 x1 x2 x3 k0 k1 k2 k3 HQ.out _).mono ?_; rintro e w3 ⟨q0, q1, q2, q3, q4, q5, q6, q7, rfl, hp, hwd, hb3⟩; have K3 := Lib.hid (K2.out.call hb3); have HP := Lib.hid hp; have HWD := Lib.hid hwd; clear hb3 hp hwd)
      clear y0 y1 y2 y3
      refine wp_world (fun w' => Kp w w' [(w3.heap.size, .cells #[.complex .f32 q0 q1, .complex .f32 q2 q3, .complex .f32 q4 q5, .complex .f32 q6 q7] 95 (0, 0)), (B24, (.cells #[.float .f32 x0, .float .f32 x1, .float .f32 x2, .float .f32 x3] 92 (0, 0))), (w.heap.size, (.cells #[.int .i64 W, .int .i64 H, .slice (some ⟨b, o, none⟩) n c] 48 (0, 0)))]) (by first | exact K3.out.alloc _ | exact kp_set4 K3.out _ _ _ _) fun w4 k4 => ?_
      have K4 := Lib.hid k4
      obtain ⟨B25, hB25⟩ : ∃ B25, w3.heap.size = B25 := ⟨_, rfl⟩
      rw [hB25] at K4 ⊢
      clear k4 K2 K3 hB25
      obtain ⟨y0, y1, y2, y3⟩ := cells4 (K4.out.2 _ (.head _))
      go_upto_region 29 with (go_at_call 69; with_reducible refine (unfour_back q0 q1 q2 q3 q4 q5 q6 q7 k0 k1 k2 k3 (fun j hj => (HQ.out j hj).2.2) HWD.out HP.out _).mono ?_; rintro e w5 ⟨t0, t1, t2, t3, rfl, hs, hb5⟩; have K5 := Lib.hid (K4.out.call hb5); have HT := Lib.hid hs; clear hb5 hs)
      clear y0 y1 y2 y3
      refine wp_world (fun w' => Kp w w' [(w5.heap.size, .cells #[.float .f32 t0, .float .f32 t1, .float .f32 t2, .float .f32 t3] 92 (0, 0)), (B25, .cells #[.complex .f32 q0 q1, .complex .f32 q2 q3, .complex .f32 q4 q5, .complex .f32 q6 q7] 95 (0, 0)), (B24, (.cells #[.float .f32 x0, .float .f32 x1, .float .f32 x2, .float .f32 x3] 92 (0, 0))), (w.heap.size, (.cells #[.int .i64 W, .int .i64 H, .slice (some ⟨b, o, none⟩) n c] 48 (0, 0)))]) (by first | exact K5.out.alloc _ | exact kp_set4 K5.out _ _ _ _) fun w6 k6 => ?_
      have K6 := Lib.hid k6
      clear k6 K4 K5
      obtain ⟨y0, y1, y2, y3⟩ := cells4 (K6.out.2 _ (.head _))
      obtain ⟨z0, z1, z2, z3⟩ := cells4 (K6.out.2 _ (.tail _ (.tail _ (.head _))))
      have hoe : ∀ j, j < 4 → FloatKind.f32.format.order (([t0, t1, t2, t3] : List Nat)[j]?.getD 0) (([x0, x1, x2, x3] : List Nat)[j]?.getD 0) = some .eq := fun j hj => by
        have e : Ieee.single.order _ _ = some (compare _ _) := (HT.out j hj).order (HQ.out j hj).2.1
        rw [show ∀ a : Int, compare a a = .eq from fun a => by
          show compareOfLessAndEq _ _ = _
          unfold compareOfLessAndEq; rw [if_neg (by omega), if_pos rfl]] at e
        exact e
      have te := eq_four4 t0 t1 t2 t3 x0 x1 x2 x3 ⟨hoe 0 (by omega), hoe 1 (by omega), hoe 2 (by omega), hoe 3 (by omega)⟩
      clear hoe
      go_upto_if 232 with fail
      clear y0 y1 y2 y3 z0 z1 z2 z3 te
      have K7 : Hid (Kp w w6 [(B24, (.cells #[.float .f32 x0, .float .f32 x1, .float .f32 x2, .float .f32 x3] 92 (0, 0))), (B25, (.cells #[.complex .f32 q0 q1, .complex .f32 q2 q3, .complex .f32 q4 q5, .complex .f32 q6 q7] 95 (0, 0))), (w.heap.size, (.cells #[.int .i64 W, .int .i64 H, .slice (some ⟨b, o, none⟩) n c] 48 (0, 0)))]) := Lib.hid (K6.out.subs fun p hp => by
        rcases List.mem_cons.1 hp with rfl | hp
        · exact .tail _ (.tail _ (.head _))
        · rcases List.mem_cons.1 hp with rfl | hp
          · exact .tail _ (.head _)
          · exact .tail _ (.tail _ (.tail _ hp)))
      clear K6
      go_cut [] (fun wc => Kp w wc [(B24, (.cells #[.float .f32 x0, .float .f32 x1, .float .f32 x2, .float .f32 x3] 92 (0, 0))), (B25, (.cells #[.complex .f32 q0 q1, .complex .f32 q2 q3, .complex .f32 q4 q5, .complex .f32 q6 q7] 95 (0, 0))), (w.heap.size, (.cells #[.int .i64 W, .int .i64 H, .slice (some ⟨b, o, none⟩) n c] 48 (0, 0)))])
      case first =>
        go_wp2_with fail
        go_meet
        exact K7.out
      case rest =>
        rename_i hK
        have K8 := Lib.hid hcut
        clear hcut K7
        refine hK _ _ ?_
        clear hK
        refine bins31 w W H b o n c n0 n1 B24 B25 x0 x1 x2 x3 q0 q1 q2 q3 q4 q5 q6 q7 k0 k1 k2 k3 _ (fun j hj => (HQ.out j hj).2) HP.out _ _ _ _ _ _ _ _ _ _ _ _ _ _ _ _ _ _ _ _ _ _ _ _ _ _ _ _ _ _ _ _ _ _ _ _ _ _ _ _ _ _ _ _ _ _ _ _ _ _ _ _ _ _ _ _ _ _ _ _ _ _ _ _ _ _ _ _ _ _ _ _ _ _ _ _ _ _ _ _ _ _ _ _ _ _ _ _ _ _ _ _ _ _ _ _ _ _ _ _ _ _ _ _ _ _ _ _ _ _ _ _ _ _ _ _ _ _ _ _ _ _ _ _ _ _ _ _ _ _ _ _ _ _ _ _ _ _ _ _ _ _ _ _ _ _ _ _ _ _ _ _ _ _ _ _ _ _ _ _ _ _ _ _ _ _ _ _ _ _ _ _ _ _ _ _ _ _ _ _ _ _ _ _ _ _ _ _ _ _ _ _ _ _ _ _ _ _ _ _ _ _ _ _ _ _ _ _ _ _ _ _ _ _ _ _ _ _ _ _ _ _ _ _ _ _ _ _ _ _ _ _ _ _ _ _ _ _ _ _ _ _ _ _ _ _ _ _ _ _ _ _ _ _ _ _ _ _ _ _ _ _ _ _ _ _ _ _ _ _ _ _ K8.out ?_
        intro w' v29 v30 v31 v32 v33 v233 v234 v235 v236 v237 v238 v239 v240 v241 v242 v243 v244 v245 v246 v247 v248 v249 v250 v251 v252 v253 v254 v255 v256 v257 v258 v259 v260 v261 v262 v263 v264 v265 v266 v267 v268 v269 v270 v271 v272 v273 v274 v275 hk'
        have FK := Lib.hid hk'
        clear hk'
        go_wp2_with fail
        go_roundw
        case rel => exact ⟨i + 4, by omega, by first | rfl | go_num, FK.out⟩
        case measure => simp [intOf]; omega
    · have hle : ¬ ((i + 4 : Nat) : Int) ≤ (n : Int) := by omega
      go_wp2_with (go_at_call 19; with_reducible refine (KW.out _ K1.out.below).mono ?_; rintro e w16 ⟨rfl, hb16⟩)
      (try simp only [Exit.inBlock, Exit.then])
      go_ret
      exact ⟨rfl, hb16⟩
end Go.Proofs.YtfdkmmllemkogaaGreatDoor

/-
  Right maps in memory: their sides, sizes, and the check of the program.
-/

namespace Go.Proofs.YtfdkmmllemkogaaGreatDoor
open Go.RowKit
set_option linter.unusedVariables false
set_option linter.unusedSimpArgs false

theorem RM.sizes {w : World} {W H n b o : Nat} {L : List Int} (h : RM w W H n L b o) : ∀ j, j < n → (L[j]?.getD 0).natAbs ≤ 16384 := by obtain ⟨_, xs, h2⟩ := h; exact h2.sizes
theorem RM.wid {w : World} {W H n b o : Nat} {L : List Int} (h : RM w W H n L b o) : 1 ≤ W ∧ W ≤ 64 := by
  obtain ⟨_, xs, h2⟩ := h
  have := h2.wid
  omega
theorem RM.hei {w : World} {W H n b o : Nat} {L : List Int} (h : RM w W H n L b o) : 1 ≤ H ∧ H ≤ 64 := by
  obtain ⟨_, xs, h2⟩ := h
  have := h2.hei
  omega
theorem RM.small {w : World} {W H n b o : Nat} {L : List Int} (h : RM w W H n L b o) : n ≤ 4096 := by obtain ⟨_, xs, h2⟩ := h; exact h2.small
theorem rm_lightCheck {w : World} {W H n b o : Nat} {L : List Int} (h : RM w W H n L b o) (c : Nat) :
    Calls Tryz.prog 47 #[.agg #[.int .i64 W, .int .i64 H, .slice (some ⟨b, o, none⟩) n c]] w fun e w' => e = .returned (.int .i64 0) ∧ Below w.heap.size w w' := by
  obtain ⟨h1, xs, h2⟩ := h
  exact checkMap_any W H b o n c xs L w h2 h1
end Go.Proofs.YtfdkmmllemkogaaGreatDoor

/-
  Contracts of Peak, of the reference for a right map and of the program for every map.
-/
namespace Go.Proofs.YtfdkmmllemkogaaGreatDoor
open Go.RowKit
set_option linter.unusedVariables false
set_option linter.unusedSimpArgs false

theorem order_gt {x y : Nat} {k l : Int} (hx : Smp x k) (hy : Smp y l) : (Ieee.single.order x y == some .gt) = decide (l < k) := by
  rw [hx.order hy]
  by_cases h : l < k
  · rw [cmp_gt_of h, decide_eq_true h]; rfl
  · rw [decide_eq_false h]
    have : compare k l ≠ .gt := by
      show compareOfLessAndEq _ _ ≠ _
      unfold compareOfLessAndEq
      split
      · simp
      · split
        · simp
        · omega
    cases hc : compare k l <;> simp_all

end Go.Proofs.YtfdkmmllemkogaaGreatDoor

/-
  Two maps without anything are the same; one() of a result with an error.
-/
namespace Go.Proofs.YtfdkmmllemkogaaGreatDoor
open Go.RowKit
set_option linter.unusedVariables false
set_option linter.unusedSimpArgs false

set_option maxHeartbeats 1600000 in
theorem told_any (W H : Int) (a : Option Addr) (n c : Nat) (w : World) : Calls Tryz.prog 97 #[.agg #[.int .i64 W, .int .i64 H, .slice a n c]] w fun e w' => e = .returned (.agg #[.int .i64 W, .int .i64 H, .slice a n c]) ∧ Below w.heap.size w w' := by
  go_enter Tryz.func97, Tryz.ntmps97
  go_wp2
  refine bodyPost_ret (v := .agg #[.int .i64 W, .int .i64 H, .slice a n c]) (by simp [results, Tryz.results97, go_sem]) rfl ⟨rfl, ?_⟩
  exact ((Below.refl _ w).alloc (Nat.le_refl _) _).alloc (by simp) _

end Go.Proofs.YtfdkmmllemkogaaGreatDoor

/-
  Results that are maps: the map that a list of integers makes, or nothing with an error; one() of two such results.
-/

namespace Go.Proofs.YtfdkmmllemkogaaGreatDoor
open Go.RowKit
set_option linter.unusedVariables false
set_option linter.unusedSimpArgs false

/-- The value of a result that is a map: the map with the integers ls if there is no error, else nothing. -/
structure ResV (w : World) (r W H : Int) (ls : List Int) (X Y : Int) (a : Option Addr) (n c : Nat) : Prop where
  bad : r ≠ 0 → X = 0 ∧ Y = 0 ∧ a = none ∧ n = 0 ∧ c = 0
  ok : r = 0 → X = W ∧ Y = H ∧ ls.length = n ∧ n ≤ 4096 ∧ (∀ j, j < n → (ls[j]?.getD 0).natAbs ≤ 16384) ∧
    ∃ g, a = some ⟨g, 0, none⟩ ∧ g < w.heap.size ∧ ∀ j, j < n → w.cell? ⟨g, j, none⟩ = some (.float .f32 (smpOf (ls[j]?.getD 0)))
theorem ResV.kept {w w' : World} {r W H : Int} {ls : List Int} {X Y : Int} {a : Option Addr} {n c : Nat} (h : ResV w r W H ls X Y a n c) (hb : Below w.heap.size w w') : ResV w' r W H ls X Y a n c :=
  ⟨h.bad, fun h0 => by
    obtain ⟨h1, h2, h3, h4, h5, g, h6, h7, h8⟩ := h.ok h0
    exact ⟨h1, h2, h3, h4, h5, g, h6, Nat.lt_of_lt_of_le h7 hb.size, fun j hj => (hb.cell (p := ⟨g, j, none⟩) h7).trans (h8 j hj)⟩⟩
theorem ResV.none (w : World) (r W H : Int) (ls : List Int) (h : r ≠ 0) : ResV w r W H ls 0 0 none 0 0 :=
  ⟨fun _ => ⟨rfl, rfl, rfl, rfl, rfl⟩, fun h0 => absurd h0 h⟩
theorem ResV.some {w : World} {W H : Int} {ls : List Int} {g n c : Nat} (hl : ls.length = n) (hn : n ≤ 4096) (hs : ∀ j, j < n → (ls[j]?.getD 0).natAbs ≤ 16384) (hg : g < w.heap.size) (hc : ∀ j, j < n → w.cell? ⟨g, j, Option.none⟩ = Option.some (.float .f32 (smpOf (ls[j]?.getD 0)))) :
    ResV w 0 W H ls W H (Option.some ⟨g, 0, Option.none⟩) n c :=
  ⟨fun h => absurd rfl h, fun _ => ⟨rfl, rfl, hl, hn, hs, g, rfl, hg, hc⟩⟩

end Go.Proofs.YtfdkmmllemkogaaGreatDoor

/-
  Variables that hold maps: what a store of a map into one of them keeps.
-/

namespace Go.Proofs.YtfdkmmllemkogaaGreatDoor
open Go.RowKit
set_option linter.unusedVariables false
set_option linter.unusedSimpArgs false

/-- A world in which one block alone is another one. -/
structure OneBlk (w w' : World) (B : Nat) : Prop where
  other : ∀ k, k ≠ B → w'.heap[k]? = w.heap[k]?
  size : w'.heap.size = w.heap.size
theorem OneBlk.set3 (w : World) (B : Nat) (x y z : Value) : OneBlk w (((w.setCell ⟨B, 0, none⟩ x).setCell ⟨B, 1, none⟩ y).setCell ⟨B, 2, none⟩ z) B :=
  ⟨fun k hk => by simp [World.setCell, Array.getElem?_modify, Ne.symm hk], by simp⟩
theorem below_set3 {w w0 : World} {N B : Nat} (h : Below N w0 w) (hB : N ≤ B) (x y z : Value) : Below N w0 (((w.setCell ⟨B, 0, none⟩ x).setCell ⟨B, 1, none⟩ y).setCell ⟨B, 2, none⟩ z) :=
  ((h.setCell (p := ⟨B, 0, none⟩) hB _).setCell (p := ⟨B, 1, none⟩) hB _).setCell (p := ⟨B, 2, none⟩) hB _

/-- A result stays where a variable that holds a map is written. -/
theorem ResV.stored {w w' : World} {B : Nat} {x y : Int} {s : Value} {T : TypeId} (hB : w.heap[B]? = Option.some (.cells #[.int .i64 x, .int .i64 y, s] T (0, 0))) (ho : OneBlk w w' B) {r W H : Int} {ls : List Int} {X Y : Int} {a : Option Addr} {n c : Nat}
    (h : ResV w r W H ls X Y a n c) : ResV w' r W H ls X Y a n c :=
  ⟨h.bad, fun h0 => by
    obtain ⟨h1, h2, h3, h4, h5, g, h6, h7, h8⟩ := h.ok h0
    refine ⟨h1, h2, h3, h4, h5, g, h6, by rw [ho.size]; exact h7, fun j hj => ?_⟩
    by_cases hg : g = B
    · subst hg
      have h9 := h8 0 (by omega)
      rw [cell_of_row w g 0 _ _ (0, 0) hB] at h9
      simp at h9
    · rw [World.cell?_of_block (ho.other g hg)]
      exact h8 j hj⟩

/-- A variable that holds a result. -/
def ResBox (w : World) (B : Nat) (T : TypeId) (r W H : Int) (ls : List Int) : Prop :=
  ∃ X Y a n c, w.heap[B]? = some (.cells #[.int .i64 X, .int .i64 Y, .slice a n c] T (0, 0)) ∧ ResV w r W H ls X Y a n c
theorem ResBox.kept {w w' : World} {B : Nat} {T : TypeId} {r W H : Int} {ls : List Int} (h : ResBox w B T r W H ls) (hb : Below w.heap.size w w') : ResBox w' B T r W H ls := by
  obtain ⟨X, Y, a, n, c, h1, h2⟩ := h
  exact ⟨_, _, _, _, _, (hb.block _ (lt_of_blk h1)).trans h1, h2.kept hb⟩
theorem ResBox.new {w : World} {T : TypeId} {r W H : Int} {ls : List Int} {X Y : Int} {a : Option Addr} {n c : Nat} (h : ResV w r W H ls X Y a n c) : ResBox (w.alloc (.cells #[.int .i64 X, .int .i64 Y, .slice a n c] T)) w.heap.size T r W H ls :=
  ⟨_, _, _, _, _, blk_alloc_new _ _, h.kept ((Below.refl _ _).alloc (Nat.le_refl _) _)⟩

theorem ResBox.put {w : World} {B : Nat} {T : TypeId} {x y : Int} {s : Value} (hB : w.heap[B]? = some (.cells #[.int .i64 x, .int .i64 y, s] T (0, 0))) {r W H : Int} {ls : List Int} {X Y : Int} {a : Option Addr} {n c : Nat}
    (h : ResV w r W H ls X Y a n c) : ResBox (((w.setCell ⟨B, 0, none⟩ (.int .i64 X)).setCell ⟨B, 1, none⟩ (.int .i64 Y)).setCell ⟨B, 2, none⟩ (.slice a n c)) B T r W H ls :=
  ⟨_, _, _, _, _, blk_set3 hB _ _ _, h.stored hB (OneBlk.set3 w B _ _ _)⟩

/-- A variable of the reference that holds what a result must be, where there is no error. -/
def WantBox (w : World) (B : Nat) (r W H : Int) (ls : List Int) : Prop :=
  ∃ X Y a n c, w.heap[B]? = some (.cells #[.int .i64 X, .int .i64 Y, .slice a n c] 48 (0, 0)) ∧ (r = 0 → ResV w r W H ls X Y a n c)
theorem WantBox.kept {w w' : World} {B : Nat} {r W H : Int} {ls : List Int} (h : WantBox w B r W H ls) (hb : Below w.heap.size w w') : WantBox w' B r W H ls := by
  obtain ⟨X, Y, a, n, c, h1, h2⟩ := h
  exact ⟨_, _, _, _, _, (hb.block _ (lt_of_blk h1)).trans h1, fun h0 => (h2 h0).kept hb⟩
theorem WantBox.zero {w : World} {B : Nat} {r W H : Int} {ls : List Int} (h : w.heap[B]? = some (.cells #[.int .i64 0, .int .i64 0, .slice none 0 0] 48 (0, 0))) (hr : r ≠ 0) : WantBox w B r W H ls :=
  ⟨0, 0, none, 0, 0, h, fun h0 => absurd h0 hr⟩
/-- Another variable is written. -/
theorem WantBox.stored {w w' : World} {B B' : Nat} {x y : Int} {s : Value} {T : TypeId} (hB : w.heap[B]? = some (.cells #[.int .i64 x, .int .i64 y, s] T (0, 0))) (ho : OneBlk w w' B) (hne : B' ≠ B) {r W H : Int} {ls : List Int}
    (h : WantBox w B' r W H ls) : WantBox w' B' r W H ls := by
  obtain ⟨X, Y, a, n, c, h1, h2⟩ := h
  exact ⟨_, _, _, _, _, (ho.other _ hne).trans h1, fun h0 => (h2 h0).stored hB ho⟩
/-- The variable itself is written. -/
theorem WantBox.put {w : World} {B : Nat} {x y : Int} {s : Value} (hB : w.heap[B]? = some (.cells #[.int .i64 x, .int .i64 y, s] 48 (0, 0))) {r W H : Int} {ls : List Int} {X Y : Int} {a : Option Addr} {n c : Nat}
    (h : r = 0 → ResV w r W H ls X Y a n c) : WantBox (((w.setCell ⟨B, 0, none⟩ (.int .i64 X)).setCell ⟨B, 1, none⟩ (.int .i64 Y)).setCell ⟨B, 2, none⟩ (.slice a n c)) B r W H ls :=
  ⟨_, _, _, _, _, blk_set3 hB _ _ _, fun h0 => (h h0).stored hB (OneBlk.set3 w B _ _ _)⟩
end Go.Proofs.YtfdkmmllemkogaaGreatDoor

/-
  Binned where the shape does not fit.
-/

namespace Go.Proofs.YtfdkmmllemkogaaGreatDoor
open Go.RowKit
set_option linter.unusedVariables false
set_option linter.unusedSimpArgs false

theorem emod_in (x s : Int) (hx : 1 ≤ x ∧ x ≤ 64) (hs : 1 ≤ s ∧ s ≤ 64) : IntKind.i64.wrap (x % s) = x % s := by
  have h1 := Int.emod_nonneg x (show s ≠ 0 by omega)
  have h2 := Int.emod_lt_of_pos x (show 0 < s by omega)
  exact IntWalk.i64_in _ ⟨by omega, by omega⟩
set_option maxRecDepth 100000 in
set_option maxHeartbeats 6400000 in
theorem binned_shape (W H : Int) (a : Option Addr) (n c : Nat) (step : Int) (r1 r : Int) (hr : firstNZ [r1, rangeErr step 1 64] = r) (hr0 : r = 0) (hww : 1 ≤ W ∧ W ≤ 64) (hhh : 1 ≤ H ∧ H ≤ 64) (hss : 1 ≤ step ∧ step ≤ 64) (hne : ¬ (W % step = 0 ∧ H % step = 0)) (w : World)
    (hC : ∀ w1 : World, Below w.heap.size w w1 → Calls Tryz.prog 47 #[.agg #[.int .i64 W, .int .i64 H, .slice a n c]] w1 fun e w' => e = .returned (.int .i64 r1) ∧ Below w1.heap.size w1 w') :
    Calls Tryz.prog 64 #[.agg #[.int .i64 W, .int .i64 H, .slice a n c], .int .i64 step] w fun e w' =>
      e = .returned (.tuple #[.agg #[.int .i64 0, .int .i64 0, .slice none 0 0], .int .i64 2]) ∧ Below w.heap.size w w' := by
  obtain ⟨W0, hW0⟩ : ∃ W0, (((w.alloc (.cells #[.int .i64 W, .int .i64 H, .slice a n c] 54)).alloc (.cells #[.int .i64 step] 3)).alloc (.cells #[.int .i64 0, .int .i64 0, .slice none 0 0] 54)) = W0 := ⟨_, rfl⟩
  have hB0 : Below w.heap.size w W0 := by rw [← hW0]; exact ((((Below.refl _ w).alloc (Nat.le_refl _) _).alloc (by simp) _).alloc (by simp <;> omega) _)
  have hS0 : W0.heap.size = w.heap.size + 3 := by rw [← hW0]; simp
  have b0c0 : W0.cell? ⟨w.heap.size, 0, none⟩ = some (.int .i64 W) := by rw [← hW0]; simp [go_sem]
  have b0c1 : W0.cell? ⟨w.heap.size, 1, none⟩ = some (.int .i64 H) := by rw [← hW0]; simp [go_sem]
  have b0c2 : W0.cell? ⟨w.heap.size, 2, none⟩ = some (.slice a n c) := by rw [← hW0]; simp [go_sem]
  have b1c0 : W0.cell? ⟨w.heap.size + 1, 0, none⟩ = some (.int .i64 step) := by rw [← hW0]; simp [go_sem]
  have bz0 : W0.heap[w.heap.size + 1 + 1]? = some (.cells #[.int .i64 0, .int .i64 0, .slice none 0 0] 54 (0, 0)) := by rw [← hW0]; have h := blk_alloc_new ((w.alloc (.cells #[.int .i64 W, .int .i64 H, .slice a n c] 54)).alloc (.cells #[.int .i64 step] 3)) (.cells #[.int .i64 0, .int .i64 0, .slice none 0 0] 54); simpa using h
  have HB0 := Lib.hid hB0
  have HS0 := Lib.hid hS0
  have HZB := Lib.hid bz0
  have HR := Lib.hid hr
  have HKA : Hid (∀ w1 : World, Blw (w.heap.size + 3) W0 w1 → Calls Tryz.prog 47 #[.agg #[.int .i64 W, .int .i64 H, .slice a n c]] w1 fun e w' => e = .returned (.int .i64 r1) ∧ Below (w.heap.size + 3) W0 w') := Lib.hid fun w1 (h : Below (w.heap.size + 3) W0 w1) => by
    have h1 := h.size
    exact (hC w1 (hB0.trans (h.mono (by omega)))).mono fun e w' ⟨he, hw⟩ => ⟨he, h.trans (hw.mono (by omega))⟩
  have hR : Blw (w.heap.size + 3) W0 W0.drew := show Below _ _ _ from (Below.refl (w.heap.size + 3) W0).drew
  clear hr hC hB0 bz0
  go_enter Tryz.func64, Tryz.ntmps64
  go_upto_region 1 with fail
  try rw [hW0]
  clear hW0
  go_region_held3 (fun w' => w'.cell? ⟨w.heap.size, 0, none⟩ = some (.int .i64 W) ∧ w'.cell? ⟨w.heap.size, 1, none⟩ = some (.int .i64 H) ∧ w'.cell? ⟨w.heap.size, 2, none⟩ = some (.slice a n c) ∧ w'.cell? ⟨w.heap.size + 1, 0, none⟩ = some (.int .i64 step) ∧ Blw (w.heap.size + 3) W0 w')
    (first
      | (go_split_ands; refine ⟨?_, ?_, ?_, ?_, ?_⟩ <;> first | assumption | exact hb1 | ((rw [hb1.cell (by simp; try omega)]; assumption)))
      | (go_split_ands; refine ⟨?_, ?_, ?_, ?_, ?_⟩ <;> first | ((rw [(hb1.alloc (by have := hb1.size; have := HS0.out; omega) _).cell (by simp; try omega)]; assumption)) | exact (hb1.alloc (by have := hb1.size; have := HS0.out; omega) _ : Below _ _ _))
      | go_keep)
    (first
      | (go_at_call 47; refine (HKA.out _ ?_).mono ?_; rotate_left 1; rintro e w' ⟨rfl, hb1⟩; rotate_left 1; (simp [*]))
      | (go_at_call 129; refine (checkSide_any _ _).mono ?_; rintro e w9 ⟨rfl, rfl⟩)
      | ((go_at_call 109; refine (first_any _ 0 2 2 [r1, rangeErr step 1 64] rfl (by omega) _ ?_).mono ?_; rotate_left 1; rintro e w' ⟨rfl, rfl⟩; rw [HR.out]; rotate_left 1; (intro j hj; match j, hj with | 0, _ => simp [go_sem] | 1, _ => simp [go_sem]))))
  obtain ⟨W1, hW1⟩ : ∃ W1, w'.alloc (.cells #[.int .i64 r1, .int .i64 (rangeErr step 1 64)] 26) = W1 := ⟨_, rfl⟩
  have hb3 : Below (w.heap.size + 3) W0 W1 := by rw [← hW1]; exact hb1.alloc (by have := hb1.size; have := HS0.out; omega) _
  rw [hW1]
  clear hW1 hb1
  have hHS := HS0.out
  have u0 := (hb3.cell (p := ⟨w.heap.size, 0, none⟩) (by show w.heap.size < _; omega)).trans b0c0
  have u1 := (hb3.cell (p := ⟨w.heap.size, 1, none⟩) (by show w.heap.size < _; omega)).trans b0c1
  have u2 := (hb3.cell (p := ⟨w.heap.size + 1, 0, none⟩) (by show w.heap.size + 1 < _; omega)).trans b1c0
  have bP := (hb3.block (w.heap.size + 1 + 1) (by omega)).trans HZB.out
  have q0 : W1.frozen? ⟨w.heap.size + 1 + 1, 0, none⟩ = false := by simp [World.frozen?, bP]
  have q1 : W1.frozen? ⟨w.heap.size + 1 + 1, 1, none⟩ = false := by simp [World.frozen?, bP]
  have q2 : W1.frozen? ⟨w.heap.size + 1 + 1, 2, none⟩ = false := by simp [World.frozen?, bP]
  have p0 : W1.cell? ⟨w.heap.size + 1 + 1, 0, none⟩ = some (.int .i64 0) := by rw [cell_of_row W1 _ 0 _ _ (0, 0) bP]; rfl
  have p1 : W1.cell? ⟨w.heap.size + 1 + 1, 1, none⟩ = some (.int .i64 0) := by rw [cell_of_row W1 _ 1 _ _ (0, 0) bP]; rfl
  have p2 : W1.cell? ⟨w.heap.size + 1 + 1, 2, none⟩ = some (.slice none 0 0) := by rw [cell_of_row W1 _ 2 _ _ (0, 0) bP]; rfl
  have HBP := Lib.hid bP
  clear bP
  subst hr0
  have hz : ¬ (step = 0) := by omega
  have hz1 : (step == 0) = false := by simp [hz]
  by_cases h1 : W % step = 0
  · have h2 : H % step ≠ 0 := fun h => hne ⟨h1, h⟩
    have e0 : (W % step != 0) = false := by simp [h1]
    have e1 : (H % step != 0) = true := by simp [h2]
    have w1 : IntKind.i64.wrap (W % step) = W % step := by rw [h1]; rfl
    have w2 : IntKind.i64.wrap (H % step) = H % step := emod_in _ _ hhh (by omega)
    clear h1 h2 hne
    go_wp2_with fail
    obtain ⟨WF, hWF⟩ : ∃ WF, (((W1.setCell ⟨w.heap.size + 1 + 1, 0, none⟩ (.int .i64 0)).setCell ⟨w.heap.size + 1 + 1, 1, none⟩ (.int .i64 0)).setCell ⟨w.heap.size + 1 + 1, 2, none⟩ (.slice none 0 0)) = WF := ⟨_, rfl⟩
    have rF : WF.heap[w.heap.size + 1 + 1]? = some (.cells #[.int .i64 0, .int .i64 0, .slice none 0 0] 54 (0, 0)) := by rw [← hWF]; exact blk_set3 HBP.out _ _ _
    have bF : Below w.heap.size w WF := by rw [← hWF]; exact below_set3 (HB0.out.trans (hb3.mono (by omega))) (by omega) _ _ _
    rw [hWF]
    exact bodyPost_ret (v := .tuple #[.agg #[.int .i64 0, .int .i64 0, .slice none 0 0], .int .i64 2]) (results_row_tmp Tryz.results64 _ _ (w.heap.size + 1 + 1) 54 _ (0, 0) _ rfl rF Tryz.underlying54 rfl (by kernel_rfl)) rfl ⟨rfl, bF⟩
  · have e0 : (W % step != 0) = true := by simp [h1]
    have w1 : IntKind.i64.wrap (W % step) = W % step := emod_in _ _ hww (by omega)
    clear h1 hne
    go_wp2_with fail
    obtain ⟨WF, hWF⟩ : ∃ WF, (((W1.setCell ⟨w.heap.size + 1 + 1, 0, none⟩ (.int .i64 0)).setCell ⟨w.heap.size + 1 + 1, 1, none⟩ (.int .i64 0)).setCell ⟨w.heap.size + 1 + 1, 2, none⟩ (.slice none 0 0)) = WF := ⟨_, rfl⟩
    have rF : WF.heap[w.heap.size + 1 + 1]? = some (.cells #[.int .i64 0, .int .i64 0, .slice none 0 0] 54 (0, 0)) := by rw [← hWF]; exact blk_set3 HBP.out _ _ _
    have bF : Below w.heap.size w WF := by rw [← hWF]; exact below_set3 (HB0.out.trans (hb3.mono (by omega))) (by omega) _ _ _
    rw [hWF]
    exact bodyPost_ret (v := .tuple #[.agg #[.int .i64 0, .int .i64 0, .slice none 0 0], .int .i64 2]) (results_row_tmp Tryz.results64 _ _ (w.heap.size + 1 + 1) 54 _ (0, 0) _ rfl rF Tryz.underlying54 rfl (by kernel_rfl)) rfl ⟨rfl, bF⟩
end Go.Proofs.YtfdkmmllemkogaaGreatDoor

/-
  LightBins: what Scaled and Binned make of right maps in memory, by their integers.
-/

namespace Go.Proofs.YtfdkmmllemkogaaGreatDoor
open Go.RowKit Go.Shelf
set_option linter.unusedVariables false
set_option linter.unusedSimpArgs false

theorem kp_set3 {w w1 : World} {l : List (Nat × Obj)} (h : Kp w w1 l) {x y z : Value} {T : TypeId} (a b c : Value) :
    Kp w ((((w1.alloc (.cells #[x, y, z] T)).setCell ⟨w1.heap.size, 0, none⟩ a).setCell ⟨w1.heap.size, 1, none⟩ b).setCell ⟨w1.heap.size, 2, none⟩ c) ((w1.heap.size, .cells #[a, b, c] T (0, 0)) :: l) := by
  have hs : w.heap.size ≤ w1.heap.size := h.1.size
  have k := h.alloc (.cells #[x, y, z] T)
  refine ⟨((k.1.setCell (p := ⟨w1.heap.size, 0, none⟩) hs _).setCell (p := ⟨w1.heap.size, 1, none⟩) hs _).setCell (p := ⟨w1.heap.size, 2, none⟩) hs _, fun p hp => ?_⟩
  rcases List.mem_cons.1 hp with rfl | hp
  · exact blk_set3 (blk_alloc_new _ _) _ _ _
  · have hne : p.1 ≠ w1.heap.size := by have := lt_of_blk (h.2 p hp); omega
    refine (Below.heap_setCell _ _ _ _ hne).trans ((Below.heap_setCell _ _ _ _ hne).trans ((Below.heap_setCell _ _ _ _ hne).trans (k.2 p (.tail _ hp))))
theorem below_new3 {w1 : World} {x y z : Value} {T : TypeId} (a b c : Value) : Below w1.heap.size w1 ((((w1.alloc (.cells #[x, y, z] T)).setCell ⟨w1.heap.size, 0, none⟩ a).setCell ⟨w1.heap.size, 1, none⟩ b).setCell ⟨w1.heap.size, 2, none⟩ c) :=
  ((((Below.refl _ w1).alloc (Nat.le_refl _) _).setCell (p := ⟨w1.heap.size, 0, none⟩) (Nat.le_refl _) _).setCell (p := ⟨w1.heap.size, 1, none⟩) (Nat.le_refl _) _).setCell (p := ⟨w1.heap.size, 2, none⟩) (Nat.le_refl _) _

/-- The integers of a map that is scaled. -/
def scaleK (num den : Int) (L : List Int) : List Int := L.map fun k => roundK (k * num) den
theorem scaleK_get {num den : Int} {L : List Int} {j : Nat} (hj : j < L.length) : (scaleK num den L)[j]?.getD 0 = roundK (L[j]?.getD 0 * num) den := by
  unfold scaleK; rw [List.getElem?_map, List.getElem?_eq_getElem hj]; rfl
theorem round3 (k : Int) : roundK (k * 3) 1 = 3 * k := by unfold roundK; omega
theorem round13 (k : Int) : roundK (3 * k * 1) 3 = k := by unfold roundK; omega
theorem scaleK_back (L : List Int) : scaleK 1 3 (scaleK 3 1 L) = L := by
  unfold scaleK
  rw [List.map_map]
  refine (List.map_congr_left fun k _ => ?_).trans (List.map_id L)
  show roundK (roundK (k * 3) 1 * 1) 3 = k
  rw [round3, round13]
theorem rm_scaled {w : World} {W H n b o : Nat} {L : List Int} (h : RM w W H n L b o) (c : Nat) (num den : Int) (hnum : -1000 ≤ num ∧ num ≤ 1000) (hden : 1 ≤ den ∧ den ≤ 1000) (hs : ∀ j, j < n → (roundK (L[j]?.getD 0 * num) den).natAbs ≤ 16384) :
    GivesMap 62 #[.agg #[.int .i64 W, .int .i64 H, .slice (some ⟨b, o, none⟩) n c], .int .i64 num, .int .i64 den] w W H n (scaleK num den L) := by
  have ha := h.area
  have hl := h.len
  obtain ⟨h1, xs, h2⟩ := h
  have hw := h2.wid
  have hh := h2.hei
  refine (scaled_any W H num den hnum hden b o c n xs L w h2 h1 hs).mono ?_
  rintro e w' ⟨g, he, hg, hc, hb⟩
  refine ⟨g, he, RM.of_cells (by unfold scaleK; rw [List.length_map]; exact hl) h2.small (fun j hj => ?_) (by omega) (by omega) ha hg (fun j hj => ?_), hb⟩
  · rw [scaleK_get (by omega)]; exact hs j hj
  · rw [scaleK_get (by omega)]; exact hc j hj

/-- The error of Binned of a right map by a right step. -/
def binR (W H s : Nat) : Int := if W % s = 0 ∧ H % s = 0 then 0 else 2
theorem binR_cases (W H s : Nat) : binR W H s = 0 ∨ binR W H s = 2 := by
  unfold binR; split
  · exact .inl rfl
  · exact .inr rfl
theorem binR_zero {W H s : Nat} (h : binR W H s = 0) : W % s = 0 ∧ H % s = 0 := by
  unfold binR at h; split at h
  · assumption
  · cases h
theorem binR_two {W H a b : Nat} (h : W % a = 0 ∧ H % a = 0) (ha : 1 ≤ a) : binR (W / a) (H / a) b = binR W H (a * b) := by
  have e : ∀ X : Nat, X % a = 0 → (X / a % b = 0 ↔ X % (a * b) = 0) := fun X hX => by
    have e1 : a * (X / a) = X := by have := Nat.div_add_mod X a; omega
    have e2 := Nat.mul_mod_mul_left a (X / a) b
    rw [e1] at e2
    rw [e2]
    constructor
    · intro h; rw [h, Nat.mul_zero]
    · intro h
      rcases Nat.mul_eq_zero.1 h with h | h
      · omega
      · exact h
  unfold binR
  simp only [e W h.1, e H h.2]
theorem rm_binned {w : World} {W H n b o : Nat} {L : List Int} (h : RM w W H n L b o) (c : Nat) (s : Nat) (hs : 1 ≤ s ∧ s ≤ 64) (hsz : W % s = 0 ∧ H % s = 0 → ∀ X Y : Nat, (binTo W L s X Y (placesTo s (s * s))).natAbs ≤ 16384) :
    Calls Tryz.prog 64 #[.agg #[.int .i64 W, .int .i64 H, .slice (some ⟨b, o, none⟩) n c], .int .i64 s] w fun e w' =>
      ∃ X Y a' n' c', e = .returned (.tuple #[.agg #[.int .i64 X, .int .i64 Y, .slice a' n' c'], .int .i64 (binR W H s)]) ∧ ResV w' (binR W H s) ((W / s : Nat) : Int) ((H / s : Nat) : Int) (binK W s (W / s) (H / s) L) X Y a' n' c' ∧ Below w.heap.size w w' := by
  by_cases hd : W % s = 0 ∧ H % s = 0
  · have hz := hsz hd
    have e : binR W H s = 0 := by unfold binR; rw [if_pos hd]
    rw [e]
    have eW : W / s * s = W := by have := Nat.div_add_mod W s; rw [Nat.mul_comm]; omega
    have eH : H / s * s = H := by have := Nat.div_add_mod H s; rw [Nat.mul_comm]; omega
    have hw := h.wid
    have hh := h.hei
    obtain ⟨h1, xs, h2⟩ := h
    have hz2 : ∀ j, j < W / s * (H / s) → ((binK W s (W / s) (H / s) L)[j]?.getD 0).natAbs ≤ 16384 := fun j hj => by rw [binK_get hj]; exact hz _ _
    refine (binned_any W H s (W / s) (H / s) hs.1 hs.2 eW eH b o c n xs L w h2 h1 (fun p => hz p.1 p.2)).mono ?_
    rintro e w' ⟨g, rfl, hg, hc, hb⟩
    refine ⟨_, _, _, _, _, rfl, ResV.some (binK_len ..) (Nat.le_trans (Nat.mul_le_mul (Nat.le_trans (Nat.div_le_self W s) hw.2) (Nat.le_trans (Nat.div_le_self H s) hh.2)) (by decide)) hz2 hg (fun j hj => by rw [binK_get hj]; exact hc j hj), hb⟩
  · have e : binR W H s = 2 := by unfold binR; rw [if_neg hd]
    rw [e]
    have hw := h.wid
    have hh := h.hei
    refine (binned_shape (W : Int) (H : Int) (some ⟨b, o, none⟩) n c (s : Int) 0 0 ?_ rfl (by omega) (by omega) (by omega) (fun hc => hd (by omega)) w (fun w1 hw1 => ?_)).mono ?_
    · rw [rangeErr_in (by omega) (by omega)]; rfl
    · exact rm_lightCheck (h.kept hw1) c
    · rintro e w' ⟨rfl, hb⟩
      exact ⟨0, 0, none, 0, 0, rfl, ResV.none _ _ _ _ _ (by decide), hb⟩
/-- The sums of a bin of a map of at most 160 samples. -/
theorem binTo_small {W s M : Nat} {L : List Int} (hs : 1 ≤ s) (h : ∀ j : Nat, (L[j]?.getD 0 : Int).natAbs ≤ M) (X Y : Nat) : (binTo W L s X Y (placesTo s (s * s))).natAbs ≤ s * (s * M) := by
  rw [binTo_sum2 _ _ hs]
  exact sumTo_bd fun y _ => sumTo_bd fun x _ => h _
theorem side_sq {W H n s : Nat} (hn : H * W = n) (hW : 1 ≤ W) (hH : 1 ≤ H) (hd : W % s = 0 ∧ H % s = 0) : s * s ≤ n := by
  have h1 : s ≤ W := Nat.le_of_dvd hW (Nat.dvd_of_mod_eq_zero hd.1)
  have h2 : s ≤ H := Nat.le_of_dvd hH (Nat.dvd_of_mod_eq_zero hd.2)
  rw [← hn]
  exact Nat.mul_le_mul h2 h1
theorem bin_small {W H n s M : Nat} {L : List Int} (hl : L.length = n) (hn : H * W = n) (hW : 1 ≤ W) (hH : 1 ≤ H) (hs : 1 ≤ s) (hM : ∀ j, j < n → (L[j]?.getD 0).natAbs ≤ M) (hd : W % s = 0 ∧ H % s = 0) (X Y : Nat) : (binTo W L s X Y (placesTo s (s * s))).natAbs ≤ n * M := by
  refine Nat.le_trans (binTo_small hs (bd_all hl hM) X Y) ?_
  rw [← Nat.mul_assoc]
  exact Nat.mul_le_mul_right _ (side_sq hn hW hH hd)
end Go.Proofs.YtfdkmmllemkogaaGreatDoor

/-
  LightBins: its walk from the light of the binned map on, as far as the samples.
-/
namespace Go.Proofs.YtfdkmmllemkogaaGreatDoor
open Go.RowKit Go.Shelf
set_option linter.unusedVariables false
set_option linter.unusedSimpArgs false

theorem ResV.rm {w : World} {W H N : Nat} {L : List Int} {X Y : Int} {a : Option Addr} {n c : Nat} (h : ResV w 0 (W : Int) (H : Int) L X Y a n c) (hl : L.length = N) (hN : H * W = N) (hW : 1 ≤ W ∧ W ≤ 64) (hH : 1 ≤ H ∧ H ≤ 64) :
    ∃ g, X = W ∧ Y = H ∧ a = Option.some ⟨g, 0, Option.none⟩ ∧ n = N ∧ RM w W H N L g 0 := by
  obtain ⟨rfl, rfl, h3, h4, h5, g, rfl, h7, h8⟩ := h.ok rfl
  obtain rfl : n = N := by omega
  exact ⟨g, rfl, rfl, rfl, rfl, RM.of_cells h3 h4 h5 hW hH hN h7 h8⟩
theorem ResV.list {w : World} {r W H : Int} {L M : List Int} {X Y : Int} {a : Option Addr} {n c : Nat} (h : ResV w r W H L X Y a n c) (he : r = 0 → L = M) : ResV w r W H M X Y a n c :=
  ⟨h.bad, fun h0 => by rw [← he h0]; exact h.ok h0⟩
/-- Binning what was binned. -/
theorem rm_binned2 {w : World} {W H n g A Bc N : Nat} {ks : List Int} (hl : ks.length = n) (hn : H * W = n) (hW : 1 ≤ W ∧ W ≤ 64) (hH : 1 ≤ H ∧ H ≤ 64) (hA : 1 ≤ A) (hB : 1 ≤ Bc ∧ Bc ≤ 64) (hd : W % A = 0 ∧ H % A = 0) (hs : ∀ j, j < n → (ks[j]?.getD 0).natAbs ≤ 96) (h160 : n ≤ 160)
    (h : RM w (W / A) (H / A) N (binK W A (W / A) (H / A) ks) g 0) (c : Nat) :
    Calls Tryz.prog 64 #[.agg #[.int .i64 (W / A : Nat), .int .i64 (H / A : Nat), .slice (some ⟨g, 0, none⟩) N c], .int .i64 Bc] w fun e w' =>
      ∃ X Y a' n' c', e = .returned (.tuple #[.agg #[.int .i64 X, .int .i64 Y, .slice a' n' c'], .int .i64 (binR W H (A * Bc))]) ∧ ResV w' (binR W H (A * Bc)) ((W / (A * Bc) : Nat) : Int) ((H / (A * Bc) : Nat) : Int) (binK W (A * Bc) (W / (A * Bc)) (H / (A * Bc)) ks) X Y a' n' c' ∧ Below w.heap.size w w' := by
  have e1 := binR_two (b := Bc) hd hA
  have dW : W / A / Bc = W / (A * Bc) := Nat.div_div_eq_div_mul ..
  have dH : H / A / Bc = H / (A * Bc) := Nat.div_div_eq_div_mul ..
  have e2 : W / A % Bc = 0 ∧ H / A % Bc = 0 → binK (W / A) Bc (W / (A * Bc)) (H / (A * Bc)) (binK W A (W / A) (H / A) ks) = binK W (A * Bc) (W / (A * Bc)) (H / (A * Bc)) ks := fun h2 => by
    refine binK_two hA hB.1 ?_ ?_
    · rw [← dW]; exact Nat.div_mul_cancel (Nat.dvd_of_mod_eq_zero h2.1)
    · rw [← dH]; exact Nat.div_mul_cancel (Nat.dvd_of_mod_eq_zero h2.2)
  have k := rm_binned h c Bc hB (fun h2 X Y => by
    have h3 : binR (W / A) (H / A) Bc = 0 := by unfold binR; rw [if_pos h2]
    rw [e1] at h3
    have h4 := side_sq hn hW.1 hH.1 (binR_zero h3)
    have h5 := binK_bd (W := W) (WW := W / A) (HH := H / A) hA (bd_all hl hs)
    have h6 := binTo_small (W := W / A) hB.1 (bd_all (binK_len W A (W / A) (H / A) ks) h5) X Y
    have e5 : Bc * (Bc * (A * (A * 96))) = A * Bc * (A * Bc) * 96 := by
      ac_rfl
    rw [e5] at h6
    exact Nat.le_trans h6 (Nat.le_trans (Nat.mul_le_mul_right _ h4) (by omega)))
  rw [dW, dH, e1] at k
  refine k.mono ?_
  rintro e w' ⟨X, Y, a', n', c', he, hv, hb⟩
  refine ⟨X, Y, a', n', c', he, hv.list fun h0 => ?_, hb⟩
  rw [← e1] at h0
  exact e2 (binR_zero h0)

set_option maxRecDepth 1000000 in
set_option maxHeartbeats 25600000 in
theorem bins18 (w : World) (W H b o n c : Nat) (ks : List Int) (hR : RM w W H n ks b o) (hsz : ∀ j, j < n → (ks[j]?.getD 0).natAbs ≤ 96) (h160 : n ≤ 160) (n0 n1 : Int) (A Bc : Nat) (hA : 1 ≤ A ∧ A ≤ 4) (hB : 1 ≤ Bc ∧ Bc ≤ 4) (hd : W % A = 0 ∧ H % A = 0) (tt : Int) (htt : ks.sum = tt) (B15 g15 N c15 : Nat) (XW XH : Nat) (hXW : W / A = XW) (hXH : H / A = XH) (wr : World)
    (hX : RM wr XW XH N (binK W A XW XH ks) g15 0) (Q : Exit → Act → World → Prop) (u4 u8 u9 u10 u11 u12 u13 u14 u16 u17 u18 u19 u20 u21 u22 u23 u24 u25 u26 u27 u28 u29 u30 u31 u32 u33 u34 u35 u36 u37 u38 u39 u40 u41 u42 u43 u44 u45 u46 u47 u48 u49 u50 u51 u52 u53 u54 u55 u56 u57 u58 u59 u60 u61 u62 u63 u64 u65 u66 u67 u68 u69 u70 u71 u72 u73 u74 u75 u76 u77 u78 u79 u80 u81 u82 u83 u84 u85 u86 u87 u88 u89 u90 u91 u92 u93 u94 u95 u96 u97 u98 u99 u100 u101 u102 u103 u104 u105 u106 u107 u108 u109 u110 u111 u112 u113 u114 u115 u116 u117 u118 u119 u120 u121 u122 u123 u124 u125 u126 u127 u128 u129 u130 u131 u132 u133 u134 u135 u136 u137 u138 u139 u140 u141 u142 u143 u144 u145 u146 u147 u148 u149 u150 u151 u152 u153 u154 u155 u156 u157 u158 u159 u160 u161 u162 u163 u164 u165 u166 u167 u168 u169 u170 u171 u172 u173 u174 u175 u176 u177 u178 u179 u180 u181 u182 u183 u184 u185 u186 u187 u188 u189 u190 u191 u192 u193 u194 u195 u196 u197 u198 u199 u200 u201 u202 u203 u204 u205 u206 u207 u208 u209 u210 u211 u212 u213 u214 u215 u216 u217 u218 u219 u220 u221 u222 u223 u224 u225 u226 u227 u228 u229 u230 u231 u232 u233 u234 u235 u236 u237 u238 u239 u240 u241 u242 u243 u244 u245 u246 u247 u248 u249 u250 u251 u252 u253 u254 u255 u256 u257 u258 u259 u260 u261 u262 u263 u264 u265 u266 u267 u268 u269 u270 u271 u272 u273 u274 u275 u276 : Value)
    (hKp : Kp w wr [(B15, (.cells #[.int .i64 (XW : Nat), .int .i64 (XH : Nat), .slice (some ⟨g15, 0, none⟩) N c15] 54 (0, 0))), (w.heap.size, (.cells #[.int .i64 W, .int .i64 H, .slice (some ⟨b, o, none⟩) n c] 48 (0, 0)))])
    (hQ : ∀ (w' : World) (v17 v18 v19 v20 v21 v22 v148 v149 v150 v151 v152 v153 v154 v155 v156 v157 v158 v159 v160 v161 v162 v163 v164 v165 v166 v167 v168 v169 v170 v171 v172 v173 v174 v175 v176 v177 v178 v179 v180 v181 v182 v183 v184 v185 v186 v187 v188 v189 v190 v191 v192 v193 v194 v195 v196 v197 : Value), Kp w w' [(w.heap.size, (.cells #[.int .i64 W, .int .i64 H, .slice (some ⟨b, o, none⟩) n c] 48 (0, 0)))] → Q .normal ⟨#[.agg #[.int .i64 (W : Nat), .int .i64 (H : Nat), .slice (some ⟨b, o, none⟩) n c], .agg #[.int .u8 n0, .int .u8 n1], .pointer (some ⟨w.heap.size, 0, none⟩), .pointer (some ⟨w.heap.size + 1, 0, none⟩), u4, .int .i64 (A : Nat), .int .i64 (Bc : Nat), .int .i64 tt, u8, u9, u10, u11, u12, u13, u14, .pointer (some ⟨B15, 0, none⟩), u16, v17, v18, v19, v20, v21, v22, u23, u24, u25, u26, u27, u28, u29, u30, u31, u32, u33, u34, u35, u36, u37, u38, u39, u40, u41, u42, u43, u44, u45, u46, u47, u48, u49, u50, u51, u52, u53, u54, u55, u56, u57, u58, u59, u60, u61, u62, u63, u64, u65, u66, u67, u68, u69, u70, u71, u72, u73, u74, u75, u76, u77, u78, u79, u80, u81, u82, u83, u84, u85, u86, u87, u88, u89, u90, u91, u92, u93, u94, u95, u96, u97, u98, u99, u100, u101, u102, u103, u104, u105, u106, u107, u108, u109, u110, u111, u112, u113, u114, u115, u116, u117, u118, u119, u120, u121, u122, u123, u124, u125, u126, u127, u128, u129, u130, u131, u132, u133, u134, u135, u136, u137, u138, u139, u140, u141, u142, u143, u144, u145, u146, u147, v148, v149, v150, v151, v152, v153, v154, v155, v156, v157, v158, v159, v160, v161, v162, v163, v164, v165, v166, v167, v168, v169, v170, v171, v172, v173, v174, v175, v176, v177, v178, v179, v180, v181, v182, v183, v184, v185, v186, v187, v188, v189, v190, v191, v192, v193, v194, v195, v196, v197, u198, u199, u200, u201, u202, u203, u204, u205, u206, u207, u208, u209, u210, u211, u212, u213, u214, u215, u216, u217, u218, u219, u220, u221, u222, u223, u224, u225, u226, u227, u228, u229, u230, u231, u232, u233, u234, u235, u236, u237, u238, u239, u240, u241, u242, u243, u244, u245, u246, u247, u248, u249, u250, u251, u252, u253, u254, u255, u256, u257, u258, u259, u260, u261, u262, u263, u264, u265, u266, u267, u268, u269, u270, u271, u272, u273, u274, u275, u276], []⟩ w') :
    Code.wp Tryz.prog (cutB 18) Q ⟨#[.agg #[.int .i64 (W : Nat), .int .i64 (H : Nat), .slice (some ⟨b, o, none⟩) n c], .agg #[.int .u8 n0, .int .u8 n1], .pointer (some ⟨w.heap.size, 0, none⟩), .pointer (some ⟨w.heap.size + 1, 0, none⟩), u4, .int .i64 (A : Nat), .int .i64 (Bc : Nat), .int .i64 tt, u8, u9, u10, u11, u12, u13, u14, .pointer (some ⟨B15, 0, none⟩), u16, u17, u18, u19, u20, u21, u22, u23, u24, u25, u26, u27, u28, u29, u30, u31, u32, u33, u34, u35, u36, u37, u38, u39, u40, u41, u42, u43, u44, u45, u46, u47, u48, u49, u50, u51, u52, u53, u54, u55, u56, u57, u58, u59, u60, u61, u62, u63, u64, u65, u66, u67, u68, u69, u70, u71, u72, u73, u74, u75, u76, u77, u78, u79, u80, u81, u82, u83, u84, u85, u86, u87, u88, u89, u90, u91, u92, u93, u94, u95, u96, u97, u98, u99, u100, u101, u102, u103, u104, u105, u106, u107, u108, u109, u110, u111, u112, u113, u114, u115, u116, u117, u118, u119, u120, u121, u122, u123, u124, u125, u126, u127, u128, u129, u130, u131, u132, u133, u134, u135, u136, u137, u138, u139, u140, u141, u142, u143, u144, u145, u146, u147, u148, u149, u150, u151, u152, u153, u154, u155, u156, u157, u158, u159, u160, u161, u162, u163, u164, u165, u166, u167, u168, u169, u170, u171, u172, u173, u174, u175, u176, u177, u178, u179, u180, u181, u182, u183, u184, u185, u186, u187, u188, u189, u190, u191, u192, u193, u194, u195, u196, u197, u198, u199, u200, u201, u202, u203, u204, u205, u206, u207, u208, u209, u210, u211, u212, u213, u214, u215, u216, u217, u218, u219, u220, u221, u222, u223, u224, u225, u226, u227, u228, u229, u230, u231, u232, u233, u234, u235, u236, u237, u238, u239, u240, u241, u242, u243, u244, u245, u246, u247, u248, u249, u250, u251, u252, u253, u254, u255, u256, u257, u258, u259, u260, u261, u262, u263, u264, u265, u266, u267, u268, u269, u270, u271, u272, u273, u274, u275, u276], []⟩ wr := by
  conv => arg 2; whnf
  dsimp only
  have hl := hR.len
  have ha := hR.area
  have hw := hR.wid
  have hh := hR.hei
  have hs1 : (binK W A XW XH ks).sum = tt := by
    rw [← htt]
    refine binK_sum hl (by rw [Nat.mul_comm]; exact ha) hA.1 ?_ ?_
    · rw [← hXW]; exact Nat.div_mul_cancel (Nat.dvd_of_mod_eq_zero hd.1)
    · rw [← hXH]; exact Nat.div_mul_cancel (Nat.dvd_of_mod_eq_zero hd.2)
  obtain ⟨r, hr⟩ : ∃ r, binR W H (A * Bc) = r := ⟨_, rfl⟩
  obtain ⟨VW, hVW⟩ : ∃ VW, W / (A * Bc) = VW := ⟨_, rfl⟩
  obtain ⟨VH, hVH⟩ : ∃ VH, H / (A * Bc) = VH := ⟨_, rfl⟩
  obtain ⟨M, hM⟩ : ∃ M, binK W (A * Bc) VW VH ks = M := ⟨_, rfl⟩
  have hAB : 1 ≤ A * Bc ∧ A * Bc ≤ 16 := ⟨Nat.mul_pos hA.1 hB.1, Nat.mul_le_mul hA.2 hB.2⟩
  have hAw : IntKind.i64.wrap ((A : Int) * (Bc : Int)) = ((A * Bc : Nat) : Int) := by
    rw [show (A : Int) * (Bc : Int) = ((A * Bc : Nat) : Int) by push_cast; rfl]
    exact IntWalk.i64_in _ ⟨by omega, by omega⟩
  have CY : Hid (∀ (w1 : World) (g cc : Nat), RM w1 XW XH N (binK W A XW XH ks) g 0 → Calls Tryz.prog 64 #[.agg #[.int .i64 (XW : Nat), .int .i64 (XH : Nat), .slice (some ⟨g, 0, none⟩) N cc], .int .i64 Bc] w1 fun e w' =>
      ∃ X Y a' n' c', e = .returned (.tuple #[.agg #[.int .i64 X, .int .i64 Y, .slice a' n' c'], .int .i64 r]) ∧ ResV w' r (VW : Int) (VH : Int) M X Y a' n' c' ∧ Below w1.heap.size w1 w') := Lib.hid fun w1 g cc h1 => by
    subst hXW hXH hr hVW hVH hM
    exact rm_binned2 hl ha hw hh hA.1 (by omega) hd hsz h160 h1 cc
  have CZ : Hid (∀ (w1 : World) (g cc : Nat), RM w1 W H n ks g 0 → Calls Tryz.prog 64 #[.agg #[.int .i64 W, .int .i64 H, .slice (some ⟨g, 0, none⟩) n cc], .int .i64 ((A * Bc : Nat) : Int)] w1 fun e w' =>
      ∃ X Y a' n' c', e = .returned (.tuple #[.agg #[.int .i64 X, .int .i64 Y, .slice a' n' c'], .int .i64 r]) ∧ ResV w' r (VW : Int) (VH : Int) M X Y a' n' c' ∧ Below w1.heap.size w1 w') := Lib.hid fun w1 g cc h1 => by
    subst hr hVW hVH hM
    exact rm_binned h1 cc (A * Bc) (by omega) fun h4 X Y => Nat.le_trans (bin_small hl ha hw.1 hh.1 hAB.1 hsz h4 X Y) (by omega)
  have CD : Hid (r = 0 → M.length = VH * VW ∧ (1 ≤ VW ∧ VW ≤ 64) ∧ (1 ≤ VH ∧ VH ≤ 64)) := Lib.hid fun h0 => by
    rw [← hr] at h0
    have h4 := binR_zero h0
    refine ⟨by rw [← hM, binK_len, Nat.mul_comm], ?_, ?_⟩
    · rw [← hVW]; exact ⟨Nat.div_pos (Nat.le_of_dvd hw.1 (Nat.dvd_of_mod_eq_zero h4.1)) hAB.1, Nat.le_trans (Nat.div_le_self _ _) hw.2⟩
    · rw [← hVH]; exact ⟨Nat.div_pos (Nat.le_of_dvd hh.1 (Nat.dvd_of_mod_eq_zero h4.2)) hAB.1, Nat.le_trans (Nat.div_le_self _ _) hh.2⟩
  have hrc : r = 0 ∨ r = 2 := by rw [← hr]; exact binR_cases ..
  obtain ⟨P, hP⟩ : ∃ P, binK W A XW XH ks = P := ⟨_, rfl⟩
  rw [hP] at hX hs1 CY
  have HQ := Lib.hid hQ
  have HK := Lib.hid hKp
  have HX := Lib.hid hX
  have HR := Lib.hid hR
  have HS1 := Lib.hid hs1
  have HRC := Lib.hid hrc
  obtain ⟨ab, hab⟩ : ∃ ab : Nat, A * Bc = ab := ⟨_, rfl⟩
  rw [hab] at hAw CZ
  clear hQ hKp hX hR hsz hs1 hrc hl ha hw hh htt hA hB hd hXW hXH hr hVW hVH hM hAB hP hab h160
  obtain ⟨x0, x1, x2⟩ := cells3 (HK.out.2 _ (.head _))
  go_upto_region 19 with (first
    | (go_at_call 97; with_reducible refine (told_any _ _ _ _ _ _).mono ?_; rintro e w1 ⟨rfl, hb⟩;
       have K1 := Lib.hid (HK.out.call hb); have X1 := Lib.hid (HX.out.kept hb); clear hb)
    | (go_at_call 38; (refine Calls.mono (rm_own X1.out c15) ?_); rintro e w2 ⟨g2, c2, rfl, hm, hb⟩;
       have K2 := Lib.hid (K1.out.call hb); have X2 := Lib.hid (X1.out.kept hb); have M2 := Lib.hid hm; clear hb hm)
    | (go_at_call 39; (refine Calls.mono (rm_total M2.out c2) ?_); rw [HS1.out]; rintro e w3 ⟨rfl, hb⟩;
       have K3 := Lib.hid (K2.out.call hb); have X3 := Lib.hid (X2.out.kept hb); clear hb))
  clear x0 x1 x2 K1 X1 K2 X2 M2 HK HX
  obtain ⟨x0, x1, x2⟩ := cells3 (K3.out.2 _ (.head _))
  go_upto_region 20 with (first
    | (go_at_call 97; with_reducible refine (told_any _ _ _ _ _ _).mono ?_; rintro e w4 ⟨rfl, hb⟩;
       have K4 := Lib.hid (K3.out.call hb); have X4 := Lib.hid (X3.out.kept hb); clear hb)
    | (go_at_call 38; (refine Calls.mono (rm_own X4.out c15) ?_); rintro e w5 ⟨g5, c5, rfl, hm, hb⟩;
       have K5 := Lib.hid (K4.out.call hb); have M5 := Lib.hid hm; clear hb hm)
    | (go_at_call 64; with_reducible refine Calls.mono (CY.out _ _ _ M5.out) ?_; rintro e w6 ⟨y1, y2, ya, yn, yc, rfl, hv, hb⟩;
       have K6 := Lib.hid (K5.out.call hb); have V6 := Lib.hid hv; clear hb hv))
  clear x0 x1 x2 K4 X4 K5 M5 K3 X3
  refine wp_world (fun w' => Kp w w' [(w6.heap.size, .cells #[.int .i64 y1, .int .i64 y2, .slice ya yn yc] 54 (0, 0)), (B15, (.cells #[.int .i64 (XW : Nat), .int .i64 (XH : Nat), .slice (some ⟨g15, 0, none⟩) N c15] 54 (0, 0))), (w.heap.size, (.cells #[.int .i64 W, .int .i64 H, .slice (some ⟨b, o, none⟩) n c] 48 (0, 0)))] ∧ Below w6.heap.size w6 w') (by first | exact ⟨K6.out.alloc _, (Below.refl _ _).alloc (Nat.le_refl _) _⟩ | exact ⟨kp_set3 K6.out _ _ _, below_new3 _ _ _⟩) fun w7 k7 => ?_
  have K7 := Lib.hid k7.1
  have V7 := Lib.hid (V6.out.kept k7.2)
  obtain ⟨B19, hB19⟩ : ∃ B19, w6.heap.size = B19 := ⟨_, rfl⟩
  rw [hB19] at K7 ⊢
  clear k7 K6 V6 hB19
  obtain ⟨m0, m1, m2⟩ := cells3 (K7.out.2 _ (.tail _ (.tail _ (.head _))))
  go_upto_region 21 with (first
    | (go_at_call 38; (refine Calls.mono (rm_own (HR.out.kept K7.out.1) c) ?_); rintro e w8 ⟨g8, c8, rfl, hm, hb⟩;
       have K8 := Lib.hid (K7.out.call hb); have V8 := Lib.hid (V7.out.kept hb); have M8 := Lib.hid hm; clear hb hm)
    | (go_at_call 64; with_reducible refine Calls.mono (CZ.out _ _ _ M8.out) ?_; rintro e w9 ⟨z1, z2, za, zn, zc, rfl, hv, hb⟩;
       have K9 := Lib.hid (K8.out.call hb); have V9 := Lib.hid (V8.out.kept hb); have U9 := Lib.hid hv; clear hb hv))
  clear m0 m1 m2 K7 K8 V7 V8 M8
  refine wp_world (fun w' => Kp w w' [(w9.heap.size, .cells #[.int .i64 z1, .int .i64 z2, .slice za zn zc] 54 (0, 0)), (B19, .cells #[.int .i64 y1, .int .i64 y2, .slice ya yn yc] 54 (0, 0)), (B15, (.cells #[.int .i64 (XW : Nat), .int .i64 (XH : Nat), .slice (some ⟨g15, 0, none⟩) N c15] 54 (0, 0))), (w.heap.size, (.cells #[.int .i64 W, .int .i64 H, .slice (some ⟨b, o, none⟩) n c] 48 (0, 0)))] ∧ Below w9.heap.size w9 w') (by first | exact ⟨K9.out.alloc _, (Below.refl _ _).alloc (Nat.le_refl _) _⟩ | exact ⟨kp_set3 K9.out _ _ _, below_new3 _ _ _⟩) fun wx kx => ?_
  have KX := Lib.hid kx.1
  have VX := Lib.hid (V9.out.kept kx.2)
  have UX := Lib.hid (U9.out.kept kx.2)
  obtain ⟨B21, hB21⟩ : ∃ B21, w9.heap.size = B21 := ⟨_, rfl⟩
  rw [hB21] at KX ⊢
  clear kx K9 V9 U9 hB21
  rcases HRC.out with rfl | rfl
  · obtain ⟨hl, hVW, hVH⟩ := CD.out rfl
    obtain ⟨gy, rfl, rfl, rfl, rfl, hy⟩ := ResV.rm VX.out hl rfl hVW hVH
    obtain ⟨gz, rfl, rfl, rfl, rfl, hz⟩ := ResV.rm UX.out hl rfl hVW hVH
    obtain ⟨NN, hNN⟩ : ∃ NN, VH * VW = NN := ⟨_, rfl⟩
    rw [hNN] at hy hz KX ⊢
    have HY := Lib.hid hy
    have HZ := Lib.hid hz
    obtain ⟨z0, z1, z2⟩ := cells3 (KX.out.2 _ (.head _))
    obtain ⟨y0, y1, y2⟩ := cells3 (KX.out.2 _ (.tail _ (.head _)))
    have lz := lt_of_blk (KX.out.2 _ (.head _))
    have ly := lt_of_blk (KX.out.2 _ (.tail _ (.head _)))
    have hB : Blw wx.heap.size wx wx := show Below _ _ _ from Below.refl _ _
    have hB' : Blw wx.heap.size wx wx.drew := show Below _ _ _ from (Below.refl wx.heap.size wx).drew
    have KT : Hid (∀ (w1 : World) (g cc : Nat), Blw wx.heap.size wx w1 → Calls Tryz.prog 97 #[.agg #[.int .i64 (VW : Nat), .int .i64 (VH : Nat), .slice (some ⟨g, 0, none⟩) NN cc]] w1 fun e w' => e = .returned (.agg #[.int .i64 (VW : Nat), .int .i64 (VH : Nat), .slice (some ⟨g, 0, none⟩) NN cc]) ∧ Blw wx.heap.size wx w') := Lib.hid fun w1 g cc h =>
      (told_any _ _ _ _ _ w1).mono fun e w' ⟨h1, h2⟩ => ⟨h1, Below.trans h (h2.mono (Below.size h))⟩
    have KE : Hid (∀ w1 : World, Blw wx.heap.size wx w1 → Calls Tryz.prog 98 #[.agg #[.int .i64 (VW : Nat), .int .i64 (VH : Nat), .slice (some ⟨gy, 0, none⟩) NN yc], .agg #[.int .i64 (VW : Nat), .int .i64 (VH : Nat), .slice (some ⟨gz, 0, none⟩) NN zc]] w1 fun e w' => e = .returned (.bool true) ∧ Blw wx.heap.size wx w') := Lib.hid fun w1 h =>
      (rm_same (HY.out.kept h) (HZ.out.kept h) yc zc).mono fun e w' ⟨h1, h2⟩ => ⟨h1, Below.trans h (h2.mono (Below.size h))⟩
    clear hy hz hl hVW hVH hNN VX UX
    go_region_held3 (fun w' => w'.cell? ⟨B19, 0, none⟩ = some (.int .i64 (VW : Nat)) ∧ w'.cell? ⟨B19, 1, none⟩ = some (.int .i64 (VH : Nat)) ∧ w'.cell? ⟨B19, 2, none⟩ = some (.slice (some ⟨gy, 0, none⟩) NN yc) ∧
        w'.cell? ⟨B21, 0, none⟩ = some (.int .i64 (VW : Nat)) ∧ w'.cell? ⟨B21, 1, none⟩ = some (.int .i64 (VH : Nat)) ∧ w'.cell? ⟨B21, 2, none⟩ = some (.slice (some ⟨gz, 0, none⟩) NN zc) ∧ Blw wx.heap.size wx w')
      (first
        | (go_split_ands; refine ⟨?_, ?_, ?_, ?_, ?_, ?_, ?_⟩ <;> with_reducible assumption)
        | (go_split_ands; refine ⟨?_, ?_, ?_, ?_, ?_, ?_, ?_⟩ <;> first | (with_reducible assumption) | (rw [Below.cell (w := wx) (by assumption : Blw wx.heap.size wx _) (by assumption)]; assumption))
        | (go_keep; done))
      (first
        | (go_at_call 97; with_reducible refine (KT.out _ _ _ (by assumption)).mono ?_; rintro e w10 ⟨rfl, hb10⟩)
        | (go_at_call 98; with_reducible refine (KE.out _ (by assumption)).mono ?_; rintro e w11 ⟨rfl, hb11⟩))
    all_goals
      have F : Hid (Kp w w11 [(w.heap.size, (.cells #[.int .i64 W, .int .i64 H, .slice (some ⟨b, o, none⟩) n c] 48 (0, 0)))]) := Lib.hid ((KX.out.call hb11).subs fun p hp => .tail _ (.tail _ (.tail _ hp)))
      go_wp2_with fail
      exact HQ.out _ _ _ _ _ _ _ _ _ _ _ _ _ _ _ _ _ _ _ _ _ _ _ _ _ _ _ _ _ _ _ _ _ _ _ _ _ _ _ _ _ _ _ _ _ _ _ _ _ _ _ _ _ _ _ _ _ F.out
  · have hB : Blw wx.heap.size wx wx := show Below _ _ _ from Below.refl _ _
    have hB' : Blw wx.heap.size wx wx.drew := show Below _ _ _ from (Below.refl wx.heap.size wx).drew
    have F : Hid (Kp w wx.drew [(w.heap.size, (.cells #[.int .i64 W, .int .i64 H, .slice (some ⟨b, o, none⟩) n c] 48 (0, 0)))]) := Lib.hid (Kp.drew (KX.out.subs fun p hp => .tail _ (.tail _ (.tail _ hp))))
    have hmix : Tryz.prog.follows Departure.mixedOrders = true := by kernel_rfl
    have F0 : Hid (Kp w wx [(w.heap.size, (.cells #[.int .i64 W, .int .i64 H, .slice (some ⟨b, o, none⟩) n c] 48 (0, 0)))]) := Lib.hid (KX.out.subs fun p hp => .tail _ (.tail _ (.tail _ hp)))
    go_big_quiet_o (fail)
    all_goals
      go_wp2_with fail
      first
        | exact HQ.out _ _ _ _ _ _ _ _ _ _ _ _ _ _ _ _ _ _ _ _ _ _ _ _ _ _ _ _ _ _ _ _ _ _ _ _ _ _ _ _ _ _ _ _ _ _ _ _ _ _ _ _ _ _ _ _ _ ⟨below_drewN F0.out.1 _, F0.out.2⟩
        | exact HQ.out _ _ _ _ _ _ _ _ _ _ _ _ _ _ _ _ _ _ _ _ _ _ _ _ _ _ _ _ _ _ _ _ _ _ _ _ _ _ _ _ _ _ _ _ _ _ _ _ _ _ _ _ _ _ _ _ _ F.out
end Go.Proofs.YtfdkmmllemkogaaGreatDoor
