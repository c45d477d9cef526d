/-
  Contract of Unfour for a panel of right numbers: the samples, or an error of the form.
-/
import Derived.Test.YtpmjiifdnnhecaaGreatDoorOaaVa
import Derived.Test.YtpmjiifdnnhecaaGreatDoorOaaZh
import Derived.Test.YtpmjiifdnnhecaaGreatDoorOaaBc
import Derived.Test.YtpmjiifdnnhecaaGreatDoorOaaPc
import Derived.Test.YtpmjiifdnnhecaaGreatDoorOaaMb
import Derived.Test.YtpmjiifdnnhecaaGreatDoorOaaZt
import Derived.Test.YtpmjiifdnnhecaaGreatDoorOaaWk
import Derived.Test.YtpmjiifdnnhecaaGreatDoorOaaXe
import Derived.Deep.CutBlock
import Derived.Deep.DeepCutAuto
import Derived.Test.YtpmjiifdnnhecaaGreatDoorOaaZr
import Derived.Test.YtpmjiifdnnhecaaGreatDoorOaaXi
namespace Go.Proofs.YtpmjiifdnnhecaaGreatDoor
open Go.RowKit
set_option linter.unusedVariables false
set_option linter.unusedSimpArgs false

/-- The sums of Unfour, of the first numbers of the panel. -/
def unR (ks ls : List Int) (n : Nat) : Nat → Int
  | 0 => 0
  | k + 1 => unR ks ls n k + (ks[k]?.getD 0 * powRe (3 * k * n % 4) - ls[k]?.getD 0 * powIm (3 * k * n % 4))
def unI (ks ls : List Int) (n : Nat) : Nat → Int
  | 0 => 0
  | k + 1 => unI ks ls n k + (ks[k]?.getD 0 * powIm (3 * k * n % 4) + ls[k]?.getD 0 * powRe (3 * k * n % 4))
/-- A number of samples is that of a sample. -/
def unOk (ks ls : List Int) (n : Nat) : Prop := unI ks ls n 4 = 0 ∧ unR ks ls n 4 % 4 = 0 ∧ (unR ks ls n 4 / 4).natAbs ≤ 16384
instance (ks ls : List Int) (n : Nat) : Decidable (unOk ks ls n) := by unfold unOk; infer_instance
/-- The samples that are made so far. -/
def SampAt (ks ls : List Int) (n : Nat) (R : List Nat) : Prop := R.length = 4 ∧ ∀ i, i < n → unOk ks ls i ∧ Smp (R[i]?.getD 0) (unR ks ls i 4 / 4)
theorem SampAt.step {ks ls : List Int} {n : Nat} {R : List Nat} (h : SampAt ks ls n R) (hn : n < 4) {r : Nat} (ho : unOk ks ls n) (hr : Smp r (unR ks ls n 4 / 4)) : SampAt ks ls (n + 1) (R.set n r) := by
  refine ⟨by rw [List.length_set]; exact h.1, fun i hi => ?_⟩
  by_cases hin : i = n
  · subst hin
    rw [List.getElem?_set_self (by rw [h.1]; exact hn)]
    exact ⟨ho, hr⟩
  · rw [List.getElem?_set_ne (fun e => hin e.symm)]
    exact h.2 i (by omega)
theorem store_float4 (P : Program) (w : World) (a : Addr) (m : Mode) (k : FloatKind) (x : Nat) : (store a (.float k x) m).run P w = stored P w a (.float k x) m := run_store P w a _ m rfl
attribute [local go_sem] store_float4
end Go.Proofs.YtpmjiifdnnhecaaGreatDoor

/-
  LightBins, plain mathematics: binning in blocks (by 1, twice, its light), the transform of four there and back, and the sums of its squares.
-/

namespace Go.Proofs.YtpmjiifdnnhecaaGreatDoor
open Go.RowKit
set_option linter.unusedVariables false
set_option linter.unusedSimpArgs false

theorem sum2_blocks (p q a : Nat) (f : Nat → Nat → Int) : sum2 p q (fun X Y => sum2 a a (fun x y => f (X * a + x) (Y * a + y))) = sum2 (p * a) (q * a) f := by
  unfold sum2
  rw [sumTo_grid q a]
  refine sumTo_congr fun Y _ => ?_
  rw [sumTo_comm p a]
  refine sumTo_congr fun y _ => ?_
  rw [sumTo_grid p a]

/-- The integers of a map that is binned. -/
def binK (W s WW HH : Nat) (ks : List Int) : List Int := (List.range (WW * HH)).map fun j => binTo W ks s (j % WW) (j / WW) (placesTo s (s * s))
theorem binK_len (W s WW HH : Nat) (ks : List Int) : (binK W s WW HH ks).length = WW * HH := by simp [binK]
theorem binK_get {W s WW HH : Nat} {ks : List Int} {j : Nat} (hj : j < WW * HH) : (binK W s WW HH ks)[j]?.getD 0 = binTo W ks s (j % WW) (j / WW) (placesTo s (s * s)) := by
  unfold binK; rw [List.getElem?_map, List.getElem?_range hj]; rfl
theorem binTo_sum2 (W : Nat) (ks : List Int) {s : Nat} (hs : 1 ≤ s) (X Y : Nat) : binTo W ks s X Y (placesTo s (s * s)) = sum2 s s (fun x y => ks[(Y * s + y) * W + (X * s + x)]?.getD 0) := by
  unfold binTo placesTo
  rw [List.map_map, sum_range, sumTo_grid]
  unfold sum2
  refine sumTo_congr fun y hy => sumTo_congr fun x hx => ?_
  have e1 : (y * s + x) % s = x := by rw [Nat.mul_comm, Nat.mul_add_mod]; exact Nat.mod_eq_of_lt hx
  have e2 : (y * s + x) / s = y := by rw [Nat.mul_comm, Nat.mul_add_div (by omega), Nat.div_eq_of_lt hx]; rfl
  show binCell W ks s X Y ((y * s + x) % s, (y * s + x) / s) = _
  rw [e1, e2]
  rfl
theorem binK_at {W s WW HH : Nat} {ks : List Int} (hs : 1 ≤ s) {X Y : Nat} (hX : X < WW) (hY : Y < HH) : (binK W s WW HH ks)[Y * WW + X]?.getD 0 = sum2 s s (fun x y => ks[(Y * s + y) * W + (X * s + x)]?.getD 0) := by
  have hj : Y * WW + X < WW * HH := by
    have h := Nat.mul_le_mul_right WW (show Y + 1 ≤ HH from hY)
    rw [Nat.succ_mul, Nat.mul_comm HH WW] at h
    omega
  have e1 : (Y * WW + X) % WW = X := by rw [Nat.mul_comm, Nat.mul_add_mod]; exact Nat.mod_eq_of_lt hX
  have e2 : (Y * WW + X) / WW = Y := by rw [Nat.mul_comm, Nat.mul_add_div (by omega), Nat.div_eq_of_lt hX]; rfl
  rw [binK_get hj, e1, e2, binTo_sum2 W ks hs]
theorem list_eq_of {A B : List Int} (h : A.length = B.length) (hg : ∀ j, j < A.length → A[j]?.getD 0 = B[j]?.getD 0) : A = B := by
  refine List.ext_getElem h fun i h1 h2 => ?_
  have e := hg i h1
  rw [List.getElem?_eq_getElem h1, List.getElem?_eq_getElem h2] at e
  exact e
theorem sum_grid {W H n : Nat} {ks : List Int} (hl : ks.length = n) (hn : W * H = n) : ks.sum = sum2 W H (fun x y => ks[y * W + x]?.getD 0) := by
  rw [sum_get, hl, ← hn, Nat.mul_comm W H, sumTo_grid]; rfl
theorem binK_sum {W H n a WW HH : Nat} {ks : List Int} (hl : ks.length = n) (hn : W * H = n) (ha : 1 ≤ a) (hW : WW * a = W) (hH : HH * a = H) : (binK W a WW HH ks).sum = ks.sum := by
  rw [sum_grid (binK_len W a WW HH ks) rfl, sum_grid hl hn]
  subst hW hH
  rw [← sum2_blocks WW HH a]
  refine sum2_congr fun x y h1 h2 => ?_
  rw [binK_at ha h1 h2]
theorem sumTo_bd {n M : Nat} {f : Nat → Int} (h : ∀ i, i < n → (f i).natAbs ≤ M) : (sumTo n f).natAbs ≤ n * M := by
  induction n with
  | zero => simp [sumTo]
  | succ n ih =>
    simp only [sumTo]
    have h1 := ih fun i hi => h i (by omega)
    have h2 := h n (by omega)
    rw [Nat.succ_mul]
    omega
/-- The sums of the transform of four integers. -/
theorem acc_four (a b c d : Int) : (accR [a, b, c, d] 0 4 = a + b + c + d ∧ accI [a, b, c, d] 0 4 = 0) ∧ (accR [a, b, c, d] 1 4 = a - c ∧ accI [a, b, c, d] 1 4 = d - b) ∧
    (accR [a, b, c, d] 2 4 = a - b + c - d ∧ accI [a, b, c, d] 2 4 = 0) ∧ (accR [a, b, c, d] 3 4 = a - c ∧ accI [a, b, c, d] 3 4 = b - d) := by
  simp [accR, accI, powRe, powIm]
  omega
end Go.Proofs.YtpmjiifdnnhecaaGreatDoor

/-
  Plain mathematics of the ring: a square map and its three turns, placed around a centre and added.
-/

namespace Go.Proofs.YtpmjiifdnnhecaaGreatDoor
open Go.RowKit
set_option linter.unusedVariables false

/-- The map that was turned t times. -/
def turnI (s : Nat) (L : List Int) : Nat → List Int
  | 0 => L
  | t + 1 => turnK s s (s * s) (turnI s L t)
theorem turnI_len {s : Nat} {L : List Int} (hL : L.length = s * s) : ∀ t, (turnI s L t).length = s * s
  | 0 => hL
  | _ + 1 => turnK_len ..
theorem turnI_at {s : Nat} (L : List Int) (t : Nat) {x y : Nat} (hx : x < s) (hy : y < s) : cellK s (turnI s L (t + 1)) x y = cellK s (turnI s L t) y (s - 1 - x) :=
  turnK_at _ hx hy
theorem turnI_four {s : Nat} {L : List Int} (hL : L.length = s * s) : turnI s L 4 = L := turn_four s s L hL
theorem turnI_sum {s : Nat} {L : List Int} (hL : L.length = s * s) : ∀ t, (turnI s L t).sum = L.sum
  | 0 => rfl
  | t + 1 => by rw [← turnI_sum hL t]; exact turn_sum s s _ (turnI_len hL t)
theorem turnI_small {s : Nat} {L : List Int} {M : Nat} (h : ∀ j : Nat, (L[j]?.getD 0 : Int).natAbs ≤ M) : ∀ t (j : Nat), ((turnI s L t)[j]?.getD 0 : Int).natAbs ≤ M
  | 0, j => h j
  | t + 1, j => by
    by_cases hj : j < s * s
    · have e : (turnI s L (t + 1))[j]?.getD 0 = (turnI s L t)[(s - 1 - j % s) * s + j / s]?.getD 0 := by
        show (turnK s s (s * s) (turnI s L t))[j]?.getD 0 = _
        unfold turnK; rw [List.getElem?_map, List.getElem?_range hj]; rfl
      rw [e]; exact turnI_small h t _
    · rw [List.getElem?_eq_none (by show (turnK s s (s * s) (turnI s L t)).length ≤ j; rw [turnK_len]; omega)]; simp

/-- Where the t-th turn is placed: its column, its row. -/
def ringX (s : Nat) : Nat → Nat | 1 => s | 2 => s | _ => 0
def ringY (s : Nat) : Nat → Nat | 2 => s | 3 => s | _ => 0
/-- The t-th turn at its place in the great map. -/
def ringP (s : Nat) (L : List Int) (t : Nat) : List Int := placeK s s (ringX s t) (ringY s t) (2 * s) (2 * s * (2 * s)) (turnI s L t)
/-- The sum of the first t placed turns. -/
def ringK (s : Nat) (L : List Int) : Nat → List Int
  | 0 => List.replicate (2 * s * (2 * s)) 0
  | t + 1 => addK (2 * s * (2 * s)) (ringK s L t) (ringP s L t)
theorem ringK_len (s : Nat) (L : List Int) : ∀ t, (ringK s L t).length = 2 * s * (2 * s)
  | 0 => by simp [ringK]
  | _ + 1 => by simp [ringK, addK]

theorem ringP_at {s : Nat} (L : List Int) (t : Nat) {x y : Nat} (hx : x < 2 * s) (hy : y < 2 * s) :
    cellK (2 * s) (ringP s L t) x y = if ringX s t ≤ x ∧ x < ringX s t + s ∧ ringY s t ≤ y ∧ y < ringY s t + s then cellK s (turnI s L t) (x - ringX s t) (y - ringY s t) else 0 := by
  unfold cellK ringP
  rw [placeK_get (place_in hx hy), mod_of hx, div_of hx]
  rfl
theorem addK_at {W n : Nat} {A B : List Int} {x y : Nat} (h : y * W + x < n) : cellK W (addK n A B) x y = cellK W A x y + cellK W B x y := by
  unfold cellK; rw [addK_get h]
theorem ringK_at {s : Nat} (L : List Int) {x y : Nat} (hx : x < 2 * s) (hy : y < 2 * s) :
    cellK (2 * s) (ringK s L 4) x y = if x < s then if y < s then cellK s L x y else cellK s (turnI s L 3) x (y - s) else if y < s then cellK s (turnI s L 1) (x - s) y else cellK s (turnI s L 2) (x - s) (y - s) := by
  have hp := place_in hx hy
  have h0 : cellK (2 * s) (ringK s L 0) x y = 0 := by
    unfold cellK ringK
    rw [List.getElem?_replicate]; split <;> rfl
  show cellK (2 * s) (addK (2 * s * (2 * s)) (ringK s L 3) (ringP s L 3)) x y = _
  rw [addK_at hp]
  show cellK (2 * s) (addK (2 * s * (2 * s)) (ringK s L 2) (ringP s L 2)) x y + _ = _
  rw [addK_at hp]
  show cellK (2 * s) (addK (2 * s * (2 * s)) (ringK s L 1) (ringP s L 1)) x y + _ + _ = _
  rw [addK_at hp]
  show cellK (2 * s) (addK (2 * s * (2 * s)) (ringK s L 0) (ringP s L 0)) x y + _ + _ + _ = _
  rw [addK_at hp, h0, ringP_at L 0 hx hy, ringP_at L 1 hx hy, ringP_at L 2 hx hy, ringP_at L 3 hx hy]
  show 0 + (if 0 ≤ x ∧ x < 0 + s ∧ 0 ≤ y ∧ y < 0 + s then cellK s L (x - 0) (y - 0) else 0) + (if s ≤ x ∧ x < s + s ∧ 0 ≤ y ∧ y < 0 + s then cellK s (turnI s L 1) (x - s) (y - 0) else 0) +
    (if s ≤ x ∧ x < s + s ∧ s ≤ y ∧ y < s + s then cellK s (turnI s L 2) (x - s) (y - s) else 0) + (if 0 ≤ x ∧ x < 0 + s ∧ s ≤ y ∧ y < s + s then cellK s (turnI s L 3) (x - 0) (y - s) else 0) = _
  by_cases c : x < s
  · by_cases d : y < s
    · rw [if_pos c, if_pos d, if_pos ⟨by omega, by omega, by omega, by omega⟩, if_neg (by omega), if_neg (by omega), if_neg (by omega)]; simp
    · rw [if_pos c, if_neg d, if_neg (by omega), if_neg (by omega), if_neg (by omega), if_pos ⟨by omega, by omega, by omega, by omega⟩]; simp
  · by_cases d : y < s
    · rw [if_neg c, if_pos d, if_neg (by omega), if_pos ⟨by omega, by omega, by omega, by omega⟩, if_neg (by omega), if_neg (by omega)]; simp
    · rw [if_neg c, if_neg d, if_neg (by omega), if_neg (by omega), if_pos ⟨by omega, by omega, by omega, by omega⟩, if_neg (by omega)]; simp

/-- Turning does not change the ring. -/
theorem ring_turn {s : Nat} {L : List Int} (hL : L.length = s * s) : turnK (2 * s) (2 * s) (2 * s * (2 * s)) (ringK s L 4) = ringK s L 4 := by
  refine cells_ext (turnK_len ..) (ringK_len s L 4) fun x y hx hy => ?_
  rw [turnK_at _ hx hy, ringK_at L hy (by omega), ringK_at L hx hy]
  have h4 : ∀ u v, u < s → v < s → cellK s L u v = cellK s (turnI s L 3) v (s - 1 - u) := fun u v hu hv => by
    rw [← turnI_at L 3 hu hv, turnI_four hL]
  by_cases c : x < s
  · by_cases d : y < s
    · rw [if_pos d, if_neg (by omega), if_pos c, if_pos d, h4 x y c d]; congr 1; omega
    · rw [if_neg d, if_neg (by omega), if_pos c, if_neg d, turnI_at L 2 c (by omega)]; congr 1; omega
  · by_cases d : y < s
    · rw [if_pos d, if_pos (by omega), if_neg c, if_pos d, turnI_at L 0 (by omega) d]
      show cellK s L y (2 * s - 1 - x) = cellK s L y (s - 1 - (x - s))
      congr 1; omega
    · rw [if_neg d, if_pos (by omega), if_neg c, if_neg d, turnI_at L 1 (by omega) (by omega)]; congr 1; omega
/-- Nor when it is spread. -/
theorem ring_spread_turn {s : Nat} {L : List Int} (hL : L.length = s * s) (share : Int) :
    turnK (2 * s) (2 * s) (2 * s * (2 * s)) (roundsTo (2 * s) (2 * s) share (ringK s L 4) (gridPlaces (2 * s) (2 * s * (2 * s)))) = roundsTo (2 * s) (2 * s) share (ringK s L 4) (gridPlaces (2 * s) (2 * s * (2 * s))) := by
  have h := turn_spread (2 * s) (2 * s) share (ringK s L 4) (ringK_len s L 4)
  rw [ring_turn hL] at h
  exact h

theorem sum2_self {s : Nat} {L : List Int} (hL : L.length = s * s) : sum2 s s (cellK s L) = L.sum := (sum_cells s s L hL).symm
/-- The blocks of the ring. -/
theorem ring_block {s : Nat} {L : List Int} (hL : L.length = s * s) {X Y : Nat} (hX : X < 2) (hY : Y < 2) :
    sum2 s s (fun x y => (ringK s L 4)[(Y * s + y) * (2 * s) + (X * s + x)]?.getD 0) = L.sum := by
  have e : ∀ x y, x < s → y < s → (ringK s L 4)[(Y * s + y) * (2 * s) + (X * s + x)]?.getD 0 = cellK s (turnI s L (if Y = 0 then X else 3 - X)) x y := fun x y hx hy => by
    have a : X * s + x < 2 * s := by
      rcases (show X = 0 ∨ X = 1 by omega) with rfl | rfl <;> omega
    have b : Y * s + y < 2 * s := by
      rcases (show Y = 0 ∨ Y = 1 by omega) with rfl | rfl <;> omega
    have h := ringK_at L a b
    show cellK (2 * s) (ringK s L 4) (X * s + x) (Y * s + y) = _
    rw [h]
    rcases (show X = 0 ∨ X = 1 by omega) with rfl | rfl <;> rcases (show Y = 0 ∨ Y = 1 by omega) with rfl | rfl
    · rw [if_pos (by omega), if_pos (by omega)]; simp [turnI]
    · rw [if_pos (by omega), if_neg (by omega)]; simp
    · rw [if_neg (by omega), if_pos (by omega)]; simp
    · rw [if_neg (by omega), if_neg (by omega)]; simp
  rw [sum2_congr e, sum2_self (turnI_len hL _), turnI_sum hL]
theorem ring_bin {s : Nat} {L : List Int} (hs : 1 ≤ s) (hL : L.length = s * s) : binK (2 * s) s 2 2 (ringK s L 4) = [L.sum, L.sum, L.sum, L.sum] := by
  refine list_eq_of (by rw [binK_len]; rfl) fun j hj => ?_
  rw [binK_len] at hj
  have h := binK_at (W := 2 * s) (HH := 2) (ks := ringK s L 4) hs (show j % 2 < 2 by omega) (show j / 2 < 2 by omega)
  rw [show j / 2 * 2 + j % 2 = j by omega] at h
  rw [h, ring_block hL (by omega) (by omega)]
  rcases (show j = 0 ∨ j = 1 ∨ j = 2 ∨ j = 3 by omega) with rfl | rfl | rfl | rfl <;> rfl
theorem ring_sum {s : Nat} {L : List Int} (hs : 1 ≤ s) (hL : L.length = s * s) : (ringK s L 4).sum = 4 * L.sum := by
  have h := binK_sum (W := 2 * s) (H := 2 * s) (n := 2 * s * (2 * s)) (a := s) (WW := 2) (HH := 2) (ringK_len s L 4) rfl hs rfl rfl
  rw [ring_bin hs hL] at h
  rw [← h]
  simp; omega
theorem ringP_small {s : Nat} {L : List Int} {M : Nat} (h : ∀ j : Nat, (L[j]?.getD 0 : Int).natAbs ≤ M) (t j : Nat) (hj : j < 2 * s * (2 * s)) : ((ringP s L t)[j]?.getD 0 : Int).natAbs ≤ M := by
  unfold ringP
  rw [placeK_get hj]
  unfold placedK
  split
  · exact turnI_small h t _
  · simp
/-- Two placed turns have no place in common. -/
theorem ringK_small {s : Nat} {L : List Int} {M : Nat} (h : ∀ j : Nat, (L[j]?.getD 0 : Int).natAbs ≤ M) : ∀ t (j : Nat), ((ringK s L t)[j]?.getD 0 : Int).natAbs ≤ t * M
  | 0, j => by
    unfold ringK; rw [List.getElem?_replicate]; split <;> simp
  | t + 1, j => by
    by_cases hj : j < 2 * s * (2 * s)
    · show ((addK _ (ringK s L t) (ringP s L t))[j]?.getD 0 : Int).natAbs ≤ _
      rw [addK_get hj]
      have a := ringK_small (s := s) h t j
      have b := ringP_small (s := s) h t j hj
      rw [Nat.succ_mul]; omega
    · rw [List.getElem?_eq_none (by rw [ringK_len]; omega)]; simp
/-- Each place of the ring has one turn's integer. -/
theorem ring_small {s : Nat} {L : List Int} {M : Nat} (h : ∀ j : Nat, (L[j]?.getD 0 : Int).natAbs ≤ M) (j : Nat) : ((ringK s L 4)[j]?.getD 0 : Int).natAbs ≤ M := by
  by_cases hj : j < 2 * s * (2 * s)
  · have hp : 0 < 2 * s := by
      rcases Nat.eq_zero_or_pos (2 * s) with h0 | h0
      · rw [h0] at hj; omega
      · exact h0
    have e := ringK_at L (Nat.mod_lt j hp) ((Nat.div_lt_iff_lt_mul hp).2 hj)
    have e2 : cellK (2 * s) (ringK s L 4) (j % (2 * s)) (j / (2 * s)) = (ringK s L 4)[j]?.getD 0 := by
      unfold cellK; rw [Nat.mul_comm (j / (2 * s)), Nat.div_add_mod]
    rw [← e2, e]
    split
    · split
      · exact h _
      · exact turnI_small h 3 _
    · split
      · exact turnI_small h 1 _
      · exact turnI_small h 2 _
  · rw [List.getElem?_eq_none (by rw [ringK_len]; omega)]; simp
theorem ring_total {s : Nat} {L : List Int} (hs : s ≤ 8) (hL : L.length = s * s) (h : ∀ j : Nat, (L[j]?.getD 0 : Int).natAbs ≤ 256) : L.sum.natAbs ≤ 16384 := by
  rw [sum_get]
  refine Nat.le_trans (sumTo_bd fun i _ => h i) ?_
  rw [hL]
  have := Nat.mul_le_mul hs hs
  omega
theorem ring_spreadSmall {D : Nat} {share : Int} {R : List Int} (hD : D ≤ 16) (hs : 0 ≤ share ∧ share ≤ 4) (hl : R.length = D * D) (h : ∀ j : Nat, (R[j]?.getD 0 : Int).natAbs ≤ 256) (j : Nat) (hj : j < D * D) : ((roundsTo D D share R (gridPlaces D (D * D)))[j]?.getD 0 : Int).natAbs ≤ 16384 := by
  have hp : 0 < D := by
    rcases Nat.eq_zero_or_pos D with h0 | h0
    · rw [h0] at hj; omega
    · exact h0
  have k := spread_small D D share hs.1 hs.2 R hl (fun x y _ _ => Nat.le_trans (h _) (by omega)) (Nat.mod_lt j hp) ((Nat.div_lt_iff_lt_mul hp).2 hj)
  unfold cellK at k
  rw [Nat.mul_comm (j / D), Nat.div_add_mod] at k
  exact k
end Go.Proofs.YtpmjiifdnnhecaaGreatDoor

/-
  Bytes in memory; blocks that lie in a world through calls, allocations and stores.
-/

namespace Go.Proofs.YtpmjiifdnnhecaaGreatDoor
open Go.RowKit
set_option linter.unusedVariables false
set_option linter.unusedSimpArgs false

def byteAt (F : List Int) (j : Nat) : Int := F[j]?.getD 0
def BytesV (S : List Int) (n : Nat) : Prop := S.length = n ∧ ∀ v ∈ S, 0 ≤ v ∧ v ≤ 255
def AnyBytes (w : World) (a : Option Addr) (n : Nat) (S : List Int) : Prop := BytesV S n ∧ ∀ j, j < n → ∃ b q, a = some ⟨b, q, none⟩ ∧ b < w.heap.size ∧ w.rangeAt b q (S.map (Value.int .u8))
theorem AnyBytes.kept {w w' : World} {a : Option Addr} {n : Nat} {S : List Int} (h : AnyBytes w a n S) (hb : Below w.heap.size w w') : AnyBytes w' a n S :=
  ⟨h.1, fun j hj => by
    obtain ⟨b, q, e, h1, h2⟩ := h.2 j hj
    exact ⟨b, q, e, Nat.lt_of_lt_of_le h1 hb.size, fun i v hv => by rw [hb.cell (by exact h1)]; exact h2 i v hv⟩⟩

/-- These blocks lie so, and nothing below has changed. -/
def Kp (w w' : World) (l : List (Nat × Obj)) : Prop := Below w.heap.size w w' ∧ ∀ p ∈ l, w'.heap[p.1]? = some p.2
theorem Kp.none (w : World) : Kp w w [] := ⟨Below.refl _ _, fun p h => nomatch h⟩
theorem Kp.call {w w1 w2 : World} {l : List (Nat × Obj)} (h : Kp w w1 l) (hb : Below w1.heap.size w1 w2) : Kp w w2 l :=
  ⟨h.1.trans (hb.mono h.1.size), fun p hp => (hb.block _ (lt_of_blk (h.2 p hp))).trans (h.2 p hp)⟩
theorem Kp.kept {w w1 w2 : World} {l : List (Nat × Obj)} (h : Kp w w1 l) (hb : Below w.heap.size w w2) (hq : ∀ p ∈ l, w2.heap[p.1]? = w1.heap[p.1]?) : Kp w w2 l :=
  ⟨hb, fun p hp => (hq p hp).trans (h.2 p hp)⟩
theorem Kp.alloc {w w1 : World} {l : List (Nat × Obj)} (h : Kp w w1 l) (o : Obj) : Kp w (w1.alloc o) ((w1.heap.size, o) :: l) :=
  ⟨h.1.alloc h.1.size o, fun p hp => by
    rcases List.mem_cons.1 hp with rfl | hp
    · exact blk_alloc_new _ _
    · exact blk_alloc_other (h.2 p hp) o⟩
theorem Kp.setHead {w w1 : World} {l : List (Nat × Obj)} {g : Nat} {cur : Array Value} {T : TypeId} (h : Kp w w1 ((g, .cells cur T (0, 0)) :: l)) (cs : Array Value) (hg : w.heap.size ≤ g) (hne : ∀ p ∈ l, p.1 ≠ g) :
    Kp w (w1.setRow g cs) ((g, .cells cs T (0, 0)) :: l) :=
  ⟨h.1.trans ((OnlyBlk.setRow w1 g cs).below h.1.size hg), fun p hp => by
    rcases List.mem_cons.1 hp with rfl | hp
    · exact setRow_heap w1 _ _ _ _ _ (h.2 _ (.head _))
    · exact ((OnlyBlk.setRow w1 g cs).1.block _ (lt_of_blk (h.2 p (.tail _ hp))) (by intro e; exact hne p hp (Option.some.inj e))).trans (h.2 p (.tail _ hp))⟩

theorem Kp.stored {w w1 : World} {l : List (Nat × Obj)} (h : Kp w w1 l) (cur cs : Array Value) (T : TypeId) : Kp w ((w1.alloc (.cells cur T)).setRow w1.heap.size cs) ((w1.heap.size, .cells cs T) :: l) :=
  (h.alloc (.cells cur T)).setHead cs h.1.size (fun p hp => Nat.ne_of_lt (lt_of_blk (h.2 p hp)))

/-- A row of bytes is a slice of bytes. -/
theorem AnyBytes.of_row {w : World} {B n : Nat} {v : Value} {S : List Int} (hS : BytesV S n) (h : w.ownsRow B 5 1 v n (S.map (Value.int .u8))) :
    ∃ a c, v = .slice a n c ∧ n ≤ c ∧ c ≤ 9223372036854775807 ∧ AnyBytes w a n S := by
  rcases h.2 with ⟨rfl, rfl⟩ | ⟨g, cap, cur, rfl, hb, hg, h1, h2, _⟩
  · exact ⟨none, 0, rfl, Nat.le_refl _, by omega, hS, fun j hj => absurd hj (by omega)⟩
  · exact ⟨_, _, rfl, h1, by unfold maxLen at h2; omega, hS, fun j hj => ⟨g, 0, rfl, lt_of_blk hg, fun i u hu => by
      have h3 := h.cells (g := g) rfl i u hu
      rwa [Addr.add_mid] at h3⟩⟩
theorem Kp.below {w w1 : World} {l : List (Nat × Obj)} (h : Kp w w1 l) : Below w.heap.size w w1 := h.1
end Go.Proofs.YtpmjiifdnnhecaaGreatDoor

/-
  What serves every walk: the code from a region on, blocks that are kept, cells of a block.
-/
namespace Go.Proofs.YtpmjiifdnnhecaaGreatDoor
open Go.RowKit Go.Shelf
set_option linter.unusedVariables false
set_option linter.unusedSimpArgs false

def headsC (n : Nat) : Code → Bool
  | .region m _ _ => m == n
  | .seq a _ => headsC n a
  | _ => false
def tailC (n : Nat) : Code → Option Code
  | .seq a b => if headsC n a then some (.seq a b) else match tailC n b with
    | some c => some c
    | none => tailC n a
  | .block _ c => tailC n c
  | .scope c => tailC n c
  | .loop c => tailC n c
  | .cond _ a b => match tailC n a with
    | some c => some c
    | none => tailC n b
  | c => if headsC n c then some c else none
theorem Kp.subs {w w1 : World} {l m : List (Nat × Obj)} (h : Kp w w1 l) (hs : ∀ p ∈ m, p ∈ l) : Kp w w1 m := ⟨h.1, fun p hp => h.2 p (hs p hp)⟩
theorem cells3 {w : World} {B : Nat} {T : TypeId} {x y z : Value} (h : w.heap[B]? = some (.cells #[x, y, z] T (0, 0))) :
    w.cell? ⟨B, 0, none⟩ = some x ∧ w.cell? ⟨B, 1, none⟩ = some y ∧ w.cell? ⟨B, 2, none⟩ = some z :=
  ⟨by rw [cell_of_row w _ 0 _ _ (0, 0) h]; rfl, by rw [cell_of_row w _ 1 _ _ (0, 0) h]; rfl, by rw [cell_of_row w _ 2 _ _ (0, 0) h]; rfl⟩
theorem cells2 {w : World} {B : Nat} {T : TypeId} {x y : Value} (h : w.heap[B]? = some (.cells #[x, y] T (0, 0))) :
    w.cell? ⟨B, 0, none⟩ = some x ∧ w.cell? ⟨B, 1, none⟩ = some y :=
  ⟨by rw [cell_of_row w _ 0 _ _ (0, 0) h]; rfl, by rw [cell_of_row w _ 1 _ _ (0, 0) h]; rfl⟩
theorem Kp.swap {w w1 : World} {a b : Nat × Obj} {l : List (Nat × Obj)} (h : Kp w w1 (a :: b :: l)) : Kp w w1 (b :: a :: l) := h.subs fun p hp => by
  rcases List.mem_cons.1 hp with rfl | hp
  · exact .tail _ (.head _)
  · rcases List.mem_cons.1 hp with rfl | hp
    · exact .head _
    · exact .tail _ (.tail _ hp)
theorem Kp.cons {w w1 : World} {l : List (Nat × Obj)} (h : Kp w w1 l) {B : Nat} {O : Obj} (hB : w1.heap[B]? = some O) : Kp w w1 ((B, O) :: l) := ⟨h.1, fun p hp => by
  rcases List.mem_cons.1 hp with rfl | hp
  · exact hB
  · exact h.2 p hp⟩
/-- The world of a walk may be taken as any that has what is known of it. -/
theorem wp_world {P : Program} {c : Code} {Q : Exit → Act → World → Prop} {fr : Act} {w1 : World} (R : World → Prop) (h : R w1) (k : ∀ w', R w' → Code.wp P c Q fr w') : Code.wp P c Q fr w1 := k w1 h
theorem kp_set4 {w w1 : World} {l : List (Nat × Obj)} (h : Kp w w1 l) {x y z u : Value} {T : TypeId} (a b c d : Value) :
    Kp w (((((w1.alloc (.cells #[x, y, z, u] T)).setCell ⟨w1.heap.size, 0, none⟩ a).setCell ⟨w1.heap.size, 1, none⟩ b).setCell ⟨w1.heap.size, 2, none⟩ c).setCell ⟨w1.heap.size, 3, none⟩ d) ((w1.heap.size, .cells #[a, b, c, d] T (0, 0)) :: l) := by
  have hs : w.heap.size ≤ w1.heap.size := h.1.size
  have k := h.alloc (.cells #[x, y, z, u] T)
  refine ⟨(((k.1.setCell (p := ⟨w1.heap.size, 0, none⟩) hs _).setCell (p := ⟨w1.heap.size, 1, none⟩) hs _).setCell (p := ⟨w1.heap.size, 2, none⟩) hs _).setCell (p := ⟨w1.heap.size, 3, none⟩) hs _, fun p hp => ?_⟩
  rcases List.mem_cons.1 hp with rfl | hp
  · exact blk_set4u (blk_alloc_new _ _) _ _ _ _
  · have hne : p.1 ≠ w1.heap.size := by have := lt_of_blk (h.2 p hp); omega
    refine (Below.heap_setCell _ _ _ _ hne).trans ((Below.heap_setCell _ _ _ _ hne).trans ((Below.heap_setCell _ _ _ _ hne).trans ((Below.heap_setCell _ _ _ _ hne).trans (k.2 p (.tail _ hp)))))
theorem cells4 {w : World} {B : Nat} {T : TypeId} {x y z u : Value} (h : w.heap[B]? = some (.cells #[x, y, z, u] T (0, 0))) :
    w.cell? ⟨B, 0, none⟩ = some x ∧ w.cell? ⟨B, 1, none⟩ = some y ∧ w.cell? ⟨B, 2, none⟩ = some z ∧ w.cell? ⟨B, 3, none⟩ = some u :=
  ⟨by rw [cell_of_row w _ 0 _ _ (0, 0) h]; rfl, by rw [cell_of_row w _ 1 _ _ (0, 0) h]; rfl, by rw [cell_of_row w _ 2 _ _ (0, 0) h]; rfl, by rw [cell_of_row w _ 3 _ _ (0, 0) h]; rfl⟩
end Go.Proofs.YtpmjiifdnnhecaaGreatDoor

/-
  LightBins: its round over four samples, from the sums on.
-/
namespace Go.Proofs.YtpmjiifdnnhecaaGreatDoor
open Go.RowKit Go.Shelf
set_option linter.unusedVariables false
set_option linter.unusedSimpArgs false

theorem Kp.drew {w w1 : World} {l : List (Nat × Obj)} (h : Kp w w1 l) : Kp w w1.drew l := ⟨h.1.drew, h.2⟩
end Go.Proofs.YtpmjiifdnnhecaaGreatDoor
