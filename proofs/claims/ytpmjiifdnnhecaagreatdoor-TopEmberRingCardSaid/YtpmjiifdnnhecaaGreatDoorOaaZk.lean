/-
  Contract of Peak for a right map: the greatest sample and its first place.
-/
import Derived.Test.YtpmjiifdnnhecaaGreatDoorOaaXk
import Derived.Test.YtpmjiifdnnhecaaGreatDoorOaaXe
import Derived.Test.YtpmjiifdnnhecaaGreatDoorOaaXg
import Derived.BigQuiet
import Derived.Test.YtpmjiifdnnhecaaGreatDoorOaaBd
import Derived.Test.YtpmjiifdnnhecaaGreatDoorOaaMb
import Derived.Test.YtpmjiifdnnhecaaGreatDoorOaaZh
import Derived.Test.YtpmjiifdnnhecaaGreatDoorOaaWk
import Derived.Test.YtpmjiifdnnhecaaGreatDoorOaaWy
import Derived.Lib.AppendStr
import Derived.Deep.CutBlock
import Derived.Deep.DeepCutAuto
import Derived.Test.YtpmjiifdnnhecaaGreatDoorOaaXd
import Derived.Test.YtpmjiifdnnhecaaGreatDoorOaaXi
namespace Go.Proofs.YtpmjiifdnnhecaaGreatDoor
open Go.RowKit Go.Shelf
set_option linter.unusedVariables false
set_option linter.unusedSimpArgs false
attribute [local go_sem] Oper.semAt_some

theorem rowf_own {β : Type} (B : Nat) (f : β → Array Value) (t : TypeId) : Own (fun (s : β) W => W.heap[B]? = some (.cells (f s) t (0, 0))) := fun s X Y row h hg hr =>
  (hg.block B (Array.getElem?_eq_some_iff.1 h).1 (fun e => by obtain ⟨o, ho, hc⟩ := hr B e.symm; rw [h] at ho; cases ho; cases hc)).trans h
theorem blk_set2 {w : World} {B : Nat} {T : TypeId} {x y : Value} (h : w.heap[B]? = some (.cells #[x, y] T (0, 0))) (a b : Value) : ((w.setCell ⟨B, 0, none⟩ a).setCell ⟨B, 1, none⟩ b).heap[B]? = some (.cells #[a, b] T (0, 0)) := by
  simp only [World.setCell, Array.getElem?_modify, if_true, h, Option.map_some]
  simp

end Go.Proofs.YtpmjiifdnnhecaaGreatDoor

/-
  Contracts of Peak, of the reference for a right map and of the program for every map.
-/
namespace Go.Proofs.YtpmjiifdnnhecaaGreatDoor
open Go.RowKit
set_option linter.unusedVariables false
set_option linter.unusedSimpArgs false

/-- The first index of the greatest integer among the first m. -/
def pkTo (ks : List Int) : Nat → Nat
  | 0 => 0
  | m + 1 => if ks[pkTo ks m]?.getD 0 < ks[m]?.getD 0 then m else pkTo ks m

theorem pkTo_lt (ks : List Int) : ∀ m, 1 ≤ m → pkTo ks m < m
  | 0, h => by omega
  | m + 1, _ => by
    unfold pkTo
    split
    · omega
    · rcases Nat.eq_zero_or_pos m with rfl | hm
      · simp [pkTo]
      · have := pkTo_lt ks m hm; omega

theorem order_gt {x y : Nat} {k l : Int} (hx : Smp x k) (hy : Smp y l) : (Ieee.single.order x y == some .gt) = decide (l < k) := by
  rw [hx.order hy]
  by_cases h : l < k
  · rw [cmp_gt_of h, decide_eq_true h]; rfl
  · rw [decide_eq_false h]
    have : compare k l ≠ .gt := by
      show compareOfLessAndEq _ _ ≠ _
      unfold compareOfLessAndEq
      split
      · simp
      · split
        · simp
        · omega
    cases hc : compare k l <;> simp_all

end Go.Proofs.YtpmjiifdnnhecaaGreatDoor

/-
  Plain mathematics of LightCut: parts, what is covered, what is placed; their sums and peaks.
-/

namespace Go.Proofs.YtpmjiifdnnhecaaGreatDoor
open Go.RowKit
set_option linter.unusedVariables false

/-! ### Parts, what is covered, what is placed -/
/-- The integers of a part. -/
def pieceK (W C0 DW R0 DH : Nat) (L : List Int) : List Int := (List.range (DW * DH)).map (fun j => L[(R0 + j / DW) * W + (C0 + j % DW)]?.getD 0)
theorem pieceK_get {W C0 DW R0 DH : Nat} {L : List Int} {j : Nat} (hj : j < DW * DH) : (pieceK W C0 DW R0 DH L)[j]?.getD 0 = L[(R0 + j / DW) * W + (C0 + j % DW)]?.getD 0 := by
  unfold pieceK; rw [List.getElem?_map, List.getElem?_range hj]; rfl
theorem pieceK_at {W C0 DW R0 DH : Nat} (L : List Int) {x y : Nat} (hx : x < DW) (hy : y < DH) : (pieceK W C0 DW R0 DH L)[y * DW + x]?.getD 0 = L[(R0 + y) * W + (C0 + x)]?.getD 0 := by
  rw [pieceK_get (by rw [Nat.mul_comm DW]; exact place_in hx hy), div_of hx, mod_of hx]
/-- What is covered: the columns before C0, and of those before C1 the rows before R. -/
def covered (C0 C1 R x y : Nat) : Prop := x < C0 ∨ (x < C1 ∧ y < R)
instance (C0 C1 R x y : Nat) : Decidable (covered C0 C1 R x y) := by unfold covered; infer_instance
/-! ### Peaks -/
theorem pkTo_max (ks : List Int) : ∀ m j, j < m → ks[j]?.getD 0 ≤ ks[pkTo ks m]?.getD 0
  | 0, j, h => by omega
  | m + 1, j, h => by
    unfold pkTo
    by_cases hj : j = m
    · subst hj; split <;> omega
    · have := pkTo_max ks m j (by omega)
      split <;> omega
/-- The greatest integer of what is covered, or the least one that there is. -/
def PeakOf (W H C0 C1 R : Nat) (L : List Int) (k : Int) : Prop :=
  (∀ x y, x < W → y < H → covered C0 C1 R x y → cellK W L x y ≤ k) ∧ (k = -16384 ∨ ∃ x y, x < W ∧ y < H ∧ covered C0 C1 R x y ∧ cellK W L x y = k)
theorem PeakOf.none (W H C1 : Nat) (L : List Int) : PeakOf W H 0 C1 0 L (-16384) :=
  ⟨fun x y _ _ h => by unfold covered at h; omega, .inl rfl⟩
theorem PeakOf.next {W H C0 C1 : Nat} {L : List Int} {k : Int} (h : PeakOf W H C0 C1 H L k) (hc : C0 ≤ C1) (C2 : Nat) : PeakOf W H C1 C2 0 L k := by
  refine ⟨fun x y hx hy hh => h.1 x y hx hy (by unfold covered at hh ⊢; omega), ?_⟩
  rcases h.2 with h2 | ⟨x, y, hx, hy, hh, e⟩
  · exact .inl h2
  · exact .inr ⟨x, y, hx, hy, by unfold covered at hh ⊢; omega, e⟩
theorem PeakOf.part {W H C0 DW R0 DH : Nat} {L : List Int} {k : Int} (h : PeakOf W H C0 (C0 + DW) R0 L k) (hC : 1 ≤ DW ∧ C0 + DW ≤ W) (hR : 1 ≤ DH ∧ R0 + DH ≤ H) :
    PeakOf W H C0 (C0 + DW) (R0 + DH) L (max k ((pieceK W C0 DW R0 DH L)[pkTo (pieceK W C0 DW R0 DH L) (DW * DH)]?.getD 0)) := by
  have hm : 1 ≤ DW * DH := Nat.mul_pos (by omega) (by omega)
  have hlt := pkTo_lt (pieceK W C0 DW R0 DH L) (DW * DH) hm
  constructor
  · intro x y hx hy hc
    by_cases h1 : covered C0 (C0 + DW) R0 x y
    · exact Int.le_trans (h.1 x y hx hy h1) (Int.le_max_left _ _)
    · have hw : C0 ≤ x ∧ x < C0 + DW ∧ R0 ≤ y ∧ y < R0 + DH := by unfold covered at hc h1; omega
      refine Int.le_trans ?_ (Int.le_max_right _ _)
      have e := pkTo_max (pieceK W C0 DW R0 DH L) (DW * DH) ((y - R0) * DW + (x - C0)) (by rw [Nat.mul_comm DW]; exact place_in (by omega) (by omega))
      rw [pieceK_at L (by omega) (by omega)] at e
      have e1 : R0 + (y - R0) = y := by omega
      have e2 : C0 + (x - C0) = x := by omega
      rw [e1, e2] at e
      exact e
  · rcases Int.le_total k ((pieceK W C0 DW R0 DH L)[pkTo (pieceK W C0 DW R0 DH L) (DW * DH)]?.getD 0) with hk | hk
    · rw [Int.max_eq_right hk]
      refine .inr ⟨C0 + pkTo (pieceK W C0 DW R0 DH L) (DW * DH) % DW, R0 + pkTo (pieceK W C0 DW R0 DH L) (DW * DH) / DW, ?_, ?_, ?_, ?_⟩
      · have := Nat.mod_lt (pkTo (pieceK W C0 DW R0 DH L) (DW * DH)) (show DW > 0 by omega); omega
      · have : pkTo (pieceK W C0 DW R0 DH L) (DW * DH) / DW < DH := (Nat.div_lt_iff_lt_mul (by omega)).2 (by rw [Nat.mul_comm DH DW]; exact hlt)
        omega
      · have := Nat.mod_lt (pkTo (pieceK W C0 DW R0 DH L) (DW * DH)) (show DW > 0 by omega)
        have : pkTo (pieceK W C0 DW R0 DH L) (DW * DH) / DW < DH := (Nat.div_lt_iff_lt_mul (by omega)).2 (by rw [Nat.mul_comm DH DW]; exact hlt)
        unfold covered; omega
      · rw [pieceK_get hlt]; rfl
    · rw [Int.max_eq_left hk]
      rcases h.2 with h2 | ⟨x, y, hx, hy, hh, e⟩
      · exact .inl h2
      · exact .inr ⟨x, y, hx, hy, by unfold covered at hh ⊢; omega, e⟩
theorem PeakOf.all {W H n C1 R : Nat} {L : List Int} {k : Int} (h : PeakOf W H W C1 R L k) (hn : H * W = n) (hn1 : 1 ≤ n) (hs : ∀ j, j < n → (L[j]?.getD 0).natAbs ≤ 16384) : k = L[pkTo L n]?.getD 0 := by
  have hlt := pkTo_lt L n hn1
  have hW : 0 < W := by
    rcases Nat.eq_zero_or_pos W with h0 | h0
    · rw [h0, Nat.mul_zero] at hn; omega
    · exact h0
  have hb := hs _ hlt
  have e : pkTo L n / W * W + pkTo L n % W = pkTo L n := by rw [Nat.mul_comm]; exact Nat.div_add_mod _ _
  have h1 := h.1 (pkTo L n % W) (pkTo L n / W) (Nat.mod_lt _ hW) ((Nat.div_lt_iff_lt_mul hW).2 (by omega)) (.inl (Nat.mod_lt _ hW))
  unfold cellK at h1
  rw [e] at h1
  rcases h.2 with h2 | ⟨x, y, hx, hy, hh, e2⟩
  · omega
  · have := pkTo_max L n (y * W + x) (by rw [← hn]; exact place_in hx hy)
    unfold cellK at e2
    omega
end Go.Proofs.YtpmjiifdnnhecaaGreatDoor

/-
  Contracts of streamSize and of appendNumber: four bytes of a number behind a row of bytes that the caller owns.
-/

namespace Go.Proofs.YtpmjiifdnnhecaaGreatDoor
open Go.RowKit
set_option linter.unusedVariables false

/-- The four bytes of a number, the greatest one first. -/
def wordOf (x : Int) : List Int := [byt x 3, byt x 2, byt x 1, byt x 0]
theorem blk_set4 {w : World} {B : Nat} {T : TypeId} {x y z u : Value} (h : w.heap[B]? = some (.cells #[x, y, z, u] T (0, 0))) (a b c d : Value) :
    ((((w.setCell ⟨B, 3, none⟩ d).setCell ⟨B, 2, none⟩ c).setCell ⟨B, 1, none⟩ b).setCell ⟨B, 0, none⟩ a).heap[B]? = some (.cells #[a, b, c, d] T (0, 0)) := by
  simp only [World.setCell, Array.getElem?_modify, if_true, h, Option.map_some]
  simp
theorem Tryz.infoByte : (Tryz.prog.info? 5).map (fun i => (i.zero, i.size, i.bytes)) = some (some (.int .u8 0), 1, 1) := by kernel_rfl

set_option maxHeartbeats 800000 in
theorem streamSize_any (W H : Nat) (hW : W ≤ 64) (hH : H ≤ 64) (w : World) :
    Calls Tryz.prog 165 #[.int .i64 W, .int .i64 H] w fun e w' => e = .returned (.int .i64 ((10 + 4 * (W * H) : Nat) : Int)) ∧ w = w' := by
  have hm : W * H ≤ 64 * 64 := Nat.mul_le_mul hW hH
  have e1 : 4 * (W : Int) * (H : Int) = ((4 * (W * H) : Nat) : Int) := by push_cast; rw [Int.mul_assoc]
  have i1 : IntKind.i64.wrap (4 * (W : Int)) = 4 * (W : Int) := IntWalk.i64_in _ ⟨by omega, by omega⟩
  obtain ⟨q, hq⟩ : ∃ q : Nat, 4 * (W * H) = q := ⟨_, rfl⟩
  rw [hq] at e1
  have hq4 : q ≤ 16384 := by omega
  have e2 : ((10 + 4 * (W * H) : Nat) : Int) = 6 + (q : Int) + 4 := by omega
  rw [e2]
  have i2 : IntKind.i64.wrap (q : Int) = (q : Int) := IntWalk.i64_in _ ⟨by omega, by omega⟩
  have i3 : IntKind.i64.wrap (6 + (q : Int)) = 6 + (q : Int) := IntWalk.i64_in _ ⟨by omega, by omega⟩
  have i4 : IntKind.i64.wrap (6 + (q : Int) + 4) = 6 + (q : Int) + 4 := IntWalk.i64_in _ ⟨by omega, by omega⟩
  clear hq e2 hm
  go_enter Tryz.func165, Tryz.ntmps165
  go_wp2
  go_ret
  exact ⟨rfl, rfl⟩

set_option maxRecDepth 100000 in
set_option maxHeartbeats 3200000 in
theorem appendNumber_any (B : Nat) (v : Value) (n : Nat) (xs : List Value) (x : Int) (h0 : 0 ≤ x) (h1 : x ≤ 4294967295) (hn : n ≤ 100000) (w : World) (h : w.ownsRow B 5 1 v n xs) (hB : B ≤ w.heap.size) :
    Calls Tryz.prog 166 #[v, .int .i64 x] w fun e w' => ∃ v', e = .returned v' ∧ w'.ownsRow B 5 1 v' (n + 4) (xs ++ (wordOf x).map (Value.int .u8)) ∧ Below B w w' ∧ (∀ k, k < w.heap.size → v.ownBlock ≠ some k → w'.heap[k]? = w.heap[k]?) := by
  obtain ⟨i0, hi, hz0, hz1, hz2⟩ := info_parts Tryz.infoByte
  obtain ⟨ao, c, rfl⟩ := owns_slice h
  obtain ⟨W1, hW1⟩ : ∃ W1, w.alloc (.cells #[.int .u8 0, .int .u8 0, .int .u8 0, .int .u8 0] 298) = W1 := ⟨_, rfl⟩
  have hB1 : Below w.heap.size w W1 := by rw [← hW1]; exact (Below.refl _ w).alloc (Nat.le_refl _) _
  have b1 : W1.heap[w.heap.size]? = some (.cells #[.int .u8 0, .int .u8 0, .int .u8 0, .int .u8 0] 298 (0, 0)) := by rw [← hW1]; exact blk_alloc_new _ _
  have f1 : ∀ j, W1.frozen? ⟨w.heap.size, j, none⟩ = false := fun j => by simp [World.frozen?, b1]
  have K := Lib.hid (write4_any W1 w.heap.size 0 4 x h0 h1 (by rw [cell_of_row W1 _ 0 _ _ (0, 0) b1]; rfl) (by rw [cell_of_row W1 _ 1 _ _ (0, 0) b1]; rfl) (by rw [cell_of_row W1 _ 2 _ _ (0, 0) b1]; rfl) (by rw [cell_of_row W1 _ 3 _ _ (0, 0) b1]; rfl) (f1 0) (f1 1) (f1 2) (f1 3))
  have hO1 : W1.ownsRow B 5 1 (.slice ao n c) n xs := by rw [← hW1]; exact h.alloc _
  have hlt := h.lt
  have hO2 : ((((W1.setCell ⟨w.heap.size, 3, none⟩ (.int .u8 (byt x 0))).setCell ⟨w.heap.size, 2, none⟩ (.int .u8 (byt x 1))).setCell ⟨w.heap.size, 1, none⟩ (.int .u8 (byt x 2))).setCell ⟨w.heap.size, 0, none⟩ (.int .u8 (byt x 3))).ownsRow B 5 1 (.slice ao n c) n xs := by
    have nb : (Value.slice ao n c).ownBlock = none ∨ (Value.slice ao n c).ownBlock ≠ some w.heap.size := by
      cases e : (Value.slice ao n c).ownBlock with
      | none => exact .inl rfl
      | some k => exact .inr fun e' => by have := (hlt k e).2; have := Option.some.inj e'; omega
    exact (((hO1.kept (OnlyBlk.set _ _ _ _).1 nb).kept (OnlyBlk.set _ _ _ _).1 nb).kept (OnlyBlk.set _ _ _ _).1 nb).kept (OnlyBlk.set _ _ _ _).1 nb
  have b2 := blk_set4 b1 (.int .u8 (byt x 3)) (.int .u8 (byt x 2)) (.int .u8 (byt x 1)) (.int .u8 (byt x 0))
  have hB2 : Below w.heap.size w ((((W1.setCell ⟨w.heap.size, 3, none⟩ (.int .u8 (byt x 0))).setCell ⟨w.heap.size, 2, none⟩ (.int .u8 (byt x 1))).setCell ⟨w.heap.size, 1, none⟩ (.int .u8 (byt x 2))).setCell ⟨w.heap.size, 0, none⟩ (.int .u8 (byt x 3))) :=
    ((((hB1.setCell (p := ⟨w.heap.size, 3, none⟩) (Nat.le_refl _) _).setCell (p := ⟨w.heap.size, 2, none⟩) (Nat.le_refl _) _).setCell (p := ⟨w.heap.size, 1, none⟩) (Nat.le_refl _) _).setCell (p := ⟨w.heap.size, 0, none⟩) (Nat.le_refl _) _)
  obtain ⟨W2, hW2⟩ : ∃ W2, ((((W1.setCell ⟨w.heap.size, 3, none⟩ (.int .u8 (byt x 0))).setCell ⟨w.heap.size, 2, none⟩ (.int .u8 (byt x 1))).setCell ⟨w.heap.size, 1, none⟩ (.int .u8 (byt x 2))).setCell ⟨w.heap.size, 0, none⟩ (.int .u8 (byt x 3))) = W2 := ⟨_, rfl⟩
  rw [hW2] at hO2 b2 hB2
  have K' : Hid (Calls Tryz.prog 212 #[.slice (some ⟨w.heap.size, 0, none⟩) 4 4, .int .i64 x] W1 fun e w' => e = .returned (.tuple #[]) ∧ w' = W2) := Lib.hid (by
    have k := K.out
    simp only [Nat.zero_add] at k
    rw [hW2] at k
    exact k)
  have HC : Hid (∀ j u, ((wordOf x).map (Value.int .u8))[j]? = some u → W2.cell? ((⟨w.heap.size, 0, none⟩ : Addr).add j) = some u) := Lib.hid fun j u hu => by
    rw [Addr.add_mid, Nat.zero_add, cell_of_row W2 _ j _ _ (0, 0) b2]
    simpa [wordOf] using hu
  have HO2 := Lib.hid hO2
  have HB2 := Lib.hid hB2
  clear K hW2 f1 b1 b2 hO1 hO2 hB1 hB2 h
  go_enter Tryz.func166, Tryz.ntmps166
  go_upto_region 2 with fail
  try rw [hW1]
  clear hW1
  go_wp2_with (first
    | (go_at_call 212; refine K'.out.mono ?_; rintro e w' ⟨rfl, rfl⟩)
    | (at_builtin; refine wpList_append_own _ rfl (.tmp 9) (.tmp 10) 143 rfl B 5 i0 (.int .u8 0) 1 1 Tryz.underlying143 hi hz0 hz1 hz2 rfl (by decide) _ _ _ rfl HO2.out ⟨w.heap.size, 0, none⟩ 4 4 ((wordOf x).map (Value.int .u8)) rfl rfl HC.out (by intro u hu; obtain ⟨y, _, rfl⟩ := List.mem_map.1 hu; rfl) (by unfold maxLen; omega) (by omega) (by have := HB2.out.size; omega) ?_; intro v' w3 hown3 hgrow3 _))
  go_ret
  exact ⟨_, rfl, hown3, (HB2.out.mono hB).grown hgrow3 (by have := HB2.out.size; omega) (fun k hk => (HO2.out.lt k hk).1), fun k hk hne => (hgrow3.block k (by have := HB2.out.size; omega) (fun e => hne e.symm)).trans (HB2.out.block k hk)⟩
end Go.Proofs.YtpmjiifdnnhecaaGreatDoor

/-
  Contract of Pack for a right map: the bytes of its stream.
-/
namespace Go.Proofs.YtpmjiifdnnhecaaGreatDoor
open Go.RowKit
set_option linter.unusedVariables false

def packHead (W H : Nat) : List Int := [76, 77, 65, 80, W, H]
def packBody (ks : List Int) : List Int := ks.flatMap (fun k => wordOf (smpOf k))
def packS (W H : Nat) (ks : List Int) : List Int := packHead W H ++ packBody ks
def packL (W H : Nat) (ks : List Int) : List Int := packS W H ks ++ wordOf (chkOf (packS W H ks))
theorem packBody_len (ks : List Int) : (packBody ks).length = 4 * ks.length := by
  induction ks with
  | nil => rfl
  | cons k ks ih => simp [packBody, wordOf] at ih ⊢; omega
theorem packBody_succ (ks : List Int) (k : Nat) (hk : k < ks.length) : packBody (ks.take (k + 1)) = packBody (ks.take k) ++ wordOf (smpOf (ks[k]?.getD 0)) := by
  rw [List.take_succ_eq_append_getElem hk, packBody, List.flatMap_append, List.getElem?_eq_getElem hk]; simp [packBody]
theorem byte_bd {W H : Nat} {ks : List Int} (hW : W ≤ 64) (hH : H ≤ 64) : ∀ x ∈ packS W H ks, 0 ≤ x ∧ x ≤ 255 := by
  intro x hx
  rcases List.mem_append.1 hx with h | h
  · simp [packHead] at h; omega
  · obtain ⟨k, _, h⟩ := List.mem_flatMap.1 h
    simp [wordOf] at h
    rcases h with rfl | rfl | rfl | rfl <;> exact byt_bd _ _

theorem run_bits32 (d : Nat) : ∀ w : World, (callFunc 167 #[.float .f32 d]).run Tryz.prog w = .ok (.value (.int .u32 d)) w := fun w => by kernel_rfl
theorem smpOf_word (n : Int) (hn : n.natAbs < 2 ^ 24) : smpOf n < 2 ^ 32 := by
  have := floatBits_wf (smpOf_run n hn)
  simpa [Lit.wf] using this
theorem not_own {w : World} {B n ga : Nat} {v : Value} {x y : Int} {xs : List Value} (h : w.ownsRow B 5 1 v n (.int .u8 x :: xs)) (hr : w.cell? ⟨ga, 0, none⟩ = some (.int .i64 y)) : v.ownBlock ≠ some ga := by
  intro e
  have k := h.cells (g := ga) e 0 (.int .u8 x) rfl
  rw [Addr.add_mid] at k
  rw [hr] at k
  cases k
theorem row_same {w w' : World} {ga n : Nat} {ks : List Int} (h : RowAt w ga n ks) (hb : w'.heap[ga]? = w.heap[ga]?) : RowAt w' ga n ks :=
  ⟨(by
    have h1 := h.lt
    rcases Nat.lt_or_ge ga w'.heap.size with h2 | h2
    · exact h2
    · rw [Array.getElem?_eq_none h2] at hb
      rw [Array.getElem?_eq_getElem h1] at hb
      exact absurd hb (by simp)), fun j hj => (World.cell?_of_block (w := w) (w' := w') (a := ⟨ga, j, none⟩) hb).trans (h.cells j hj)⟩

set_option maxRecDepth 100000 in
set_option maxHeartbeats 6400000 in
theorem pack_any (W H : Nat) (b o c n : Nat) (xs : List Nat) (ks : List Int) (w : World) (hA : RightMap w W H b o n xs ks) (hb : b < w.heap.size) :
    Calls Tryz.prog 75 #[.agg #[.int .i64 W, .int .i64 H, .slice (some ⟨b, o, none⟩) n c]] w fun e w' =>
      ∃ v, e = .returned (.tuple #[v, .int .i64 0]) ∧ w'.ownsRow w.heap.size 5 1 v (10 + 4 * n) ((packL W H ks).map (Value.int .u8)) ∧ Below w.heap.size w w' := by
  obtain ⟨i0, hi, hz0, hz1, hz2⟩ := info_parts Tryz.infoByte
  obtain ⟨W0, hW0⟩ : ∃ W0, w.alloc (.cells #[.int .i64 W, .int .i64 H, .slice (some ⟨b, o, none⟩) n c] 121) = W0 := ⟨_, rfl⟩
  have hB0 : Below w.heap.size w W0 := by rw [← hW0]; exact (Below.refl _ w).alloc (Nat.le_refl _) _
  have hS0 : W0.heap.size = w.heap.size + 1 := by rw [← hW0]; simp
  have a0 : W0.cell? ⟨w.heap.size, 0, none⟩ = some (.int .i64 W) := by rw [← hW0]; simp [go_sem]
  have a1 : W0.cell? ⟨w.heap.size, 1, none⟩ = some (.int .i64 H) := by rw [← hW0]; simp [go_sem]
  have a2 : W0.cell? ⟨w.heap.size, 2, none⟩ = some (.slice (some ⟨b, o, none⟩) n c) := by rw [← hW0]; simp [go_sem]
  have K1 := Lib.hid (checkMap_any W H b o n c xs ks W0 (hA.below hB0 hb) (by omega))
  have K2 : Hid (∀ w1 : World, Below W0.heap.size W0 w1 → Calls Tryz.prog 135 #[.agg #[.int .i64 W, .int .i64 H, .slice (some ⟨b, o, none⟩) n c]] w1 fun e w' =>
      ∃ g, e = .returned (.agg #[.int .i64 W, .int .i64 H, .slice (some ⟨g, 0, none⟩) n n]) ∧ w1.heap.size ≤ g ∧ RowAt w' g n ks ∧ Below w1.heap.size w1 w') := Lib.hid (fun w1 h => by
    have h1 := h.size
    have h2 := hB0.trans (h.mono (by omega))
    exact grid_row W H b o n c xs ks w1 (hA.below h2 hb).toWords (by omega))
  have hWi := hA.wid
  have hHe := hA.hei
  have hW64 : W ≤ 64 := by omega
  have hH64 : H ≤ 64 := by omega
  have hN : W * H = n := by have := hA.area; exact_mod_cast this
  have hsm := hA.small
  have KSZ : Hid (∀ w1 : World, Calls Tryz.prog 165 #[.int .i64 W, .int .i64 H] w1 fun e w' => e = .returned (.int .i64 ((10 + 4 * n : Nat) : Int)) ∧ w1 = w') := Lib.hid fun w1 => by have h := streamSize_any W H hW64 hH64 w1; rw [hN] at h; exact h
  have HB0 := Lib.hid hB0
  have HS0 := Lib.hid hS0
  have HRA := Lib.hid hA
  have HN := Lib.hid hN
  clear hA hB0 hN
  go_enter Tryz.func75, Tryz.ntmps75
  go_upto_region 1 with fail
  try rw [hW0]
  clear hW0
  go_upto_region 4 with (
    ((go_at_call 134; refine K1.out.mono ?_; rintro e w1 ⟨rfl, hb1⟩)))
  have hs1 := hb1.size
  have a0' := (hb1.cell (p := ⟨w.heap.size, 0, none⟩) (by show w.heap.size < _; omega)).trans a0
  have a1' := (hb1.cell (p := ⟨w.heap.size, 1, none⟩) (by show w.heap.size < _; omega)).trans a1
  have a2' := (hb1.cell (p := ⟨w.heap.size, 2, none⟩) (by show w.heap.size < _; omega)).trans a2
  have HB1 := Lib.hid hb1
  clear a0 a1 a2 hb1
  go_upto_region 5 with (first
    | (go_at_call 165; refine (KSZ.out _).mono ?_; rintro e w9 ⟨rfl, rfl⟩)
    | (at_make; refine wpList_make_own _ rfl _ _ 143 rfl w1.heap.size 5 i0 (.int .u8 0) 1 Tryz.underlying143 hi hz0 hz1 _ _ _ (10 + 4 * n) rfl rfl (by omega) (by rw [hz2]; omega) (by unfold maxLen; omega) (Nat.le_refl _) ?_; intro w2 hown2 hgrow2))
  have hb2 : Below w1.heap.size w1 w2 := (Below.refl _ _).grown hgrow2 (Nat.le_refl _) (fun k h => by cases h)
  have hsz2 := hb2.size
  go_upto_region 6 with (
    (at_builtin; go_loud (refine Lib.wpList_append_own_string _ rfl (.tmp 19) (.const (.string ⟨#[76, 77, 65, 80]⟩)) 143 9 rfl w1.heap.size 5 i0 Tryz.underlying143 Tryz.underlying9 hi hz0 hz1 hz2 _ 0 [] rfl hown2 ⟨#[76, 77, 65, 80]⟩ rfl (by show 0 + 4 ≤ maxLen; unfold maxLen; omega) (by show 0 + 4 ≤ _; omega) (by omega) ?_; intro v3 w3 hown3 hgrow3 _)))
  have hown3' : w3.ownsRow w1.heap.size 5 1 v3 4 (([76, 77, 65, 80] : List Int).map (Value.int .u8)) := by
    have h := hown3
    rw [show ([] : List Value) ++ Lib.strCells ⟨#[76, 77, 65, 80]⟩ = ([76, 77, 65, 80] : List Int).map (Value.int .u8) from rfl] at h
    exact h
  have hb3 : Below w1.heap.size w1 w3 := hb2.grown hgrow3 (by omega) (fun k hk => (hown2.lt k hk).1)
  have hsz3 := hb3.size
  obtain ⟨ao3, c3, rfl⟩ := owns_slice hown3'
  have hlw : w.heap.size < w1.heap.size := by omega
  have q0 := (hb3.cell (p := ⟨w.heap.size, 0, none⟩) (by show w.heap.size < _; omega)).trans a0'
  have q1 := (hb3.cell (p := ⟨w.heap.size, 1, none⟩) (by show w.heap.size < _; omega)).trans a1'
  have q2 := (hb3.cell (p := ⟨w.heap.size, 2, none⟩) (by show w.heap.size < _; omega)).trans a2'
  have u1 : IntKind.u8.wrap (W : Int) = (W : Int) := IntWalk.u8_in _ ⟨by omega, by omega⟩
  have u2 : IntKind.u8.wrap (H : Int) = (H : Int) := IntWalk.u8_in _ ⟨by omega, by omega⟩
  have hown4 : (w3.alloc (.cells #[.int .u8 W, .int .u8 H] 5)).ownsRow w1.heap.size 5 1 (.slice ao3 4 c3) 4 (([76, 77, 65, 80] : List Int).map (Value.int .u8)) := hown3'.alloc _
  have bN : (w3.alloc (.cells #[.int .u8 W, .int .u8 H] 5)).heap[w3.heap.size]? = some (.cells #[.int .u8 W, .int .u8 H] 5 (0, 0)) := blk_alloc_new _ _
  have HC : Hid (∀ j u, ([.int .u8 W, .int .u8 H] : List Value)[j]? = some u → (w3.alloc (.cells #[.int .u8 W, .int .u8 H] 5)).cell? ((⟨w3.heap.size, 0, none⟩ : Addr).add j) = some u) := Lib.hid fun j u hu => by
    rw [Addr.add_mid, Nat.zero_add, cell_of_row _ _ j _ _ (0, 0) bN]
    simpa using hu
  have HO4 := Lib.hid hown4
  have HB3 := Lib.hid hb3
  clear hown2 hgrow2 hown3 hown3' hgrow3 hb2 hb3 a0' a1' a2' hown4 bN
  go_upto_region 7 with (
    (at_builtin; refine wpList_append_own _ rfl (.tmp 21) (.tmp 28) 143 rfl w1.heap.size 5 i0 (.int .u8 0) 1 1 Tryz.underlying143 hi hz0 hz1 hz2 rfl (by decide) _ _ _ rfl HO4.out ⟨w3.heap.size, 0, none⟩ 2 2 [.int .u8 W, .int .u8 H] rfl rfl HC.out (by intro u hu; simp at hu; rcases hu with rfl | rfl <;> rfl) (by unfold maxLen; omega) (by omega) (by simp; omega) ?_; intro v5 w5 hown5 hgrow5 _))
  have hown5' : w5.ownsRow w1.heap.size 5 1 v5 6 ((packHead W H).map (Value.int .u8)) := hown5
  have hb5 : Below w1.heap.size w1 w5 := (HB3.out.alloc (by omega) _).grown hgrow5 (by simp; omega) (fun k hk => (HO4.out.lt k hk).1)
  have hsz5 := hb5.size
  obtain ⟨ao5, c5, rfl⟩ := owns_slice hown5'
  have q0' := (hb5.cell (p := ⟨w.heap.size, 0, none⟩) (by show w.heap.size < _; omega)).trans ((HB3.out.cell (p := ⟨w.heap.size, 0, none⟩) (by show w.heap.size < _; omega)).symm.trans q0)
  have q1' := (hb5.cell (p := ⟨w.heap.size, 1, none⟩) (by show w.heap.size < _; omega)).trans ((HB3.out.cell (p := ⟨w.heap.size, 1, none⟩) (by show w.heap.size < _; omega)).symm.trans q1)
  have q2' := (hb5.cell (p := ⟨w.heap.size, 2, none⟩) (by show w.heap.size < _; omega)).trans ((HB3.out.cell (p := ⟨w.heap.size, 2, none⟩) (by show w.heap.size < _; omega)).symm.trans q2)
  have K3 := Lib.hid (K2.out w5 (HB1.out.trans (hb5.mono hs1)))
  have HO5 := Lib.hid hown5'
  have HB5 := Lib.hid hb5
  clear q0 q1 q2 hown5 hown5' hgrow5 hb5 HC
  go_upto_block 0 with (
    ((go_at_call 135; refine K3.out.mono ?_; rintro e w6 ⟨ga, rfl, hga, hRA, hb6⟩
      have hfld : ∀ u : World, (Instr.field 225 (.agg #[.int .i64 W, .int .i64 H, .slice (some ⟨ga, 0, none⟩) n n]) 2).run Tryz.prog u = .ok (.slice (some ⟨ga, 0, none⟩) n n) u := fun _ => by kernel_rfl)))
  have hsz6 := hb6.size
  have hown6 := owns_kept HO5.out hb6 (Nat.le_refl _)
  have hlt5 := HO5.out.lt
  have hne5 : ∀ k, (Value.slice ao5 6 c5).ownBlock = some k → k < w5.heap.size := fun k hk => (hlt5 k hk).2
  have hn1 : 1 ≤ n := by have := HN.out; have := Nat.mul_le_mul (show 1 ≤ W by omega) (show 1 ≤ H by omega); omega
  have HO6 := Lib.hid hown6
  have HB6 := Lib.hid (HB5.out.trans (hb6.mono hsz5))
  have HRW := Lib.hid hRA
  clear hown6 hlt5 hne5 hb6 hRA q0' q1' q2'
  go_cut [5] (fun s5 wr => ∃ v, s5 = v ∧ wr.ownsRow w1.heap.size 5 1 v (6 + 4 * n) ((packS W H ks).map (Value.int .u8)) ∧ Below w1.heap.size w1 wr)
  case first =>
    go_wp2_with fail
    go_loopw [5, 34] (fun v i wr => ∃ k : Nat, k ≤ n ∧ i = .int .i64 k ∧ wr.ownsRow w1.heap.size 5 1 v (6 + 4 * k) ((packHead W H ++ packBody (ks.take k)).map (Value.int .u8)) ∧ Below w1.heap.size w1 wr ∧ RowAt wr ga n ks)
      (fun _ i _ => n - (intOf i).toNat)
    case atStart => exact ⟨0, Nat.zero_le _, rfl, HO6.out, HB6.out, HRW.out⟩
    case round =>
      obtain ⟨k, hk, rfl, hown, hnx, hrw⟩ := hrel
      by_cases hlt : k < n
      · have hc := hrw.cells k hlt
        have hgl := hrw.lt
        have hne := not_own hown (hrw.cells 0 (by omega))
        have hb16 := HRA.out.sizes k hlt
        obtain ⟨kj, hkj⟩ : ∃ kj : Int, ks[k]?.getD 0 = kj := ⟨_, rfl⟩
        rw [hkj] at hc hb16
        have hsl := smpOf_word kj (Nat.lt_of_le_of_lt hb16 (by decide))
        have hsu := packBody_succ ks k (by rw [HRA.out.lenk]; exact hlt)
        rw [hkj] at hsu
        have KA := Lib.hid (appendNumber_any w1.heap.size _ (6 + 4 * k) _ (smpOf kj : Nat) (by omega) (by omega) (by omega) wr hown hnx.size)
        have hb32 := run_bits32 (smpOf kj)
        have HNX := Lib.hid hnx
        have HRR := Lib.hid hrw
        have HNE := Lib.hid hne
        have HSU := Lib.hid hsu
        have HB16 := Lib.hid hb16
        clear hown hnx hrw hne hsu hkj hb16
        go_wp2_with (first
          | (go_at_call 168; refine (sample_any _ (Nat.lt_of_le_of_lt HB16.out (by decide)) _).mono ?_; rintro e w9 ⟨rfl, rfl⟩)
          | (go_at_call 166; refine KA.out.mono ?_; rintro e w8 ⟨v8, rfl, hown8, hb8, hk8⟩))
        go_roundw
        case rel =>
          refine ⟨k + 1, by omega, by go_num, ?_, HNX.out.trans hb8, row_same HRR.out (hk8 ga hgl HNE.out)⟩
          rw [HSU.out, ← List.append_assoc, List.map_append]
          exact hown8
        case measure => simp [intOf]; omega
      · obtain rfl : k = n := by omega
        rw [List.take_of_length_le (by rw [HRA.out.lenk]; omega)] at hown
        go_wp2_with fail
        go_meet
        exact ⟨_, rfl, hown, hnx⟩
  case rest =>
    obtain ⟨v, rfl, hown, hbr⟩ := hcut
    obtain ⟨g7, c7, rfl, hg7, hgB7⟩ := owns_some hown (by omega)
    have hpl : (packS W H ks).length = 6 + 4 * n := by rw [packS, List.length_append, packBody_len, HRA.out.lenk]; rfl
    have hbyte := byte_bd (ks := ks) hW64 hH64
    have hck := chk_bd (packS W H ks)
    have hget : ∀ j, j < 6 + 4 * n → (packS W H ks)[j]?.getD 0 ∈ packS W H ks := fun j hj => by
      rw [List.getElem?_eq_getElem (by rw [hpl]; exact hj)]; exact List.getElem_mem _
    have KC := Lib.hid (checksum_any g7 0 (6 + 4 * n) c7 (packS W H ks) wc hpl (by omega) (fun j hj => hbyte _ (hget j hj)) (fun j hj => by
      rw [Nat.zero_add]
      exact owns_cell hown (by rw [List.getElem?_map, List.getElem?_eq_getElem (by rw [hpl]; exact hj)]; rfl)))
    have KA := Lib.hid (appendNumber_any w1.heap.size _ (6 + 4 * n) _ (chkOf (packS W H ks)) hck.1 (by omega) (by omega) wc hown hbr.size)
    have HBR := Lib.hid hbr
    clear hpl hbyte hck hget hown hbr
    go_wp2_with (first
      | (go_at_call 169; refine KC.out.mono ?_; rintro e w9 ⟨rfl, rfl⟩)
      | (go_at_call 166; refine KA.out.mono ?_; rintro e w8 ⟨v8, rfl, hown8, hb8, _⟩))
    go_ret2
    refine ⟨_, rfl, owns_base ?_ (show w.heap.size ≤ w1.heap.size by omega), (HB0.out.trans ((HB1.out.trans ((HBR.out.trans hb8).mono hs1)).mono (by have := HS0.out; omega)))⟩
    rw [show 10 + 4 * n = 6 + 4 * n + 4 by omega, packL, List.map_append]
    exact hown8
end Go.Proofs.YtpmjiifdnnhecaaGreatDoor

/-
  Right maps in memory, by their integers; what own, Total, Spread, Flipped, Turned, CheckMap and SameMap make of them.
-/

namespace Go.Proofs.YtpmjiifdnnhecaaGreatDoor
open Go.RowKit
set_option linter.unusedVariables false
set_option linter.unusedSimpArgs false

/-- A right map with these integers lies there. -/
def RM (w : World) (W H n : Nat) (L : List Int) (b o : Nat) : Prop := b < w.heap.size ∧ ∃ xs, RightMap w W H b o n xs L
theorem RM.kept {w w' : World} {W H n b o : Nat} {L : List Int} (h : RM w W H n L b o) (hb : Below w.heap.size w w') : RM w' W H n L b o := by
  obtain ⟨h1, xs, h2⟩ := h
  exact ⟨Nat.lt_of_lt_of_le h1 hb.size, xs, h2.below hb h1⟩
theorem RM.any {w : World} {W H n b o : Nat} {L : List Int} (h : RM w W H n L b o) (c : Nat) : ∃ xs, AnyMap w (some ⟨b, o, none⟩) n c xs ∧ RightMap w W H b o n xs L := by
  obtain ⟨h1, xs, h2⟩ := h
  exact ⟨xs, ⟨h2.len, h2.words, .inr ⟨_, rfl⟩, fun j hj => ⟨b, o, rfl, h1, h2.cells⟩⟩, h2⟩
theorem RM.len {w : World} {W H n b o : Nat} {L : List Int} (h : RM w W H n L b o) : L.length = n := by obtain ⟨_, xs, h2⟩ := h; exact h2.lenk
theorem RM.area {w : World} {W H n b o : Nat} {L : List Int} (h : RM w W H n L b o) : H * W = n := by
  obtain ⟨_, xs, h2⟩ := h
  have := h2.area
  rw [Nat.mul_comm]; exact_mod_cast this
theorem RM.of_cells {w : World} {W H n g : Nat} {L : List Int} (hl : L.length = n) (hn : n ≤ 4096) (hs : ∀ j, j < n → (L[j]?.getD 0).natAbs ≤ 16384) (hW : 1 ≤ W ∧ W ≤ 64) (hH : 1 ≤ H ∧ H ≤ 64) (hA : H * W = n)
    (hg : g < w.heap.size) (hc : ∀ j, j < n → w.cell? ⟨g, j, none⟩ = some (.float .f32 (smpOf (L[j]?.getD 0)))) : RM w W H n L g 0 := by
  have e : ∀ j, j < n → (L.map smpOf)[j]?.getD 0 = smpOf (L[j]?.getD 0) := fun j hj => by rw [List.getElem?_map, List.getElem?_eq_getElem (by omega)]; rfl
  refine ⟨hg, L.map smpOf, ⟨⟨by rw [List.length_map]; exact hl, hl, hn, fun j hj => ?_, fun j hj => ?_, fun j hj => ?_, hs⟩, by omega, by omega, ?_⟩⟩
  · rw [Nat.zero_add, e j hj]; exact hc j hj
  · rw [e j hj]; exact smpOf_word _ (Nat.lt_of_le_of_lt (hs j hj) (by decide))
  · rw [e j hj]; exact smpOf_smp _ (Nat.lt_of_le_of_lt (hs j hj) (by decide))
  · rw [← hA]; push_cast; rw [Int.mul_comm]

theorem rm_total {w : World} {W H n b o : Nat} {L : List Int} (h : RM w W H n L b o) (c : Nat) :
    Calls Tryz.prog 62 #[.agg #[.int .i64 W, .int .i64 H, .slice (some ⟨b, o, none⟩) n c]] w fun e w' => e = .returned (.tuple #[.int .i64 L.sum, .int .i64 0]) ∧ Below w.heap.size w w' := by
  obtain ⟨h1, xs, h2⟩ := h
  exact total_any W H b o n c xs L w h2 h1
theorem rm_check {w : World} {W H n b o : Nat} {L : List Int} (h : RM w W H n L b o) (c : Nat) :
    Calls Tryz.prog 67 #[.agg #[.int .i64 W, .int .i64 H, .slice (some ⟨b, o, none⟩) n c]] w fun e w' => e = .returned (.int .i64 0) ∧ Below w.heap.size w w' := by
  obtain ⟨xs, hM, hR⟩ := h.any c
  have e : mapErr W H n xs = 0 := by
    unfold mapErr
    have h1 := hR.wid
    have h2 := hR.hei
    rw [rangeErr_in h1.1 h1.2, rangeErr_in h2.1 h2.2, if_pos (by simp [firstNZ]), if_pos hR.area]
    refine firstNZ_zeros fun x hx => ?_
    obtain ⟨y, hy, rfl⟩ := List.mem_map.1 hx
    obtain ⟨j, hj, rfl⟩ := List.mem_iff_getElem.1 hy
    have hjn : j < n := by have := hR.len; omega
    have hs := hR.smps j hjn
    have hz := hR.sizes j hjn
    rw [List.getElem?_eq_getElem hj] at hs
    obtain ⟨s, g1, _, _⟩ := hs
    refine smpErr_ok g1 ?_ (Nat.mul_mod_left _ _)
    refine Nat.le_trans (Nat.mul_le_mul_right _ hz) ?_
    decide +kernel
  have k := refCheckMap_map W H (some ⟨b, o, none⟩) n c xs w hM
  rw [e] at k
  exact k
theorem rm_same {w : World} {W H n b o b' o' : Nat} {L : List Int} (h : RM w W H n L b o) (h' : RM w W H n L b' o') (c c' : Nat) :
    Calls Tryz.prog 68 #[.agg #[.int .i64 W, .int .i64 H, .slice (some ⟨b, o, none⟩) n c], .agg #[.int .i64 W, .int .i64 H, .slice (some ⟨b', o', none⟩) n c']] w fun e w' => e = .returned (.bool true) ∧ Below w.heap.size w w' := by
  obtain ⟨h1, xs, h2⟩ := h
  obtain ⟨g1, ys, g2⟩ := h'
  exact sameMap_any W H b o c b' o' c' n xs ys L h2.small h1 g1 h2.cells g2.cells h2.smps g2.smps

/-- A call that returns a right map. -/
def GivesMap (f : FuncId) (args : Array Value) (w : World) (W H n : Nat) (L : List Int) : Prop :=
  Calls Tryz.prog f args w fun e w' => ∃ g, e = .returned (.tuple #[.agg #[.int .i64 W, .int .i64 H, .slice (some ⟨g, 0, none⟩) n n], .int .i64 0]) ∧ RM w' W H n L g 0 ∧ Below w.heap.size w w'

theorem rm_spread {w : World} {W H n b o : Nat} {L : List Int} (h : RM w W H n L b o) (c : Nat) (s : Int) (h0 : 0 ≤ s) (h4 : s ≤ 4) (hs : ∀ j, j < n → ((roundsTo W H s L (gridPlaces W (H * W)))[j]?.getD 0).natAbs ≤ 16384) :
    GivesMap 69 #[.agg #[.int .i64 W, .int .i64 H, .slice (some ⟨b, o, none⟩) n c], .int .i64 s] w W H n (roundsTo W H s L (gridPlaces W (H * W))) := by
  have ha := h.area
  obtain ⟨h1, xs, h2⟩ := h
  have hl : (roundsTo W H s L (gridPlaces W (H * W))).length = n := by rw [roundsTo_len]; exact h2.lenk
  refine (spread_any W H s h0 h4 b o c n xs L w h2 h1 (fun j => ?_)).mono ?_
  · by_cases hj : j < n
    · exact hs j hj
    · show ((roundsTo W H s L (gridPlaces W (H * W)))[j]?.getD 0).natAbs ≤ 16384
      rw [List.getElem?_eq_none (by omega)]; decide
  · rintro e w' ⟨g, he, hg, hc, hb⟩
    have hw := h2.wid
    have hh := h2.hei
    exact ⟨g, he, RM.of_cells hl h2.small hs (by omega) (by omega) ha hg hc, hb⟩
theorem rm_turned {w : World} {W H n b o : Nat} {L : List Int} (h : RM w W H n L b o) (c : Nat) :
    GivesMap 66 #[.agg #[.int .i64 W, .int .i64 H, .slice (some ⟨b, o, none⟩) n c]] w H W n (turnK W H n L) := by
  have ha := h.area
  obtain ⟨h1, xs, h2⟩ := h
  have e : ∀ j, j < n → (turnK W H n L)[j]?.getD 0 = L[(H - 1 - j % H) * W + j / H]?.getD 0 := fun j hj => by unfold turnK; rw [List.getElem?_map, List.getElem?_range hj]; rfl
  refine (turned_any W H b o n c xs L w h2 h1).mono ?_
  rintro e' w' ⟨g, he, hg, hc, hb⟩
  have hw := h2.wid
  have hh := h2.hei
  refine ⟨g, he, RM.of_cells (turnK_len W H n L) h2.small (fun j hj => ?_) (by omega) (by omega) (by rw [Nat.mul_comm]; exact ha) hg (fun j hj => by rw [e j hj]; exact hc j hj), hb⟩
  rw [e j hj]
  by_cases hh2 : (H - 1 - j % H) * W + j / H < n
  · exact h2.sizes _ hh2
  · rw [List.getElem?_eq_none (by have := h2.lenk; omega)]; decide

/-- What a right map's own words say of its integers. -/
theorem rm_of_any {w : World} {W H : Int} {a : Option Addr} {n c : Nat} {xs : List Nat} (h : AnyMap w a n c xs) (h0 : mapErr W H n xs = 0) :
    ∃ (Wn Hn b o : Nat), W = Wn ∧ H = Hn ∧ a = some ⟨b, o, none⟩ ∧ RM w Wn Hn n (xs.map kOf) b o := by
  obtain ⟨b, o, ha, hb, hR⟩ := h.rightK h0
  obtain ⟨Wn, rfl⟩ := Int.eq_ofNat_of_zero_le (show 0 ≤ W by have := hR.wid; omega)
  obtain ⟨Hn, rfl⟩ := Int.eq_ofNat_of_zero_le (show 0 ≤ H by have := hR.hei; omega)
  exact ⟨Wn, Hn, b, o, rfl, rfl, ha, hb, xs, hR⟩
end Go.Proofs.YtpmjiifdnnhecaaGreatDoor

/-
  Right maps in memory: their sides, sizes, and the check of the program.
-/

namespace Go.Proofs.YtpmjiifdnnhecaaGreatDoor
open Go.RowKit
set_option linter.unusedVariables false
set_option linter.unusedSimpArgs false

theorem RM.sizes {w : World} {W H n b o : Nat} {L : List Int} (h : RM w W H n L b o) : ∀ j, j < n → (L[j]?.getD 0).natAbs ≤ 16384 := by obtain ⟨_, xs, h2⟩ := h; exact h2.sizes
theorem RM.wid {w : World} {W H n b o : Nat} {L : List Int} (h : RM w W H n L b o) : 1 ≤ W ∧ W ≤ 64 := by
  obtain ⟨_, xs, h2⟩ := h
  have := h2.wid
  omega
theorem RM.hei {w : World} {W H n b o : Nat} {L : List Int} (h : RM w W H n L b o) : 1 ≤ H ∧ H ≤ 64 := by
  obtain ⟨_, xs, h2⟩ := h
  have := h2.hei
  omega
theorem RM.small {w : World} {W H n b o : Nat} {L : List Int} (h : RM w W H n L b o) : n ≤ 4096 := by obtain ⟨_, xs, h2⟩ := h; exact h2.small
theorem rm_lightCheck {w : World} {W H n b o : Nat} {L : List Int} (h : RM w W H n L b o) (c : Nat) :
    Calls Tryz.prog 134 #[.agg #[.int .i64 W, .int .i64 H, .slice (some ⟨b, o, none⟩) n c]] w fun e w' => e = .returned (.int .i64 0) ∧ Below w.heap.size w w' := by
  obtain ⟨h1, xs, h2⟩ := h
  exact checkMap_any W H b o n c xs L w h2 h1
end Go.Proofs.YtpmjiifdnnhecaaGreatDoor
