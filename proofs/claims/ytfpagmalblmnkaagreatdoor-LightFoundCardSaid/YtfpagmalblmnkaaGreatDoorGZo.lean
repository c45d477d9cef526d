/-
  Contracts of streamSize and of appendNumber: four bytes of a number behind a row of bytes that the caller owns.
-/
import Derived.Test.YtfpagmalblmnkaaGreatDoorGWx
import Derived.Test.YtfpagmalblmnkaaGreatDoorGWa
import Derived.Test.YtfpagmalblmnkaaGreatDoorGWk
import Derived.Test.YtfpagmalblmnkaaGreatDoorGZa
import Derived.Lib.AppendStr
import Derived.Deep.CutBlock
import Derived.Deep.DeepCutAuto
import Derived.Test.YtfpagmalblmnkaaGreatDoorGZy
import Derived.Test.YtfpagmalblmnkaaGreatDoorGZu
import Derived.Test.YtfpagmalblmnkaaGreatDoorGZh
import Derived.Test.YtfpagmalblmnkaaGreatDoorGZf
import Derived.Test.YtfpagmalblmnkaaGreatDoorGZd
import Derived.Test.YtfpagmalblmnkaaGreatDoorGGd
import Derived.Test.YtfpagmalblmnkaaGreatDoorGZr
import Derived.Test.YtfpagmalblmnkaaGreatDoorGFd
namespace Go.Proofs.YtfpagmalblmnkaaGreatDoor
open Go.RowKit
set_option linter.unusedVariables false

/-- The four bytes of a number, the greatest one first. -/
def wordOf (x : Int) : List Int := [byt x 3, byt x 2, byt x 1, byt x 0]
theorem blk_set4 {w : World} {B : Nat} {T : TypeId} {x y z u : Value} (h : w.heap[B]? = some (.cells #[x, y, z, u] T (0, 0))) (a b c d : Value) :
    ((((w.setCell ⟨B, 3, none⟩ d).setCell ⟨B, 2, none⟩ c).setCell ⟨B, 1, none⟩ b).setCell ⟨B, 0, none⟩ a).heap[B]? = some (.cells #[a, b, c, d] T (0, 0)) := by
  simp only [World.setCell, Array.getElem?_modify, if_true, h, Option.map_some]
  simp
theorem Tryz.infoByte : (Tryz.prog.info? 5).map (fun i => (i.zero, i.size, i.bytes)) = some (some (.int .u8 0), 1, 1) := by kernel_rfl

set_option maxHeartbeats 800000 in
theorem streamSize_any (W H : Nat) (hW : W ≤ 64) (hH : H ≤ 64) (w : World) :
    Calls Tryz.prog 104 #[.int .i64 W, .int .i64 H] w fun e w' => e = .returned (.int .i64 ((10 + 4 * (W * H) : Nat) : Int)) ∧ w = w' := by
  have hm : W * H ≤ 64 * 64 := Nat.mul_le_mul hW hH
  have e1 : 4 * (W : Int) * (H : Int) = ((4 * (W * H) : Nat) : Int) := by push_cast; rw [Int.mul_assoc]
  have i1 : IntKind.i64.wrap (4 * (W : Int)) = 4 * (W : Int) := IntWalk.i64_in _ ⟨by omega, by omega⟩
  obtain ⟨q, hq⟩ : ∃ q : Nat, 4 * (W * H) = q := ⟨_, rfl⟩
  rw [hq] at e1
  have hq4 : q ≤ 16384 := by omega
  have e2 : ((10 + 4 * (W * H) : Nat) : Int) = 6 + (q : Int) + 4 := by omega
  rw [e2]
  have i2 : IntKind.i64.wrap (q : Int) = (q : Int) := IntWalk.i64_in _ ⟨by omega, by omega⟩
  have i3 : IntKind.i64.wrap (6 + (q : Int)) = 6 + (q : Int) := IntWalk.i64_in _ ⟨by omega, by omega⟩
  have i4 : IntKind.i64.wrap (6 + (q : Int) + 4) = 6 + (q : Int) + 4 := IntWalk.i64_in _ ⟨by omega, by omega⟩
  clear hq e2 hm
  go_enter Tryz.func104, Tryz.ntmps104
  go_wp2
  go_ret
  exact ⟨rfl, rfl⟩

set_option maxRecDepth 100000 in
set_option maxHeartbeats 3200000 in
theorem appendNumber_any (B : Nat) (v : Value) (n : Nat) (xs : List Value) (x : Int) (h0 : 0 ≤ x) (h1 : x ≤ 4294967295) (hn : n ≤ 100000) (w : World) (h : w.ownsRow B 5 1 v n xs) (hB : B ≤ w.heap.size) :
    Calls Tryz.prog 105 #[v, .int .i64 x] w fun e w' => ∃ v', e = .returned v' ∧ w'.ownsRow B 5 1 v' (n + 4) (xs ++ (wordOf x).map (Value.int .u8)) ∧ Below B w w' ∧ (∀ k, k < w.heap.size → v.ownBlock ≠ some k → w'.heap[k]? = w.heap[k]?) := by
  obtain ⟨i0, hi, hz0, hz1, hz2⟩ := info_parts Tryz.infoByte
  obtain ⟨ao, c, rfl⟩ := owns_slice h
  obtain ⟨W1, hW1⟩ : ∃ W1, w.alloc (.cells #[.int .u8 0, .int .u8 0, .int .u8 0, .int .u8 0] 72) = W1 := ⟨_, rfl⟩
  have hB1 : Below w.heap.size w W1 := by rw [← hW1]; exact (Below.refl _ w).alloc (Nat.le_refl _) _
  have b1 : W1.heap[w.heap.size]? = some (.cells #[.int .u8 0, .int .u8 0, .int .u8 0, .int .u8 0] 72 (0, 0)) := by rw [← hW1]; exact blk_alloc_new _ _
  have f1 : ∀ j, W1.frozen? ⟨w.heap.size, j, none⟩ = false := fun j => by simp [World.frozen?, b1]
  have K := Lib.hid (write4_any W1 w.heap.size 0 4 x h0 h1 (by rw [cell_of_row W1 _ 0 _ _ (0, 0) b1]; rfl) (by rw [cell_of_row W1 _ 1 _ _ (0, 0) b1]; rfl) (by rw [cell_of_row W1 _ 2 _ _ (0, 0) b1]; rfl) (by rw [cell_of_row W1 _ 3 _ _ (0, 0) b1]; rfl) (f1 0) (f1 1) (f1 2) (f1 3))
  have hO1 : W1.ownsRow B 5 1 (.slice ao n c) n xs := by rw [← hW1]; exact h.alloc _
  have hlt := h.lt
  have hO2 : ((((W1.setCell ⟨w.heap.size, 3, none⟩ (.int .u8 (byt x 0))).setCell ⟨w.heap.size, 2, none⟩ (.int .u8 (byt x 1))).setCell ⟨w.heap.size, 1, none⟩ (.int .u8 (byt x 2))).setCell ⟨w.heap.size, 0, none⟩ (.int .u8 (byt x 3))).ownsRow B 5 1 (.slice ao n c) n xs := by
    have nb : (Value.slice ao n c).ownBlock = none ∨ (Value.slice ao n c).ownBlock ≠ some w.heap.size := by
      cases e : (Value.slice ao n c).ownBlock with
      | none => exact .inl rfl
      | some k => exact .inr fun e' => by have := (hlt k e).2; have := Option.some.inj e'; omega
    exact (((hO1.kept (OnlyBlk.set _ _ _ _).1 nb).kept (OnlyBlk.set _ _ _ _).1 nb).kept (OnlyBlk.set _ _ _ _).1 nb).kept (OnlyBlk.set _ _ _ _).1 nb
  have b2 := blk_set4 b1 (.int .u8 (byt x 3)) (.int .u8 (byt x 2)) (.int .u8 (byt x 1)) (.int .u8 (byt x 0))
  have hB2 : Below w.heap.size w ((((W1.setCell ⟨w.heap.size, 3, none⟩ (.int .u8 (byt x 0))).setCell ⟨w.heap.size, 2, none⟩ (.int .u8 (byt x 1))).setCell ⟨w.heap.size, 1, none⟩ (.int .u8 (byt x 2))).setCell ⟨w.heap.size, 0, none⟩ (.int .u8 (byt x 3))) :=
    ((((hB1.setCell (p := ⟨w.heap.size, 3, none⟩) (Nat.le_refl _) _).setCell (p := ⟨w.heap.size, 2, none⟩) (Nat.le_refl _) _).setCell (p := ⟨w.heap.size, 1, none⟩) (Nat.le_refl _) _).setCell (p := ⟨w.heap.size, 0, none⟩) (Nat.le_refl _) _)
  obtain ⟨W2, hW2⟩ : ∃ W2, ((((W1.setCell ⟨w.heap.size, 3, none⟩ (.int .u8 (byt x 0))).setCell ⟨w.heap.size, 2, none⟩ (.int .u8 (byt x 1))).setCell ⟨w.heap.size, 1, none⟩ (.int .u8 (byt x 2))).setCell ⟨w.heap.size, 0, none⟩ (.int .u8 (byt x 3))) = W2 := ⟨_, rfl⟩
  rw [hW2] at hO2 b2 hB2
  have K' : Hid (Calls Tryz.prog 147 #[.slice (some ⟨w.heap.size, 0, none⟩) 4 4, .int .i64 x] W1 fun e w' => e = .returned (.tuple #[]) ∧ w' = W2) := Lib.hid (by
    have k := K.out
    simp only [Nat.zero_add] at k
    rw [hW2] at k
    exact k)
  have HC : Hid (∀ j u, ((wordOf x).map (Value.int .u8))[j]? = some u → W2.cell? ((⟨w.heap.size, 0, none⟩ : Addr).add j) = some u) := Lib.hid fun j u hu => by
    rw [Addr.add_mid, Nat.zero_add, cell_of_row W2 _ j _ _ (0, 0) b2]
    simpa [wordOf] using hu
  have HO2 := Lib.hid hO2
  have HB2 := Lib.hid hB2
  clear K hW2 f1 b1 b2 hO1 hO2 hB1 hB2 h
  go_enter Tryz.func105, Tryz.ntmps105
  go_upto_region 2 with fail
  try rw [hW1]
  clear hW1
  go_wp2_with (first
    | (go_at_call 147; refine K'.out.mono ?_; rintro e w' ⟨rfl, rfl⟩)
    | (at_builtin; refine wpList_append_own _ rfl (.tmp 9) (.tmp 10) 71 rfl B 5 i0 (.int .u8 0) 1 1 Tryz.underlying71 hi hz0 hz1 hz2 rfl (by decide) _ _ _ rfl HO2.out ⟨w.heap.size, 0, none⟩ 4 4 ((wordOf x).map (Value.int .u8)) rfl rfl HC.out (by intro u hu; obtain ⟨y, _, rfl⟩ := List.mem_map.1 hu; rfl) (by unfold maxLen; omega) (by omega) (by have := HB2.out.size; omega) ?_; intro v' w3 hown3 hgrow3 _))
  go_ret
  exact ⟨_, rfl, hown3, (HB2.out.mono hB).grown hgrow3 (by have := HB2.out.size; omega) (fun k hk => (HO2.out.lt k hk).1), fun k hk hne => (hgrow3.block k (by have := HB2.out.size; omega) (fun e => hne e.symm)).trans (HB2.out.block k hk)⟩
end Go.Proofs.YtfpagmalblmnkaaGreatDoor

/-
  Contract of Pack for a right map: the bytes of its stream.
-/
namespace Go.Proofs.YtfpagmalblmnkaaGreatDoor
open Go.RowKit
set_option linter.unusedVariables false

def packHead (W H : Nat) : List Int := [76, 77, 65, 80, W, H]
def packBody (ks : List Int) : List Int := ks.flatMap (fun k => wordOf (smpOf k))
def packS (W H : Nat) (ks : List Int) : List Int := packHead W H ++ packBody ks
def packL (W H : Nat) (ks : List Int) : List Int := packS W H ks ++ wordOf (chkOf (packS W H ks))
theorem packBody_len (ks : List Int) : (packBody ks).length = 4 * ks.length := by
  induction ks with
  | nil => rfl
  | cons k ks ih => simp [packBody, wordOf] at ih ⊢; omega
theorem packBody_succ (ks : List Int) (k : Nat) (hk : k < ks.length) : packBody (ks.take (k + 1)) = packBody (ks.take k) ++ wordOf (smpOf (ks[k]?.getD 0)) := by
  rw [List.take_succ_eq_append_getElem hk, packBody, List.flatMap_append, List.getElem?_eq_getElem hk]; simp [packBody]
theorem byte_bd {W H : Nat} {ks : List Int} (hW : W ≤ 64) (hH : H ≤ 64) : ∀ x ∈ packS W H ks, 0 ≤ x ∧ x ≤ 255 := by
  intro x hx
  rcases List.mem_append.1 hx with h | h
  · simp [packHead] at h; omega
  · obtain ⟨k, _, h⟩ := List.mem_flatMap.1 h
    simp [wordOf] at h
    rcases h with rfl | rfl | rfl | rfl <;> exact byt_bd _ _

theorem run_bits32 (d : Nat) : ∀ w : World, (callFunc 106 #[.float .f32 d]).run Tryz.prog w = .ok (.value (.int .u32 d)) w := fun w => by kernel_rfl
theorem smpOf_word (n : Int) (hn : n.natAbs < 2 ^ 24) : smpOf n < 2 ^ 32 := by
  have := floatBits_wf (smpOf_run n hn)
  simpa [Lit.wf] using this
theorem not_own {w : World} {B n ga : Nat} {v : Value} {x y : Int} {xs : List Value} (h : w.ownsRow B 5 1 v n (.int .u8 x :: xs)) (hr : w.cell? ⟨ga, 0, none⟩ = some (.int .i64 y)) : v.ownBlock ≠ some ga := by
  intro e
  have k := h.cells (g := ga) e 0 (.int .u8 x) rfl
  rw [Addr.add_mid] at k
  rw [hr] at k
  cases k
theorem row_same {w w' : World} {ga n : Nat} {ks : List Int} (h : RowAt w ga n ks) (hb : w'.heap[ga]? = w.heap[ga]?) : RowAt w' ga n ks :=
  ⟨(by
    have h1 := h.lt
    rcases Nat.lt_or_ge ga w'.heap.size with h2 | h2
    · exact h2
    · rw [Array.getElem?_eq_none h2] at hb
      rw [Array.getElem?_eq_getElem h1] at hb
      exact absurd hb (by simp)), fun j hj => (World.cell?_of_block (w := w) (w' := w') (a := ⟨ga, j, none⟩) hb).trans (h.cells j hj)⟩

set_option maxRecDepth 100000 in
set_option maxHeartbeats 6400000 in
theorem pack_any (W H : Nat) (b o c n : Nat) (xs : List Nat) (ks : List Int) (w : World) (hA : RightMap w W H b o n xs ks) (hb : b < w.heap.size) :
    Calls Tryz.prog 38 #[.agg #[.int .i64 W, .int .i64 H, .slice (some ⟨b, o, none⟩) n c]] w fun e w' =>
      ∃ v, e = .returned (.tuple #[v, .int .i64 0]) ∧ w'.ownsRow w.heap.size 5 1 v (10 + 4 * n) ((packL W H ks).map (Value.int .u8)) ∧ Below w.heap.size w w' := by
  obtain ⟨i0, hi, hz0, hz1, hz2⟩ := info_parts Tryz.infoByte
  obtain ⟨W0, hW0⟩ : ∃ W0, w.alloc (.cells #[.int .i64 W, .int .i64 H, .slice (some ⟨b, o, none⟩) n c] 45) = W0 := ⟨_, rfl⟩
  have hB0 : Below w.heap.size w W0 := by rw [← hW0]; exact (Below.refl _ w).alloc (Nat.le_refl _) _
  have hS0 : W0.heap.size = w.heap.size + 1 := by rw [← hW0]; simp
  have a0 : W0.cell? ⟨w.heap.size, 0, none⟩ = some (.int .i64 W) := by rw [← hW0]; simp [go_sem]
  have a1 : W0.cell? ⟨w.heap.size, 1, none⟩ = some (.int .i64 H) := by rw [← hW0]; simp [go_sem]
  have a2 : W0.cell? ⟨w.heap.size, 2, none⟩ = some (.slice (some ⟨b, o, none⟩) n c) := by rw [← hW0]; simp [go_sem]
  have K1 := Lib.hid (checkMap_any W H b o n c xs ks W0 (hA.below hB0 hb) (by omega))
  have K2 : Hid (∀ w1 : World, Below W0.heap.size W0 w1 → Calls Tryz.prog 69 #[.agg #[.int .i64 W, .int .i64 H, .slice (some ⟨b, o, none⟩) n c]] w1 fun e w' =>
      ∃ g, e = .returned (.agg #[.int .i64 W, .int .i64 H, .slice (some ⟨g, 0, none⟩) n n]) ∧ w1.heap.size ≤ g ∧ RowAt w' g n ks ∧ Below w1.heap.size w1 w') := Lib.hid (fun w1 h => by
    have h1 := h.size
    have h2 := hB0.trans (h.mono (by omega))
    exact grid_row W H b o n c xs ks w1 (hA.below h2 hb).toWords (by omega))
  have hWi := hA.wid
  have hHe := hA.hei
  have hW64 : W ≤ 64 := by omega
  have hH64 : H ≤ 64 := by omega
  have hN : W * H = n := by have := hA.area; exact_mod_cast this
  have hsm := hA.small
  have KSZ : Hid (∀ w1 : World, Calls Tryz.prog 104 #[.int .i64 W, .int .i64 H] w1 fun e w' => e = .returned (.int .i64 ((10 + 4 * n : Nat) : Int)) ∧ w1 = w') := Lib.hid fun w1 => by have h := streamSize_any W H hW64 hH64 w1; rw [hN] at h; exact h
  have HB0 := Lib.hid hB0
  have HS0 := Lib.hid hS0
  have HRA := Lib.hid hA
  have HN := Lib.hid hN
  clear hA hB0 hN
  go_enter Tryz.func38, Tryz.ntmps38
  go_upto_region 1 with fail
  try rw [hW0]
  clear hW0
  go_upto_region 4 with (
    ((go_at_call 65; refine K1.out.mono ?_; rintro e w1 ⟨rfl, hb1⟩)))
  have hs1 := hb1.size
  have a0' := (hb1.cell (p := ⟨w.heap.size, 0, none⟩) (by show w.heap.size < _; omega)).trans a0
  have a1' := (hb1.cell (p := ⟨w.heap.size, 1, none⟩) (by show w.heap.size < _; omega)).trans a1
  have a2' := (hb1.cell (p := ⟨w.heap.size, 2, none⟩) (by show w.heap.size < _; omega)).trans a2
  have HB1 := Lib.hid hb1
  clear a0 a1 a2 hb1
  go_upto_region 5 with (first
    | (go_at_call 104; refine (KSZ.out _).mono ?_; rintro e w9 ⟨rfl, rfl⟩)
    | (at_make; refine wpList_make_own _ rfl _ _ 71 rfl w1.heap.size 5 i0 (.int .u8 0) 1 Tryz.underlying71 hi hz0 hz1 _ _ _ (10 + 4 * n) rfl rfl (by omega) (by rw [hz2]; omega) (by unfold maxLen; omega) (Nat.le_refl _) ?_; intro w2 hown2 hgrow2))
  have hb2 : Below w1.heap.size w1 w2 := (Below.refl _ _).grown hgrow2 (Nat.le_refl _) (fun k h => by cases h)
  have hsz2 := hb2.size
  go_upto_region 6 with (
    (at_builtin; go_loud (refine Lib.wpList_append_own_string _ rfl (.tmp 19) (.const (.string ⟨#[76, 77, 65, 80]⟩)) 71 9 rfl w1.heap.size 5 i0 Tryz.underlying71 Tryz.underlying9 hi hz0 hz1 hz2 _ 0 [] rfl hown2 ⟨#[76, 77, 65, 80]⟩ rfl (by show 0 + 4 ≤ maxLen; unfold maxLen; omega) (by show 0 + 4 ≤ _; omega) (by omega) ?_; intro v3 w3 hown3 hgrow3 _)))
  have hown3' : w3.ownsRow w1.heap.size 5 1 v3 4 (([76, 77, 65, 80] : List Int).map (Value.int .u8)) := by
    have h := hown3
    rw [show ([] : List Value) ++ Lib.strCells ⟨#[76, 77, 65, 80]⟩ = ([76, 77, 65, 80] : List Int).map (Value.int .u8) from rfl] at h
    exact h
  have hb3 : Below w1.heap.size w1 w3 := hb2.grown hgrow3 (by omega) (fun k hk => (hown2.lt k hk).1)
  have hsz3 := hb3.size
  obtain ⟨ao3, c3, rfl⟩ := owns_slice hown3'
  have hlw : w.heap.size < w1.heap.size := by omega
  have q0 := (hb3.cell (p := ⟨w.heap.size, 0, none⟩) (by show w.heap.size < _; omega)).trans a0'
  have q1 := (hb3.cell (p := ⟨w.heap.size, 1, none⟩) (by show w.heap.size < _; omega)).trans a1'
  have q2 := (hb3.cell (p := ⟨w.heap.size, 2, none⟩) (by show w.heap.size < _; omega)).trans a2'
  have u1 : IntKind.u8.wrap (W : Int) = (W : Int) := IntWalk.u8_in _ ⟨by omega, by omega⟩
  have u2 : IntKind.u8.wrap (H : Int) = (H : Int) := IntWalk.u8_in _ ⟨by omega, by omega⟩
  have hown4 : (w3.alloc (.cells #[.int .u8 W, .int .u8 H] 5)).ownsRow w1.heap.size 5 1 (.slice ao3 4 c3) 4 (([76, 77, 65, 80] : List Int).map (Value.int .u8)) := hown3'.alloc _
  have bN : (w3.alloc (.cells #[.int .u8 W, .int .u8 H] 5)).heap[w3.heap.size]? = some (.cells #[.int .u8 W, .int .u8 H] 5 (0, 0)) := blk_alloc_new _ _
  have HC : Hid (∀ j u, ([.int .u8 W, .int .u8 H] : List Value)[j]? = some u → (w3.alloc (.cells #[.int .u8 W, .int .u8 H] 5)).cell? ((⟨w3.heap.size, 0, none⟩ : Addr).add j) = some u) := Lib.hid fun j u hu => by
    rw [Addr.add_mid, Nat.zero_add, cell_of_row _ _ j _ _ (0, 0) bN]
    simpa using hu
  have HO4 := Lib.hid hown4
  have HB3 := Lib.hid hb3
  clear hown2 hgrow2 hown3 hown3' hgrow3 hb2 hb3 a0' a1' a2' hown4 bN
  go_upto_region 7 with (
    (at_builtin; refine wpList_append_own _ rfl (.tmp 21) (.tmp 28) 71 rfl w1.heap.size 5 i0 (.int .u8 0) 1 1 Tryz.underlying71 hi hz0 hz1 hz2 rfl (by decide) _ _ _ rfl HO4.out ⟨w3.heap.size, 0, none⟩ 2 2 [.int .u8 W, .int .u8 H] rfl rfl HC.out (by intro u hu; simp at hu; rcases hu with rfl | rfl <;> rfl) (by unfold maxLen; omega) (by omega) (by simp; omega) ?_; intro v5 w5 hown5 hgrow5 _))
  have hown5' : w5.ownsRow w1.heap.size 5 1 v5 6 ((packHead W H).map (Value.int .u8)) := hown5
  have hb5 : Below w1.heap.size w1 w5 := (HB3.out.alloc (by omega) _).grown hgrow5 (by simp; omega) (fun k hk => (HO4.out.lt k hk).1)
  have hsz5 := hb5.size
  obtain ⟨ao5, c5, rfl⟩ := owns_slice hown5'
  have q0' := (hb5.cell (p := ⟨w.heap.size, 0, none⟩) (by show w.heap.size < _; omega)).trans ((HB3.out.cell (p := ⟨w.heap.size, 0, none⟩) (by show w.heap.size < _; omega)).symm.trans q0)
  have q1' := (hb5.cell (p := ⟨w.heap.size, 1, none⟩) (by show w.heap.size < _; omega)).trans ((HB3.out.cell (p := ⟨w.heap.size, 1, none⟩) (by show w.heap.size < _; omega)).symm.trans q1)
  have q2' := (hb5.cell (p := ⟨w.heap.size, 2, none⟩) (by show w.heap.size < _; omega)).trans ((HB3.out.cell (p := ⟨w.heap.size, 2, none⟩) (by show w.heap.size < _; omega)).symm.trans q2)
  have K3 := Lib.hid (K2.out w5 (HB1.out.trans (hb5.mono hs1)))
  have HO5 := Lib.hid hown5'
  have HB5 := Lib.hid hb5
  clear q0 q1 q2 hown5 hown5' hgrow5 hb5 HC
  go_upto_block 0 with (
    ((go_at_call 69; refine K3.out.mono ?_; rintro e w6 ⟨ga, rfl, hga, hRA, hb6⟩
      have hfld : ∀ u : World, (Instr.field 141 (.agg #[.int .i64 W, .int .i64 H, .slice (some ⟨ga, 0, none⟩) n n]) 2).run Tryz.prog u = .ok (.slice (some ⟨ga, 0, none⟩) n n) u := fun _ => by kernel_rfl)))
  have hsz6 := hb6.size
  have hown6 := owns_kept HO5.out hb6 (Nat.le_refl _)
  have hlt5 := HO5.out.lt
  have hne5 : ∀ k, (Value.slice ao5 6 c5).ownBlock = some k → k < w5.heap.size := fun k hk => (hlt5 k hk).2
  have hn1 : 1 ≤ n := by have := HN.out; have := Nat.mul_le_mul (show 1 ≤ W by omega) (show 1 ≤ H by omega); omega
  have HO6 := Lib.hid hown6
  have HB6 := Lib.hid (HB5.out.trans (hb6.mono hsz5))
  have HRW := Lib.hid hRA
  clear hown6 hlt5 hne5 hb6 hRA q0' q1' q2'
  go_cut [5] (fun s5 wr => ∃ v, s5 = v ∧ wr.ownsRow w1.heap.size 5 1 v (6 + 4 * n) ((packS W H ks).map (Value.int .u8)) ∧ Below w1.heap.size w1 wr)
  case first =>
    go_wp2_with fail
    go_loopw [5, 34] (fun v i wr => ∃ k : Nat, k ≤ n ∧ i = .int .i64 k ∧ wr.ownsRow w1.heap.size 5 1 v (6 + 4 * k) ((packHead W H ++ packBody (ks.take k)).map (Value.int .u8)) ∧ Below w1.heap.size w1 wr ∧ RowAt wr ga n ks)
      (fun _ i _ => n - (intOf i).toNat)
    case atStart => exact ⟨0, Nat.zero_le _, rfl, HO6.out, HB6.out, HRW.out⟩
    case round =>
      obtain ⟨k, hk, rfl, hown, hnx, hrw⟩ := hrel
      by_cases hlt : k < n
      · have hc := hrw.cells k hlt
        have hgl := hrw.lt
        have hne := not_own hown (hrw.cells 0 (by omega))
        have hb16 := HRA.out.sizes k hlt
        obtain ⟨kj, hkj⟩ : ∃ kj : Int, ks[k]?.getD 0 = kj := ⟨_, rfl⟩
        rw [hkj] at hc hb16
        have hsl := smpOf_word kj (Nat.lt_of_le_of_lt hb16 (by decide))
        have hsu := packBody_succ ks k (by rw [HRA.out.lenk]; exact hlt)
        rw [hkj] at hsu
        have KA := Lib.hid (appendNumber_any w1.heap.size _ (6 + 4 * k) _ (smpOf kj : Nat) (by omega) (by omega) (by omega) wr hown hnx.size)
        have hb32 := run_bits32 (smpOf kj)
        have HNX := Lib.hid hnx
        have HRR := Lib.hid hrw
        have HNE := Lib.hid hne
        have HSU := Lib.hid hsu
        have HB16 := Lib.hid hb16
        clear hown hnx hrw hne hsu hkj hb16
        go_wp2_with (first
          | (go_at_call 107; refine (sample_any _ (Nat.lt_of_le_of_lt HB16.out (by decide)) _).mono ?_; rintro e w9 ⟨rfl, rfl⟩)
          | (go_at_call 105; refine KA.out.mono ?_; rintro e w8 ⟨v8, rfl, hown8, hb8, hk8⟩))
        go_roundw
        case rel =>
          refine ⟨k + 1, by omega, by go_num, ?_, HNX.out.trans hb8, row_same HRR.out (hk8 ga hgl HNE.out)⟩
          rw [HSU.out, ← List.append_assoc, List.map_append]
          exact hown8
        case measure => simp [intOf]; omega
      · obtain rfl : k = n := by omega
        rw [List.take_of_length_le (by rw [HRA.out.lenk]; omega)] at hown
        go_wp2_with fail
        go_meet
        exact ⟨_, rfl, hown, hnx⟩
  case rest =>
    obtain ⟨v, rfl, hown, hbr⟩ := hcut
    obtain ⟨g7, c7, rfl, hg7, hgB7⟩ := owns_some hown (by omega)
    have hpl : (packS W H ks).length = 6 + 4 * n := by rw [packS, List.length_append, packBody_len, HRA.out.lenk]; rfl
    have hbyte := byte_bd (ks := ks) hW64 hH64
    have hck := chk_bd (packS W H ks)
    have hget : ∀ j, j < 6 + 4 * n → (packS W H ks)[j]?.getD 0 ∈ packS W H ks := fun j hj => by
      rw [List.getElem?_eq_getElem (by rw [hpl]; exact hj)]; exact List.getElem_mem _
    have KC := Lib.hid (checksum_any g7 0 (6 + 4 * n) c7 (packS W H ks) wc hpl (by omega) (fun j hj => hbyte _ (hget j hj)) (fun j hj => by
      rw [Nat.zero_add]
      exact owns_cell hown (by rw [List.getElem?_map, List.getElem?_eq_getElem (by rw [hpl]; exact hj)]; rfl)))
    have KA := Lib.hid (appendNumber_any w1.heap.size _ (6 + 4 * n) _ (chkOf (packS W H ks)) hck.1 (by omega) (by omega) wc hown hbr.size)
    have HBR := Lib.hid hbr
    clear hpl hbyte hck hget hown hbr
    go_wp2_with (first
      | (go_at_call 108; refine KC.out.mono ?_; rintro e w9 ⟨rfl, rfl⟩)
      | (go_at_call 105; refine KA.out.mono ?_; rintro e w8 ⟨v8, rfl, hown8, hb8, _⟩))
    go_ret2
    refine ⟨_, rfl, owns_base ?_ (show w.heap.size ≤ w1.heap.size by omega), (HB0.out.trans ((HB1.out.trans ((HBR.out.trans hb8).mono hs1)).mono (by have := HS0.out; omega)))⟩
    rw [show 10 + 4 * n = 6 + 4 * n + 4 by omega, packL, List.map_append]
    exact hown8
end Go.Proofs.YtfpagmalblmnkaaGreatDoor

/-
  The fixed examples of chapter 1: maps that are written out, and the contracts of light's functions at them.
-/
namespace Go.Proofs.YtfpagmalblmnkaaGreatDoor
open Go.RowKit Go.Shelf
set_option linter.unusedVariables false

/-- Samples in a block, by their integers. -/
def LitAt (w : World) (g n : Nat) (ks : List Int) : Prop := g < w.heap.size ∧ ∀ j, j < n → w.cell? ⟨g, j, none⟩ = some (.float .f32 (smpOf (ks[j]?.getD 0)))
theorem LitAt.below {N g n : Nat} {ks : List Int} {w w' : World} (h : LitAt w g n ks) (hb : Below N w w') (hg : g < N) : LitAt w' g n ks :=
  ⟨Nat.lt_of_lt_of_le h.1 hb.size, fun j hj => (hb.cell (p := ⟨g, j, none⟩) hg).trans (h.2 j hj)⟩
theorem LitAt.kept {g n : Nat} {ks : List Int} {w w' : World} (h : LitAt w g n ks) (hb : Below w.heap.size w w') : LitAt w' g n ks := h.below hb h.1
theorem lit_of {w : World} {g n : Nat} {f : Nat → Int} {L : List Int} (hg : g < w.heap.size) (hc : ∀ j, j < n → w.cell? ⟨g, j, none⟩ = some (.float .f32 (smpOf (f j)))) (hf : ∀ j, j < n → f j = L[j]?.getD 0) : LitAt w g n L :=
  ⟨hg, fun j hj => by rw [hc j hj, hf j hj]⟩
theorem lit_blk {w : World} {g : Nat} {T : TypeId} {fr : Nat × Nat} {ks : List Int} {a : Array Value} (h : w.heap[g]? = some (.cells a T fr)) (ha : (ks.map fun k => Value.float .f32 (smpOf k)).toArray = a) : LitAt w g ks.length ks := by
  subst ha
  refine ⟨(Array.getElem?_eq_some_iff.1 h).1, fun j hj => ?_⟩
  rw [Lib.cell_of_heap h, List.getElem?_toArray, List.getElem?_map, List.getElem?_eq_getElem hj]
  rfl
theorem LitAt.right {w : World} {g n : Nat} {ks : List Int} (h : LitAt w g n ks) (W H : Nat) (hl : ks.length = n) (hn : n ≤ 4096) (hs : ∀ j, j < n → (ks[j]?.getD 0).natAbs ≤ 16384) (hW : 1 ≤ W ∧ W ≤ 64) (hH : 1 ≤ H ∧ H ≤ 64) (ha : W * H = n) : RightMap w W H g 0 n (ks.map smpOf) ks := by
  have e : ∀ j, j < n → (ks.map smpOf)[j]?.getD 0 = smpOf (ks[j]?.getD 0) := fun j hj => by
    rw [List.getElem?_map, List.getElem?_eq_getElem (by omega)]; rfl
  have hlt : ∀ k : Int, k.natAbs < 2 ^ 24 → smpOf k < 2 ^ 32 := fun k hk => by
    have := floatBits_wf (smpOf_run k hk)
    simpa [Lit.wf] using this
  exact ⟨⟨by rw [List.length_map]; exact hl, hl, hn, fun j hj => by rw [Nat.zero_add, e j hj]; exact h.2 j hj, fun j hj => by rw [e j hj]; exact hlt _ (Nat.lt_of_le_of_lt (hs j hj) (by decide)), fun j hj => by rw [e j hj]; exact smpOf_smp _ (Nat.lt_of_le_of_lt (hs j hj) (by decide)), hs⟩, by omega, by omega, by rw [← ha]; push_cast; rfl⟩

/-- The document's map M. -/
def tabK : List Int := [16, 32, 48, 64, 80, 96]
abbrev mapV (W H : Int) (g n : Nat) : Value := .agg #[.int .i64 W, .int .i64 H, .slice (some ⟨g, 0, none⟩) n n]
theorem tab_right {w : World} {g : Nat} (h : LitAt w g 6 tabK) : RightMap w (3 : Nat) (2 : Nat) g 0 6 (tabK.map smpOf) tabK := h.right 3 2 rfl (by omega) (by decide) (by omega) (by omega) rfl

set_option maxHeartbeats 1600000 in
theorem table_any (w : World) : Calls Tryz.prog 54 #[] w fun e w' => ∃ g, e = .returned (mapV 3 2 g 6) ∧ LitAt w' g 6 tabK ∧ Below w.heap.size w w' := by
  go_enter Tryz.func54, Tryz.ntmps54
  go_wp2
  refine bodyPost_ret (v := mapV 3 2 (w.heap.size + 1) 6) (by simp [results, Tryz.results54, go_sem]) rfl ⟨_, rfl, ?_, ?_⟩
  · refine lit_blk (T := 22) (fr := (0, 0)) (ks := tabK) (a := #[.float .f32 1065353216, .float .f32 1073741824, .float .f32 1077936128, .float .f32 1082130432, .float .f32 1084227584, .float .f32 1086324736]) ?_ (by kernel_rfl)
    exact blk_alloc_at _ _ (by simp)
  · exact ((Below.refl _ w).alloc (Nat.le_refl _) _).alloc (by simp) _

set_option maxHeartbeats 1600000 in
theorem sameHas_any (W H : Int) (ga gb n c d : Nat) (ks : List Int) (w : World) (ha : LitAt w ga n ks) (hb : LitAt w gb n ks) (hl : ks.length = n) (hn : n ≤ 4096) (hs : ∀ j, j < n → (ks[j]?.getD 0).natAbs ≤ 16384) :
    Calls Tryz.prog 60 #[.agg #[.int .i64 W, .int .i64 H, .slice (some ⟨ga, 0, none⟩) n c], .int .i64 W, .int .i64 H, .slice (some ⟨gb, 0, none⟩) n d] w fun e w' => e = .returned (.bool true) ∧ Below w.heap.size w w' := by
  obtain ⟨W0, hW0⟩ : ∃ W0, w.alloc (.cells #[.int .i64 W, .int .i64 H, .slice (some ⟨ga, 0, none⟩) n c] 45) = W0 := ⟨_, rfl⟩
  have hB0 : Below w.heap.size w W0 := by rw [← hW0]; exact (Below.refl _ w).alloc (Nat.le_refl _) _
  have hS0 : W0.heap.size = w.heap.size + 1 := by rw [← hW0]; simp
  have a0 : W0.cell? ⟨w.heap.size, 0, none⟩ = some (.int .i64 W) := by rw [← hW0]; simp [go_sem]
  have a1 : W0.cell? ⟨w.heap.size, 1, none⟩ = some (.int .i64 H) := by rw [← hW0]; simp [go_sem]
  have a2 : W0.cell? ⟨w.heap.size, 2, none⟩ = some (.slice (some ⟨ga, 0, none⟩) n c) := by rw [← hW0]; simp [go_sem]
  have e : ∀ j, j < n → (ks.map smpOf)[j]?.getD 0 = smpOf (ks[j]?.getD 0) := fun j hj => by
    rw [List.getElem?_map, List.getElem?_eq_getElem (by omega)]; rfl
  have hA := ha.kept hB0
  have hB := hb.kept hB0
  have K := Lib.hid (sameSamples_any (w := W0) ga 0 c gb 0 d n (ks.map smpOf) (ks.map smpOf) ks hn hA.1 hB.1 (fun j hj => by rw [Nat.zero_add, e j hj]; exact hA.2 j hj) (fun j hj => by rw [Nat.zero_add, e j hj]; exact hB.2 j hj)
    (fun j hj => by rw [e j hj]; exact smpOf_smp _ (Nat.lt_of_le_of_lt (hs j hj) (by decide))) (fun j hj => by rw [e j hj]; exact smpOf_smp _ (Nat.lt_of_le_of_lt (hs j hj) (by decide))))
  have t1 : (W == W) = true := by simp
  have t2 : (H == H) = true := by simp
  have HB0 := Lib.hid hB0
  clear ha hb hA hB hB0 e hs hl
  go_enter Tryz.func60, Tryz.ntmps60
  go_upto_region 1 with fail
  try rw [hW0]
  clear hW0
  go_wp2_with ((go_at_call 95; refine K.out.mono ?_; rintro e w1 ⟨rfl, hb1⟩))
  go_ret
  exact ⟨rfl, HB0.out.trans (hb1.mono (by omega))⟩

section
variable (w : World)
theorem at_lit {g : Nat} (h : LitAt w g 6 tabK) : Calls Tryz.prog 53 #[mapV 3 2 g 6, .agg #[.int .i64 2, .int .i64 1]] w fun e w' => e = .returned (.tuple #[.float .f32 1086324736, .int .i64 0]) ∧ Below w.heap.size w w' :=
  (lightAt_any 3 2 g 0 6 6 _ _ w (tab_right h) h.1 2 1 (by omega) (by omega)).mono fun e w' ⟨he, hw⟩ => ⟨by rw [he, show smpOf (tabK[1 * 3 + 2]?.getD 0) = 1086324736 by kernel_rfl], hw⟩
theorem total_lit {g : Nat} (h : LitAt w g 6 tabK) : Calls Tryz.prog 24 #[mapV 3 2 g 6] w fun e w' => e = .returned (.tuple #[.int .i64 336, .int .i64 0]) ∧ Below w.heap.size w w' :=
  (total_any 3 2 g 0 6 6 _ _ w (tab_right h) h.1).mono fun e w' ⟨he, hw⟩ => ⟨by rw [he, show tabK.sum = 336 by decide], hw⟩
theorem peak_lit {g : Nat} (h : LitAt w g 6 tabK) : Calls Tryz.prog 55 #[mapV 3 2 g 6] w fun e w' => e = .returned (.tuple #[.float .f32 1086324736, .agg #[.int .i64 2, .int .i64 1], .int .i64 0]) ∧ Below w.heap.size w w' :=
  (peak_any 3 2 g 0 6 6 _ _ w (tab_right h) h.1).mono fun e w' ⟨he, hw⟩ => ⟨by
    rw [he, show peakTo 3 tabK (placesTo 3 (2 * 3)) = (2, 1) by decide +kernel]
    show Ending.returned (.tuple #[.float .f32 (smpOf (tabK[1 * 3 + 2]?.getD 0)), _, _]) = _
    rw [show smpOf (tabK[1 * 3 + 2]?.getD 0) = 1086324736 by kernel_rfl]; rfl, hw⟩
def partK : List Int := [80, 96]
theorem part_lit {g : Nat} (h : LitAt w g 6 tabK) : Calls Tryz.prog 56 #[mapV 3 2 g 6, .agg #[.int .i64 1, .int .i64 3], .agg #[.int .i64 1, .int .i64 2]] w fun e w' => ∃ g, e = .returned (.tuple #[mapV 2 1 g 2, .int .i64 0]) ∧ LitAt w' g 2 partK ∧ Below w.heap.size w w' :=
  (part_any 3 2 1 2 1 1 (by omega) (by omega) g 0 6 6 _ _ w (tab_right h) h.1).mono fun e w' ⟨g', he, hg, hc, hw⟩ => ⟨g', he, lit_of hg hc (by decide), hw⟩
def placedL : List Int := [0, 0, 0, 0, 0, 16, 32, 48, 0, 64, 80, 96]
theorem placed_lit {g : Nat} (h : LitAt w g 6 tabK) : Calls Tryz.prog 57 #[mapV 3 2 g 6, .int .i64 4, .int .i64 3, .agg #[.int .i64 1, .int .i64 1]] w fun e w' => ∃ g, e = .returned (.tuple #[mapV 4 3 g 12, .int .i64 0]) ∧ LitAt w' g 12 placedL ∧ Below w.heap.size w w' :=
  (placed_any 3 2 4 3 1 1 (by omega) (by omega) (by omega) (by omega) g 0 6 6 _ _ w (tab_right h) h.1).mono fun e w' ⟨g', he, hg, hc, hw⟩ => ⟨g', he, lit_of hg hc (by decide +kernel), hw⟩
def flippedL : List Int := [48, 32, 16, 96, 80, 64]
theorem flipped_lit {g : Nat} (h : LitAt w g 6 tabK) : Calls Tryz.prog 58 #[mapV 3 2 g 6] w fun e w' => ∃ g, e = .returned (.tuple #[mapV 3 2 g 6, .int .i64 0]) ∧ LitAt w' g 6 flippedL ∧ Below w.heap.size w w' :=
  (flipped_any 3 2 g 0 6 6 _ _ w (tab_right h) h.1).mono fun e w' ⟨g', he, hg, hc, hw⟩ => ⟨g', he, lit_of hg hc (by decide +kernel), hw⟩
def turnedL : List Int := [64, 16, 80, 32, 96, 48]
theorem turned_lit {g : Nat} (h : LitAt w g 6 tabK) : Calls Tryz.prog 59 #[mapV 3 2 g 6] w fun e w' => ∃ g, e = .returned (.tuple #[mapV 2 3 g 6, .int .i64 0]) ∧ LitAt w' g 6 turnedL ∧ Below w.heap.size w w' :=
  (turned_any 3 2 g 0 6 6 _ _ w (tab_right h) h.1).mono fun e w' ⟨g', he, hg, hc, hw⟩ => ⟨g', he, lit_of hg hc (by decide +kernel), hw⟩

def scK : List Int := [1, -1]
def scL : List Int := [1, 0]
theorem scaled_lit {g : Nat} (h : LitAt w g 2 scK) : Calls Tryz.prog 26 #[mapV 2 1 g 2, .int .i64 1, .int .i64 2] w fun e w' => ∃ g, e = .returned (.tuple #[mapV 2 1 g 2, .int .i64 0]) ∧ LitAt w' g 2 scL ∧ Below w.heap.size w w' :=
  (scaled_any 2 1 1 2 (by omega) (by omega) g 0 2 2 _ _ w (h.right 2 1 rfl (by omega) (by decide) (by omega) (by omega) rfl) h.1 (by decide +kernel)).mono fun e w' ⟨g', he, hg, hc, hw⟩ => ⟨g', he, lit_of hg hc (by decide +kernel), hw⟩
def sp1K : List Int := [0, 32, 0]
def sp1L : List Int := [8, 16, 8]
theorem get_bd {L : List Int} {M : Nat} (h : ∀ k ∈ L, k.natAbs ≤ M) (j : Nat) : (L[j]?.getD 0 : Int).natAbs ≤ M := by
  by_cases hj : j < L.length
  · rw [List.getElem?_eq_getElem hj]; exact h _ (List.getElem_mem hj)
  · rw [List.getElem?_eq_none (by omega)]; simp
theorem spread1_lit {g : Nat} (h : LitAt w g 3 sp1K) : Calls Tryz.prog 61 #[mapV 3 1 g 3, .int .i64 4] w fun e w' => ∃ g, e = .returned (.tuple #[mapV 3 1 g 3, .int .i64 0]) ∧ LitAt w' g 3 sp1L ∧ Below w.heap.size w w' := by
  have e : roundsTo 3 1 4 sp1K (placesTo 3 (1 * 3)) = sp1L := by decide +kernel
  exact (spread_any 3 1 4 (by omega) (by omega) g 0 3 3 _ _ w (h.right 3 1 rfl (by omega) (by decide) (by omega) (by omega) rfl) h.1 (by rw [e]; exact get_bd (by decide))).mono fun e' w' ⟨g', he, hg, hc, hw⟩ => ⟨g', he, lit_of hg hc (by intro j hj; rw [e]), hw⟩
def sp2K : List Int := [-1, 0]
def sp2L : List Int := [0, -1]
theorem spread2_lit {g : Nat} (h : LitAt w g 2 sp2K) : Calls Tryz.prog 61 #[mapV 2 1 g 2, .int .i64 1] w fun e w' => ∃ g, e = .returned (.tuple #[mapV 2 1 g 2, .int .i64 0]) ∧ LitAt w' g 2 sp2L ∧ Below w.heap.size w w' := by
  have e : roundsTo 2 1 1 sp2K (placesTo 2 (1 * 2)) = sp2L := by decide +kernel
  exact (spread_any 2 1 1 (by omega) (by omega) g 0 2 2 _ _ w (h.right 2 1 rfl (by omega) (by decide) (by omega) (by omega) rfl) h.1 (by rw [e]; exact get_bd (by decide))).mono fun e' w' ⟨g', he, hg, hc, hw⟩ => ⟨g', he, lit_of hg hc (by intro j hj; rw [e]), hw⟩
def biK : List Int := [16, 32, 48, 64]
def biL : List Int := [160]
theorem binned_lit {g : Nat} (h : LitAt w g 4 biK) : Calls Tryz.prog 25 #[mapV 2 2 g 4, .int .i64 2] w fun e w' => ∃ g, e = .returned (.tuple #[mapV 1 1 g 1, .int .i64 0]) ∧ LitAt w' g 1 biL ∧ Below w.heap.size w w' :=
  (binned_any 2 2 2 1 1 (by omega) (by omega) rfl rfl g 0 4 4 _ _ w (h.right 2 2 rfl (by omega) (by decide) (by omega) (by omega) rfl) h.1 (fun p => by
    have h1 := get_bd (L := biK) (M := 64) (by decide)
    have e : placesTo 2 (2 * 2) = [(0, 0), (1, 0), (0, 1), (1, 1)] := by decide +kernel
    rw [e]
    simp only [binTo, List.map_cons, List.map_nil, List.sum_cons, List.sum_nil, binCell]
    have a := h1 ((p.2 * 2 + 0) * 2 + (p.1 * 2 + 0))
    have b := h1 ((p.2 * 2 + 0) * 2 + (p.1 * 2 + 1))
    have c := h1 ((p.2 * 2 + 1) * 2 + (p.1 * 2 + 0))
    have d := h1 ((p.2 * 2 + 1) * 2 + (p.1 * 2 + 1))
    omega)).mono fun e w' ⟨g', he, hg, hc, hw⟩ => ⟨g', he, lit_of hg hc (by decide +kernel), hw⟩
def prK : List Int := [16, -8]
def prS : List UInt8 := [109, 97, 112, 32, 50, 32, 49, 10, 114, 111, 119, 32, 49, 54, 32, 45, 56, 10]
theorem itoa_one (u : Nat) (h : u < 10) : Lib.itoa u = [UInt8.ofNat (48 + u)] := by
  have e : Lib.decDigits u = [UInt8.ofNat (48 + u)] := by rw [Lib.decDigits, dif_pos h]
  unfold Lib.itoa
  rw [if_neg (by omega)]
  simpa using e
theorem itoa_two (u : Nat) (h : ¬ u < 10) (h2 : u / 10 < 10) : Lib.itoa u = [UInt8.ofNat (48 + u / 10), UInt8.ofNat (48 + u % 10)] := by
  have e1 : Lib.decDigits (u / 10) = [UInt8.ofNat (48 + u / 10)] := by rw [Lib.decDigits, dif_pos h2]
  have e : Lib.decDigits u = [UInt8.ofNat (48 + u / 10), UInt8.ofNat (48 + u % 10)] := by rw [Lib.decDigits, dif_neg h, e1]; rfl
  unfold Lib.itoa
  rw [if_neg (by omega)]
  simpa using e
theorem itoa_neg (u : Nat) (h : u < 10) (h0 : 0 < u) : Lib.itoa (-(u : Int)) = [45, UInt8.ofNat (48 + u)] := by
  have e : Lib.decDigits u = [UInt8.ofNat (48 + u)] := by rw [Lib.decDigits, dif_pos h]
  unfold Lib.itoa
  rw [if_pos (by omega)]
  simpa using e
theorem pr_text : textL 2 1 prK = prS := by
  have a := itoa_one 2 (by omega)
  have b := itoa_one 1 (by omega)
  have c := itoa_two 16 (by omega) (by omega)
  have d := itoa_neg 8 (by omega) (by omega)
  have r : rowOf 2 prK 0 = [16, -8] := rfl
  simp only [textL, rowsL, lineL, List.range, List.range.loop, List.flatMap_cons, List.flatMap_nil, r, List.map_cons, List.map_nil]
  rw [show Lib.itoa ((2 : Nat) : Int) = _ from a, show Lib.itoa ((1 : Nat) : Int) = _ from b, show Lib.itoa 16 = _ from c, show Lib.itoa (-8) = _ from d]
  simp only [Lib.join_cons, Lib.joinTail]
  decide
theorem print_lit {g : Nat} (h : LitAt w g 2 prK) (ht : TabAt w) : Calls Tryz.prog 16 #[mapV 2 1 g 2] w fun e w' => e = .returned (.tuple #[strV prS, .int .i64 0]) ∧ Below w.heap.size w w' :=
  (print_any 2 1 g 0 2 2 _ _ w (h.right 2 1 rfl (by omega) (by decide) (by omega) (by omega) rfl) h.1 ht).mono fun e w' ⟨he, hw⟩ => ⟨by rw [he, pr_text], hw⟩
theorem pack_lit {g : Nat} (h : LitAt w g 2 prK) : Calls Tryz.prog 38 #[mapV 2 1 g 2] w fun e w' => ∃ ao c, e = .returned (.tuple #[.slice ao 18 c, .int .i64 0]) ∧ Below w.heap.size w w' :=
  (pack_any 2 1 g 0 2 2 _ _ w (h.right 2 1 rfl (by omega) (by decide) (by omega) (by omega) rfl) h.1).mono fun e w' ⟨v, he, ho, hw⟩ => by
    obtain ⟨ao, c, rfl⟩ := owns_slice ho
    exact ⟨ao, c, he, hw⟩
theorem draw_lit : Calls Tryz.prog 63 #[.int .i64 1, .int .i64 2] w fun e w' => ∃ g c, e = .returned (.tuple #[.slice (some ⟨g, 0, none⟩) 2 c, .int .i64 0]) ∧ g < w'.heap.size ∧ (∀ j, j < 2 → w'.cell? ⟨g, j, none⟩ = some (.int .i64 (([1, 0] : List Int)[j]?.getD 0))) ∧ Below w.heap.size w w' :=
  (draw_any 1 2 (by omega) (by omega) w).mono fun e w' ⟨v, he, ho, hw⟩ => by
    obtain ⟨g, c, rfl, hg, _⟩ := owns_some ho (by omega)
    have e2 : drawL 1 2 = [1, 0] := by decide +kernel
    rw [e2] at ho
    exact ⟨g, c, he, hg, fun j hj => owns_cell ho (by
      match j, hj with
      | 0, _ => rfl
      | 1, _ => rfl), hw⟩
end
end Go.Proofs.YtfpagmalblmnkaaGreatDoor
