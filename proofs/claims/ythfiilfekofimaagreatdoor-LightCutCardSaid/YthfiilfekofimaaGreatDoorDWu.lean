/-
  Contract of telegramAt where the stream holds, at the given place, the frame of a telegram whose numbers are in their ranges.
-/
import Derived.Test.YthfiilfekofimaaGreatDoorDWs
import Derived.Laws.CopyRow
import Derived.Test.YthfiilfekofimaaGreatDoorDFlr
import Derived.WalkMore
namespace Go.Proofs.YthfiilfekofimaaGreatDoor
open Go.RowKit
set_option linter.unusedVariables false

set_option maxRecDepth 100000 in
set_option maxHeartbeats 3200000 in
theorem telegramAt_any (s c o x y z : Int) (h : GoodT s c o x y z) (b q n cp : Nat) (k : Nat) (hk : k + 24 ≤ n) (hn : n ≤ 12288) (hcp : n ≤ cp) (hcq : cp ≤ 9223372036854775807) (w : World) (hb : b < w.heap.size)
    (hc : w.rangeAt b (q + k) ((frame s c o x y z).map (Value.int .u8))) :
    Calls Tryz.prog 109 #[.slice (some ⟨b, q, none⟩) n cp, .int .i64 k] w fun e w' =>
      e = .returned (.tuple #[.agg #[.int .i64 s, .int .i64 c, .int .i64 o, .int .i64 x, .int .i64 y, .int .i64 z], .bool true]) ∧ Below w.heap.size w w' := by
  have K1 := Lib.hid (decode_any s c o x y z h)
  clear h
  obtain ⟨V, hV⟩ : ∃ V, ((frame s c o x y z).map (Value.int .u8)) = V := ⟨_, rfl⟩
  have V24 : V.length = 24 := by rw [← hV]; simp [frame_len]
  have V1 : ∀ v ∈ V, v.oneCell' = true := by
    rw [← hV]; intro v hv
    obtain ⟨u, _, rfl⟩ := List.mem_map.1 hv
    rfl
  rw [hV] at K1 hc
  have HC := Lib.hid hc
  clear hV hc
  have i1 : ((k : Int) + 24 ≤ (n : Int)) := by omega
  have i2 : ((n : Int) ≤ (cp : Int)) := by omega
  have i3 : ((n : Int) ≤ 12288) := by omega
  have i4 : ((k : Int) ≤ (n : Int)) := by omega
  have i5 : k ≤ n := by omega
  have i6 : (0 : Int) ≤ (k : Int) := by omega
  have i7 : ((k : Int) ≤ (cp : Int)) := by omega
  go_enter Tryz.func109, Tryz.ntmps109
  go_wp2_with fail
  obtain ⟨W2, hW2⟩ : ∃ W2, ((w.alloc (.cells #[.int .i64 0, .int .i64 0, .int .i64 0, .int .i64 0, .int .i64 0, .int .i64 0] 92)).alloc (.cells ((List.replicate 24 (Value.int .u8 0)).toArray) 93)) = W2 := ⟨_, rfl⟩
  have z2 : W2.heap.size = w.heap.size + 2 := by rw [← hW2]; simp
  have hB2 : Below w.heap.size w W2 := by rw [← hW2]; exact (((Below.refl _ w).alloc (Nat.le_refl _) _).alloc (by simp) _)
  have r0 : W2.heap[w.heap.size]? = some (.cells #[.int .i64 0, .int .i64 0, .int .i64 0, .int .i64 0, .int .i64 0, .int .i64 0] 92 (0, 0)) := by
    rw [← hW2, Below.heap_alloc _ _ _ (by simp)]
    exact heap_alloc_new w _
  have r1 : W2.heap[w.heap.size + 1]? = some (.cells ((List.replicate 24 (Value.int .u8 0)).toArray) 93 (0, 0)) := by
    rw [← hW2]
    exact heap_alloc2_new w _ _
  simp only [List.replicate] at hW2
  rw [hW2]
  clear hW2
  obtain ⟨W3, hW3⟩ : ∃ W3, W2.drew = W3 := ⟨_, rfl⟩
  have hcp' : (Builtin.copy_ #[84, 84] 3 #[.slice (some ⟨w.heap.size + 1, 0, none⟩) 24 24, .slice (some ⟨b, q + k, none⟩) (n - k) (cp - k)]).run Tryz.prog W2.drew = .ok (goInt 24) (W2.drew.setRow (w.heap.size + 1) V.toArray) := by
    have e := run_copy_row (P := Tryz.prog) W2.drew 84 84 3 5 (w.heap.size + 1) 0 24 24 ⟨b, q + k, none⟩ (n - k) (cp - k) _ 93 V Tryz.underlying84 (by kernel_rfl) (show W2.drew.heap[w.heap.size + 1]? = _ from r1)
      (by rw [V24]; show 24 = Nat.min (n - k) 24; simp only [Nat.min_def]; split <;> omega)
      (fun j v hv => by rw [Addr.add_mid]; exact (hB2.cell (w' := W2) hb).trans (HC.out j v hv)) (by simp [V24]) V1
    rw [V24] at e
    simpa [V24] using e
  refine wp_region_still_tail 4 (by kernel_rfl) (by kernel_rfl) ?_
  simp only [List.take_succ_cons, List.take_zero, List.drop_succ_cons, List.drop_zero]
  change wpStill _ _ W2.drew (fun a' => wpList _ _ _ _ a' W2.drew) _ _
  rw [hW3] at hcp' ⊢
  have HW3 := Lib.hid hW3
  have R0 := Lib.hid r0
  have R1 := Lib.hid r1
  have HB2 := Lib.hid hB2
  clear hW3 r0 r1 hB2
  repeat still_step
  refine wpStill_nil ?_
  have R3 := Lib.hid (setRow_heap W3 (w.heap.size + 1) _ V.toArray _ _ (by rw [← HW3.out]; exact R1.out : W3.heap[w.heap.size + 1]? = _))
  have Q3 : Hid ((W3.setRow (w.heap.size + 1) V.toArray).heap[w.heap.size]? = some (.cells #[.int .i64 0, .int .i64 0, .int .i64 0, .int .i64 0, .int .i64 0, .int .i64 0] 92 (0, 0))) := Lib.hid (by
    rw [setRow_other W3 _ _ _ (by omega), ← HW3.out]; exact R0.out)
  have HB3 : Hid (Below w.heap.size w (W3.setRow (w.heap.size + 1) V.toArray)) := Lib.hid (by
    have e : Below w.heap.size w W3 := by rw [← HW3.out]; exact HB2.out.drew
    exact e.trans ((OnlyBlk.setRow W3 (w.heap.size + 1) _).below e.size (by omega)))
  have Z3 : w.heap.size + 2 ≤ (W3.setRow (w.heap.size + 1) V.toArray).heap.size := by rw [← HW3.out]; simp [z2]
  have hi36 : (Tryz.prog.info? 93).map (·.size) = some V.toArray.size := by rw [size24]; simp [V24]
  obtain ⟨W4, hW4⟩ : ∃ W4, W3.setRow (w.heap.size + 1) V.toArray = W4 := ⟨_, rfl⟩
  rw [hW4] at hcp' R3 Q3 HB3 Z3
  clear hW4 z2
  go_wp2_with (first
    | (refine wpList_load_row rfl 93 (.tmp 6) rfl (w.heap.size + 1) rfl 93 _ (0, 0) _ R3.out Tryz.underlying93 rfl hi36 ?_)
    | (refine wpList_store_row rfl 92 (.tmp 4) (.tmp 25) rfl w.heap.size rfl _ rfl 92 _ Q4.out ?i2 ?i3 ?i4 ?_)
    | ((go_at_call 39; refine (K1.out _).mono ?_; rintro e w4 ⟨rfl, hb4⟩
        have hs4 := hb4.size
        have Q4 : Hid ((w4.alloc (.cells #[.int .i64 s, .int .i64 c, .int .i64 o, .int .i64 x, .int .i64 y, .int .i64 z] 92)).heap[w.heap.size]? = some (.cells #[.int .i64 0, .int .i64 0, .int .i64 0, .int .i64 0, .int .i64 0, .int .i64 0] 92 (0, 0))) := Lib.hid (by
          rw [Below.heap_alloc _ _ _ (by omega), hb4.block _ (by omega)]; exact Q3.out)
        have HB4 := Lib.hid ((HB3.out.trans (hb4.mono (by omega))).alloc (by omega) (.cells #[.int .i64 s, .int .i64 c, .int .i64 o, .int .i64 x, .int .i64 y, .int .i64 z] 92))
        clear hb4)))
  case i2 => rfl
  case i3 => kernel_rfl
  case i4 => exact ⟨rfl, rfl, rfl, rfl, rfl, rfl⟩
  go_wp2
  refine bodyPost_ret (results_row_tmp Tryz.results109 _ _ w.heap.size 92 _ (0, 0) _ rfl (setRow_heap _ _ _ _ _ _ Q4.out) Tryz.underlying92 rfl (by kernel_rfl)) rfl ⟨rfl, ?_⟩
  exact HB4.out.trans ((OnlyBlk.setRow _ w.heap.size _).below HB4.out.size (by omega))
end Go.Proofs.YthfiilfekofimaaGreatDoor

/-
  Telegrams; the contract of Received for a stream of frames of telegrams whose numbers are in their ranges: these telegrams, nothing skipped, no error.
-/
namespace Go.Proofs.YthfiilfekofimaaGreatDoor
open Go.RowKit
set_option linter.unusedVariables false

/-- A telegram's numbers. -/
structure Tel where
  s : Int
  c : Int
  o : Int
  x : Int
  y : Int
  z : Int
def Tel.Good (t : Tel) : Prop := GoodT t.s t.c t.o t.x t.y t.z
def Tel.val (t : Tel) : List Value := [.int .i64 t.s, .int .i64 t.c, .int .i64 t.o, .int .i64 t.x, .int .i64 t.y, .int .i64 t.z]
def Tel.bytes (t : Tel) : List Value := (frame t.s t.c t.o t.x t.y t.z).map (Value.int .u8)
theorem Tel.val_len (t : Tel) : t.val.length = 6 := rfl
def tel0 : Tel := ⟨0, 0, 0, 0, 0, 0⟩

theorem owns_kept {w w' : World} {B T sz n N : Nat} {v : Value} {xs : List Value} (h : w.ownsRow B T sz v n xs) (hb : Below N w w') (hN : w.heap.size ≤ N) : w'.ownsRow B T sz v n xs := by
  refine ⟨h.1, ?_⟩
  rcases h.2 with h | ⟨g, cap, cur, h1, h2, h3, h4⟩
  · exact .inl h
  · exact .inr ⟨g, cap, cur, h1, h2, (hb.block g (by have := (Array.getElem?_eq_some_iff.1 h3).1; omega)).trans h3, h4⟩

theorem flat_take_succ (L : List Tel) (k : Nat) (hk : k < L.length) : (L.take (k + 1)).flatMap Tel.val = (L.take k).flatMap Tel.val ++ (L[k]?.getD tel0).val := by
  rw [List.take_succ_eq_append_getElem hk, List.flatMap_append, List.getElem?_eq_getElem hk]; simp

theorem Tryz.infoTel : (Tryz.prog.info? 92).map (fun i => (i.zero, i.size, i.bytes)) = some (some (.agg #[.int .i64 0, .int .i64 0, .int .i64 0, .int .i64 0, .int .i64 0, .int .i64 0]), 6, 48) := by kernel_rfl

theorem cells_new6 (w : World) (T : TypeId) (a b c d e f : Value) : ∀ j u, [a, b, c, d, e, f][j]? = some u → (w.alloc (.cells #[a, b, c, d, e, f] T)).cell? ((⟨w.heap.size, 0, none⟩ : Addr).add j) = some u := fun j u h => by
  rw [Addr.add_mid, cell_of_row _ w.heap.size (0 + j) _ _ (0, 0) (heap_alloc_new w _)]
  simpa using h

theorem cells_new6' (w : World) (o : Obj) (T : TypeId) (a b c d e f : Value) : ∀ j u, [a, b, c, d, e, f][j]? = some u → ((w.alloc o).alloc (.cells #[a, b, c, d, e, f] T)).cell? ((⟨w.heap.size + 1, 0, none⟩ : Addr).add j) = some u := fun j u h => by
  have := cells_new6 (w.alloc o) T a b c d e f j u h
  simpa using this
theorem telegramAt_tel (t : Tel) (h : t.Good) (b q n cp k : Nat) (hk : k + 24 ≤ n) (hn : n ≤ 12288) (hcp : n ≤ cp) (hcq : cp ≤ 9223372036854775807) (w : World) (hb : b < w.heap.size) (hc : w.rangeAt b (q + k) t.bytes) :
    Calls Tryz.prog 109 #[.slice (some ⟨b, q, none⟩) n cp, .int .i64 k] w fun e w' =>
      e = .returned (.tuple #[.agg #[.int .i64 t.s, .int .i64 t.c, .int .i64 t.o, .int .i64 t.x, .int .i64 t.y, .int .i64 t.z], .bool true]) ∧ Below w.heap.size w w' := by
  unfold Tel.bytes at hc
  exact telegramAt_any _ _ _ _ _ _ h b q n cp k hk hn hcp hcq w hb hc

set_option maxRecDepth 100000 in
set_option maxHeartbeats 3200000 in
theorem received_any (L : List Tel) (hg : ∀ t ∈ L, t.Good) (b q n cp : Nat) (hn : n = 24 * L.length) (hm : n ≤ 12288) (hcp : n ≤ cp) (hcq : cp ≤ 9223372036854775807) (w : World) (hb : b < w.heap.size)
    (hc : ∀ k, k < L.length → w.rangeAt b (q + 24 * k) (L[k]?.getD tel0).bytes) :
    Calls Tryz.prog 40 #[.slice (some ⟨b, q, none⟩) n cp] w fun e w' =>
      ∃ v, e = .returned (.tuple #[v, .slice none 0 0, .int .i64 0]) ∧ w'.ownsRow w.heap.size 92 6 v L.length (L.flatMap Tel.val) ∧ Below w.heap.size w w' := by
  obtain ⟨i0, hi, hz0, hz1, hz2⟩ := info_parts Tryz.infoTel
  have HC := Lib.hid hc
  have HG := Lib.hid hg
  have i1 : ((n : Int) ≤ 12288) := by omega
  have HN := Lib.hid hn
  clear hc hg hn
  go_enter Tryz.func40, Tryz.ntmps40
  go_wp2
  go_loopw [5, 6, 7] (fun out sk i wr => ∃ k m : Nat, k ≤ L.length ∧ m = 24 * k ∧ i = .int .i64 m ∧ sk = .slice none 0 0 ∧ wr.ownsRow w.heap.size 92 6 out k ((L.take k).flatMap Tel.val) ∧ Below w.heap.size w wr)
    (fun _ _ i _ => n - (intOf i).toNat)
  case atStart => exact ⟨0, 0, Nat.zero_le _, rfl, rfl, rfl, World.ownsRow_nil _ _ _ _, Below.refl _ _⟩
  case round =>
    obtain ⟨k, m, hk, hmk, rfl, rfl, hown, hnx⟩ := hrel
    have hsz : w.heap.size ≤ wr.heap.size := hnx.size
    have hn := HN.out
    by_cases hlt : k < L.length
    · have hi1 : ((m : Int) < (n : Int)) := by omega
      have hi2 : ((m : Int) + 24 ≤ 12288) := by omega
      have hS := flat_take_succ L k hlt
      have hc0 := HC.out k hlt
      have hT : (L[k]?.getD tel0).Good := by
        rw [List.getElem?_eq_getElem hlt]; exact HG.out _ (List.getElem_mem hlt)
      obtain ⟨t, ht⟩ : ∃ t, L[k]?.getD tel0 = t := ⟨_, rfl⟩
      rw [ht] at hT hc0 hS
      have hr : wr.rangeAt b (q + m) t.bytes := fun j v hv => by
        rw [hnx.cell (by exact hb), hmk]
        exact hc0 j v hv
      have K := Lib.hid (telegramAt_tel t hT b q n cp m (by omega) hm hcp hcq wr (by omega) hr)
      have HS := Lib.hid hS
      have HMK := Lib.hid hmk
      have hkm : k ≤ 512 := by omega
      clear ht hr hc0 hS hmk hn
      clear hT
      go_wp2_with (first
        | (go_at_call 109; refine K.out.mono ?_; rintro e w2 ⟨rfl, hb2⟩
           have hown2 := owns_kept hown hb2 (Nat.le_refl _)
           have hs2 := hb2.size)
        | (at_builtin; refine wpList_append_own _ rfl (.tmp 24) (.tmp 26) 86 rfl w.heap.size 92 i0 (.agg #[.int .i64 0, .int .i64 0, .int .i64 0, .int .i64 0, .int .i64 0, .int .i64 0]) 6 48 Tryz.underlying86 hi hz0 hz1 hz2 rfl (by decide) _ k _ rfl ((hown2.alloc _).alloc _) ⟨w2.heap.size + 1, 0, none⟩ 1 1 t.val rfl rfl (cells_new6' _ _ _ _ _ _ _ _ _) (by intro u hu; simp [Tel.val] at hu; rcases hu with rfl | rfl | rfl | rfl | rfl | rfl <;> rfl) (by unfold maxLen; omega) (by omega) (by simp; omega) ?_; intro v' w3 hown3 hgrow3 _))
      have hlt' := hown2.lt
      have hB2 : Below w.heap.size w w2 := hnx.trans (hb2.mono hsz)
      go_roundw
      case rel => exact ⟨k + 1, m + 24, by omega, by have := HMK.out; omega, by go_num, rfl, by rw [HS.out]; exact hown3, ((hB2.alloc (by omega) _).alloc (by simp; omega) _).grown hgrow3 (by simp; omega) (fun j hj => (hlt' j hj).1)⟩
      case measure => simp [intOf]; omega
    · have hi3 : ¬ ((m : Int) < (n : Int)) := by omega
      clear hn hmk
      go_wp2
      obtain rfl : k = L.length := by omega
      rw [List.take_length] at hown
      refine bodyPost_ret (v := .tuple #[u5, .slice none 0 0, .int .i64 0]) (by simp [results, Tryz.results40, go_sem]) rfl ⟨_, rfl, hown, hnx⟩
end Go.Proofs.YthfiilfekofimaaGreatDoor

/-
  Contracts of countersOf and of mapped at telegrams.
-/
namespace Go.Proofs.YthfiilfekofimaaGreatDoor
open Go.RowKit
set_option linter.unusedVariables false

/-- These telegrams lie at an address. -/
def TelsAt (w : World) (b q : Nat) (L : List Tel) : Prop := ∀ k, k < L.length → w.rangeAt b (q + k * 6) (L[k]?.getD tel0).val
theorem TelsAt.kept {w w' : World} {b q B : Nat} {L : List Tel} (h : TelsAt w b q L) (hb : Below B w w') (hB : b < B) : TelsAt w' b q L := fun k hk j v hv => by
  rw [hb.cell (by exact hB)]; exact h k hk j v hv
/-- The counters of a station's telegrams. -/
def countsOf (L : List Tel) (st : Int) : List Int := (L.filter (fun t => t.s == st)).map (·.c)
theorem countsOf_succ (L : List Tel) (st : Int) (k : Nat) (hk : k < L.length) : countsOf (L.take (k + 1)) st = if (L[k]?.getD tel0).s = st then countsOf (L.take k) st ++ [(L[k]?.getD tel0).c] else countsOf (L.take k) st := by
  rw [List.take_succ_eq_append_getElem hk, List.getElem?_eq_getElem hk]
  simp only [countsOf, List.filter_append, List.map_append, Option.getD_some]
  split
  · rename_i h; simp [h]
  · rename_i h; simp [h]
theorem counts_len (L : List Tel) (st : Int) : (countsOf L st).length ≤ L.length := by
  simp only [countsOf, List.length_map]; exact List.length_filter_le _ _

set_option maxRecDepth 100000 in
set_option maxHeartbeats 3200000 in
theorem countersOf_any (L : List Tel) (b q n cp : Nat) (st : Int) (hn : n = L.length) (hm : n ≤ 512) (w : World) (hb : b < w.heap.size) (hc : TelsAt w b q L) :
    Calls Tryz.prog 113 #[.slice (some ⟨b, q, none⟩) n cp, .int .i64 st] w fun e w' =>
      ∃ v, e = .returned v ∧ w'.ownsRow w.heap.size 3 1 v (countsOf L st).length ((countsOf L st).map (Value.int .i64)) ∧ Below w.heap.size w w' := by
  obtain ⟨i0, hi, hz0, hz1, hz2⟩ := info_parts Tryz.infoInt
  have HC := Lib.hid hc
  have HN := Lib.hid hn
  clear hc hn
  have s35 : (Tryz.prog.info? 92).map (·.size) = some 6 := by kernel_rfl
  go_enter Tryz.func113, Tryz.ntmps113
  go_wp2
  go_loopw [5, 10] (fun out i wr => ∃ k : Nat, k ≤ n ∧ i = .int .i64 k ∧ wr.ownsRow w.heap.size 3 1 out (countsOf (L.take k) st).length ((countsOf (L.take k) st).map (Value.int .i64)) ∧ Below w.heap.size w wr)
    (fun _ i _ => n - (intOf i).toNat)
  case atStart => exact ⟨0, Nat.zero_le _, rfl, World.ownsRow_nil _ _ _ _, Below.refl _ _⟩
  case round =>
    obtain ⟨k, hk, rfl, hown, hnx⟩ := hrel
    have hsz : w.heap.size ≤ wr.heap.size := hnx.size
    by_cases hlt : k < n
    · have hT := HC.out k (by have := HN.out; omega)
      have hS := countsOf_succ L st k (by have := HN.out; omega)
      obtain ⟨t, ht⟩ : ∃ t, L[k]?.getD tel0 = t := ⟨_, rfl⟩
      rw [ht] at hT hS
      have hr : wr.rangeAt b (q + k * 6) t.val := fun j v hv => by
        rw [hnx.cell (by exact hb)]
        exact hT j v hv
      have HR := Lib.hid hr
      have HS := Lib.hid hS
      clear ht hr hT hS
      have hv : t.val = [.int .i64 t.s, .int .i64 t.c, .int .i64 t.o, .int .i64 t.x, .int .i64 t.y, .int .i64 t.z] := rfl
      have hcl := counts_len (L.take k) st
      have hcl2 : (L.take k).length ≤ k := by simp; omega
      by_cases hst : t.s = st
      · have HST := Lib.hid hst
        have hst1 : (t.s == st) = true := by simp [hst]
        clear hst
        go_wp2_with (first
          | (refine wpList_load_mid rfl 92 (.tmp 12) rfl b (q + k * 6) rfl t.val _ HR.out Tryz.underlying92 rfl (by rw [s35]; rfl) ?_)
          | (at_builtin; refine wpList_append_own _ rfl (.tmp 18) (.tmp 21) 102 rfl w.heap.size 3 i0 (.int .i64 0) 1 8 Tryz.underlying102 hi hz0 hz1 hz2 rfl (by decide) _ _ _ rfl ((hown.alloc _).alloc _) ⟨wr.heap.size + 1, 0, none⟩ 1 1 [.int .i64 t.c] rfl rfl (by have h := cell_one_new (wr.alloc (.cells #[.int .i64 t.s, .int .i64 t.c, .int .i64 t.o, .int .i64 t.x, .int .i64 t.y, .int .i64 t.z] 92)) (.int .i64 t.c) 3; simpa using h) (by intro u hu; simp at hu; subst hu; rfl) (by unfold maxLen; omega) (by omega) (by simp; omega) ?_; intro v' w3 hown3 hgrow3 _))
        have hlt' := hown.lt
        go_roundw
        case rel => exact ⟨k + 1, by omega, by go_num, by rw [HS.out, if_pos HST.out, List.map_append, List.length_append]; exact hown3, ((hnx.alloc hsz _).alloc (by simp; omega) _).grown hgrow3 (by simp; omega) (fun j hj => (hlt' j hj).1)⟩
        case measure => simp [intOf]; omega
      · go_wp2_with (first
          | (refine wpList_load_mid rfl 92 (.tmp 12) rfl b (q + k * 6) rfl t.val _ HR.out Tryz.underlying92 rfl (by rw [s35]; rfl) ?_))
        go_roundw
        case rel => exact ⟨k + 1, by omega, by go_num, by rw [HS.out, if_neg hst]; exact hown.alloc _, hnx.alloc hsz _⟩
        case measure => simp [intOf]; omega
    · go_wp2
      go_ret
      obtain rfl : k = n := by omega
      rw [List.take_of_length_le (by have := HN.out; omega)] at hown
      exact ⟨_, rfl, hown, hnx⟩
end Go.Proofs.YthfiilfekofimaaGreatDoor

/-
  Contract of mapped at telegrams, with the check of a telegram: of right telegrams, as many zeros.
-/
namespace Go.Proofs.YthfiilfekofimaaGreatDoor
open Go.RowKit
set_option linter.unusedVariables false

theorem checkTelegram_tel (t : Tel) (h : t.Good) (w : World) :
    Calls Tryz.prog 106 #[.agg #[.int .i64 t.s, .int .i64 t.c, .int .i64 t.o, .int .i64 t.x, .int .i64 t.y, .int .i64 t.z]] w fun e w' =>
      e = .returned (.int .i64 0) ∧ Below w.heap.size w w' := checkTelegram_any _ _ _ _ _ _ h w

set_option maxRecDepth 100000 in
set_option maxHeartbeats 3200000 in
theorem mapped_tel (L : List Tel) (hg : ∀ t ∈ L, t.Good) (b q n cp : Nat) (hn : n = L.length) (hm : n ≤ 512) (w : World) (hb : b < w.heap.size) (hc : TelsAt w b q L) :
    Calls Tryz.prog 153 #[.slice (some ⟨b, q, none⟩) n cp, .func (.func 106) #[] #[]] w fun e w' =>
      e = .returned (.slice (some ⟨w.heap.size, 0, none⟩) n n) ∧ w'.ownsRow w.heap.size 27 1 (.slice (some ⟨w.heap.size, 0, none⟩) n n) n (List.replicate n (Value.int .i64 0)) ∧ Below w.heap.size w w' := by
  obtain ⟨i0, hi, hz0, hz1, hz2⟩ := info_parts Tryz.info27_check
  have HC := Lib.hid hc
  have HN := Lib.hid hn
  have HG := Lib.hid hg
  clear hc hn hg
  have s35 : (Tryz.prog.info? 92).map (·.size) = some 6 := by kernel_rfl
  go_enter Tryz.func153, Tryz.ntmps153
  go_wp2_with (at_make; refine wpList_make_own _ rfl _ _ 113 rfl w.heap.size 27 i0 (.int .i64 0) 1 Tryz.underlying113 hi hz0 hz1 _ _ _ n rfl rfl (by omega) ?b2 ?b3 (Nat.le_refl _) ?_)
  case b2 => rw [hz2]; omega
  case b3 => unfold maxLen; omega
  intro w0 hown0 hgrow0
  go_wp2
  go_loopw [5, 13] (fun out i wr => ∃ k : Nat, k ≤ n ∧ i = .int .i64 k ∧ out = .slice (some ⟨w.heap.size, 0, none⟩) k n ∧
      wr.ownsRow w.heap.size 27 1 (.slice (some ⟨w.heap.size, 0, none⟩) k n) k (List.replicate k (Value.int .i64 0)) ∧ Below w.heap.size w wr)
    (fun _ i _ => n - (intOf i).toNat)
  case atStart => exact ⟨0, Nat.zero_le _, rfl, rfl, hown0, (Below.refl _ _).grown hgrow0 (Nat.le_refl _) (fun k h => by cases h)⟩
  case round =>
    obtain ⟨k, hk, rfl, rfl, hown, hnx⟩ := hrel
    have hsz := hnx.size
    by_cases hlt : k < n
    · have hlt2 : k < L.length := by have := HN.out; omega
      have hT := HC.out k hlt2
      have hG : (L[k]?.getD tel0).Good := by
        rw [List.getElem?_eq_getElem hlt2]; exact HG.out _ (List.getElem_mem hlt2)
      obtain ⟨t, ht⟩ : ∃ t, L[k]?.getD tel0 = t := ⟨_, rfl⟩
      rw [ht] at hT hG
      have hr : wr.rangeAt b (q + k * 6) t.val := fun j v hv => by
        rw [hnx.cell (by exact hb)]
        exact hT j v hv
      have HR := Lib.hid hr
      have K := Lib.hid (checkTelegram_tel t hG)
      clear ht hr hT hG hlt2
      have hv : t.val = [.int .i64 t.s, .int .i64 t.c, .int .i64 t.o, .int .i64 t.x, .int .i64 t.y, .int .i64 t.z] := rfl
      go_wp2_with (first
        | (refine wpList_load_mid rfl 92 (.tmp 15) rfl b (q + k * 6) rfl t.val _ HR.out Tryz.underlying92 rfl (by rw [s35]; rfl) ?_)
        | (go_at_call 106; refine (K.out _).mono ?_; rintro e w2 ⟨rfl, hb2⟩
           have hown2 := owns_kept (hown.alloc _) hb2 (Nat.le_refl _)
           have hs2 : wr.heap.size + 1 ≤ w2.heap.size := by simpa using hb2.size)
        | (at_builtin; refine wpList_append_fits _ rfl (.tmp 17) (.tmp 21) 113 rfl w.heap.size 27 i0 1 Tryz.underlying113 hi hz1 w.heap.size k n _ rfl (hown2.alloc _) ⟨w2.heap.size, 0, none⟩ 1 1 [.int .i64 0] rfl rfl (cell_one_new _ _ _) (by intro u hu; simp at hu; subst hu; rfl) (by omega) ?_; intro w1 hown1 hgrow1))
      have hB2 : Below w.heap.size w w2 := (hnx.alloc hsz _).trans (hb2.mono (by simp; omega))
      go_roundw
      case rel => exact ⟨k + 1, by omega, by go_num, rfl, by rw [List.replicate_succ']; exact hown1, (hB2.alloc (by omega) _).grown hgrow1 (by simp; omega) (fun j hj => by cases hj; exact Nat.le_refl _)⟩
      case measure => simp [intOf]; omega
    · go_wp2
      go_ret
      obtain rfl : k = n := by omega
      exact ⟨rfl, hown, hnx⟩
end Go.Proofs.YthfiilfekofimaaGreatDoor

/-
  Contract of missing for ascending counters: the counters between each one and the next.
-/
namespace Go.Proofs.YthfiilfekofimaaGreatDoor
open Go.RowKit
set_option linter.unusedVariables false

/-- The integers between two. -/
def gap (a b : Int) : List Int := (List.range (b - a - 1).toNat).map (fun j : Nat => a + 1 + (j : Int))
/-- The integers between each of the first k and the next one. -/
def gapsTo (xs : List Int) (k : Nat) : List Int := (List.range k).flatMap (fun i => gap (xs[i]?.getD 0) (xs[i + 1]?.getD 0))
theorem gapsTo_succ (xs : List Int) (k : Nat) : gapsTo xs (k + 1) = gapsTo xs k ++ gap (xs[k]?.getD 0) (xs[k + 1]?.getD 0) := by
  simp [gapsTo, List.range_succ]
theorem gap_len (a b : Int) : (gap a b).length = (b - a - 1).toNat := by simp [gap]

/-- Ascending counters from 0 to 200. -/
structure Asc (xs : List Int) (n : Nat) : Prop where
  len : xs.length = n
  bd : ∀ j, j < n → 0 ≤ xs[j]?.getD 0 ∧ xs[j]?.getD 0 ≤ 200
  up : ∀ j, j + 1 < n → xs[j]?.getD 0 < xs[j + 1]?.getD 0
theorem gapsTo_len {xs : List Int} {n : Nat} (h : Asc xs n) : ∀ k, k < n → ((gapsTo xs k).length : Int) ≤ xs[k]?.getD 0
  | 0, hk => by have := h.bd 0 hk; simp [gapsTo]; omega
  | k + 1, hk => by
    have ih := gapsTo_len h k (by omega)
    have hu := h.up k hk
    rw [gapsTo_succ, List.length_append, gap_len]
    omega

theorem owns_slice {w : World} {B T sz n : Nat} {v : Value} {xs : List Value} (h : w.ownsRow B T sz v n xs) : ∃ ao c, v = .slice ao n c := by
  rcases h.2 with ⟨h, h0⟩ | ⟨g, cap, cur, h, _⟩
  · exact ⟨none, 0, by rw [h, h0]⟩
  · exact ⟨_, _, h⟩

theorem missing_none (ao : Option Addr) (c : Nat) (w : World) :
    Calls Tryz.prog 112 #[.slice ao 0 c, .int .i64 257] w fun e w' => e = .returned (.slice none 0 0) ∧ w = w' := by
  go_enter Tryz.func112, Tryz.ntmps112
  go_wp2
  go_step3
  go_wp2
  go_step3
  go_wp2
  refine wp_loop_rounds 1 ?_
  rw [rounds_succ]
  go_wp2
  try rw [Exit.noGoto_ret]
  go_ret
  exact ⟨rfl, rfl⟩

set_option maxRecDepth 100000 in
set_option maxHeartbeats 3200000 in
theorem missing_any (xs : List Int) (n g c : Nat) (hA : Asc xs n) (hn1 : 1 ≤ n) (hm : n ≤ 512) (w : World) (hg : g < w.heap.size) (hc : ∀ j, j < n → w.cell? ⟨g, j, none⟩ = some (.int .i64 (xs[j]?.getD 0))) :
    Calls Tryz.prog 112 #[.slice (some ⟨g, 0, none⟩) n c, .int .i64 257] w fun e w' =>
      ∃ v, e = .returned v ∧ w'.ownsRow w.heap.size 3 1 v (gapsTo xs (n - 1)).length ((gapsTo xs (n - 1)).map (Value.int .i64)) ∧ Below w.heap.size w w' := by
  obtain ⟨i0, hi, hz0, hz1, hz2⟩ := info_parts Tryz.infoInt
  have HC := Lib.hid hc
  have HA := Lib.hid hA
  clear hc hA
  have j1 : ((1 : Int) ≤ (n : Int)) := by omega
  have j2 : ((n : Int) ≤ 512) := by omega
  go_enter Tryz.func112, Tryz.ntmps112
  go_wp2
  go_step3
  go_wp2
  go_step3
  go_wp2
  go_loopw [5, 13] (fun out i wr => ∃ k : Nat, k ≤ n - 1 ∧ i = .int .i64 k ∧ wr.ownsRow w.heap.size 3 1 out (gapsTo xs k).length ((gapsTo xs k).map (Value.int .i64)) ∧ Below w.heap.size w wr)
    (fun _ i _ => n - (intOf i).toNat)
  case atStart => exact ⟨0, Nat.zero_le _, rfl, World.ownsRow_nil _ _ _ _, Below.refl _ _⟩
  case round =>
    obtain ⟨k, hk, rfl, hown, hnx⟩ := hrel
    have hsz := hnx.size
    by_cases hlt : k + 1 < n
    · have c0 : wr.cell? ⟨g, k, none⟩ = some (.int .i64 (xs[k]?.getD 0)) := (hnx.cell (by exact hg)).trans (HC.out k (by omega))
      have c1 : wr.cell? ⟨g, k + 1, none⟩ = some (.int .i64 (xs[k + 1]?.getD 0)) := (hnx.cell (by exact hg)).trans (HC.out (k + 1) hlt)
      have hb0 := HA.out.bd k (by omega)
      have hb1 := HA.out.bd (k + 1) hlt
      have hup := HA.out.up k hlt
      have hlen := gapsTo_len HA.out k (by omega)
      have hS := gapsTo_succ xs k
      obtain ⟨a, ha⟩ : ∃ a, xs[k]?.getD 0 = a := ⟨_, rfl⟩
      obtain ⟨b, hb⟩ : ∃ b, xs[k + 1]?.getD 0 = b := ⟨_, rfl⟩
      obtain ⟨pre, hpre⟩ : ∃ pre, gapsTo xs k = pre := ⟨_, rfl⟩
      rw [ha] at c0 hb0 hup hlen hS
      rw [hb] at c1 hb1 hup hS
      rw [hpre] at hown hlen hS
      have HS := Lib.hid hS
      clear ha hb hpre hS
      have hltI : ((k : Int) < (n : Int) - 1) := by omega
      have k0 : ((k : Int) < (n : Int)) := by omega
      have k1 : ((k : Int) + 1 < (n : Int)) := by omega
      have k2 : ((0 : Int) ≤ (k : Int) + 1) := by omega
      have k3 : ((k : Int) + 1).toNat = k + 1 := by omega
      have k4 : IntKind.i64.wrap ((k : Int) + 1) = (k : Int) + 1 := IntWalk.i64_in _ ⟨by omega, by omega⟩
      go_wp2_with fail
      go_region_held3 (fun w' => w'.cell? ⟨g, k, none⟩ = some (.int .i64 a) ∧ w'.cell? ⟨g, k + 1, none⟩ = some (.int .i64 b)) (go_keep) (fail)
      have hf : (a + 1) % 65536 = a + 1 := by omega
      go_wp2_with (go_at_call 154; refine (following_any _ hb0.1 (by omega) _).mono ?_; rintro e w' ⟨rfl, rfl⟩)
      obtain ⟨Wd, hWd⟩ : ∃ Wd, wr.drew = Wd := ⟨_, rfl⟩
      have hownd : Wd.ownsRow w.heap.size 3 1 u5 pre.length (pre.map (Value.int .i64)) := by rw [← hWd]; exact hown
      have hBd : Below w.heap.size w Wd := by rw [← hWd]; exact hnx.drew
      rw [hWd]
      clear hWd hown c0 c1
      go_loopw [5, 9] (fun out i wi => ∃ j : Nat, (j : Int) ≤ b - a - 1 ∧ i = .int .i64 (a + 1 + j) ∧ wi.ownsRow w.heap.size 3 1 out (pre.length + j) ((pre ++ (List.range j).map (fun j : Nat => a + 1 + (j : Int))).map (Value.int .i64)) ∧ Below w.heap.size w wi)
        (fun _ i _ => (b - intOf i).toNat)
      case atStart => exact ⟨0, by omega, by simp, by simpa using hownd, hBd⟩
      case round =>
        obtain ⟨j, hj, rfl, hown, hnx2⟩ := hrel
        have hsz2 := hnx2.size
        by_cases hjl : (j : Int) < b - a - 1
        · have hne : ((a + 1 + (j : Int)) != b) = true := by simp; omega
          obtain ⟨ℓ, hℓ⟩ : ∃ ℓ, pre.length + j = ℓ := ⟨_, rfl⟩
          have hℓ2 : ℓ ≤ 200 := by omega
          have hℓ3 : ((ℓ : Int) == 257) = false := by simp; omega
          rw [hℓ] at hown
          obtain ⟨ao, cc, rfl⟩ := owns_slice hown
          have hf2 : (a + 1 + (j : Int) + 1) % 65536 = a + 1 + (j : Int) + 1 := by omega
          have hj1 : (((j + 1 : Nat)) : Int) ≤ b - a - 1 := by omega
          have HL := Lib.hid hℓ
          have HJ1 := Lib.hid hj1
          clear hℓ hjl hj1
          go_wp2_with (first
            | (go_at_call 154; refine (following_any _ (by omega) (by omega) _).mono ?_; rintro e w' ⟨rfl, rfl⟩)
            | (at_builtin; refine wpList_append_own _ rfl (.tmp 36) (.tmp 38) 102 rfl w.heap.size 3 i0 (.int .i64 0) 1 8 Tryz.underlying102 hi hz0 hz1 hz2 rfl (by decide) _ _ _ rfl (hown.alloc _) ⟨wr.heap.size, 0, none⟩ 1 1 [.int .i64 (a + 1 + (j : Int))] rfl rfl (cell_one_new _ _ _) (by intro u hu; simp at hu; subst hu; rfl) (by unfold maxLen; omega) (by omega) (by simp; omega) ?_; intro v' w3 hown3 hgrow3 _))
          have hlt' := hown.lt
          go_roundw
          case rel =>
            refine ⟨j + 1, HJ1.out, by push_cast; go_num, ?_, (hnx2.alloc hsz2 _).grown hgrow3 (by simp; omega) (fun q hq => (hlt' q hq).1)⟩
            have e : (pre ++ (List.range (j + 1)).map (fun j : Nat => a + 1 + (j : Int))).map (Value.int .i64) = (pre ++ (List.range j).map (fun j : Nat => a + 1 + (j : Int))).map (Value.int .i64) ++ [.int .i64 (a + 1 + (j : Int))] := by simp [List.range_succ]
            rw [e, show pre.length + (j + 1) = ℓ + 1 by have := HL.out; omega]
            exact hown3
          case measure => have := HJ1.out; simp [intOf]; omega
        · have hje : a + 1 + (j : Int) = b := by omega
          have hne : ((a + 1 + (j : Int)) != b) = false := by simp [hje]
          have HJ := Lib.hid hje
          clear hje hjl
          go_wp2
          go_roundw
          case rel =>
            refine ⟨k + 1, by omega, by go_num, ?_, hnx2⟩
            have e : (b - a - 1).toNat = j := by have := HJ.out; omega
            rw [HS.out, gap, e]
            simpa using hown
          case measure => simp [intOf]; omega
    · have hltI : ¬ ((k : Int) < (n : Int) - 1) := by omega
      go_wp2
      try rw [Exit.noGoto_ret]
      go_ret
      obtain rfl : k = n - 1 := by omega
      exact ⟨_, rfl, hown, hnx⟩
end Go.Proofs.YthfiilfekofimaaGreatDoor

/-
  Contract of Lost for telegrams whose numbers are in their ranges and a station whose counters ascend.
-/
namespace Go.Proofs.YthfiilfekofimaaGreatDoor
open Go.RowKit
set_option linter.unusedVariables false

theorem owns_some {w : World} {B T sz n : Nat} {v : Value} {xs : List Value} (h : w.ownsRow B T sz v n xs) (hn : 1 ≤ n) : ∃ g c, v = .slice (some ⟨g, 0, none⟩) n c ∧ g < w.heap.size ∧ B ≤ g := by
  rcases h.2 with ⟨_, h0⟩ | ⟨g, cap, cur, h, h2, h3, _⟩
  · omega
  · exact ⟨g, cap, h, (Array.getElem?_eq_some_iff.1 h3).1, h2⟩


/-- missing at a slice that owns ascending counters, or at none. -/
theorem missing_own (xs : List Int) (n : Nat) (hA : Asc xs n) (hm : n ≤ 512) (w : World) (B : Nat) (v : Value) (h : w.ownsRow B 3 1 v n (xs.map (Value.int .i64))) :
    Calls Tryz.prog 112 #[v, .int .i64 257] w fun e w' =>
      ∃ v', e = .returned v' ∧ w'.ownsRow w.heap.size 3 1 v' (gapsTo xs (n - 1)).length ((gapsTo xs (n - 1)).map (Value.int .i64)) ∧ Below w.heap.size w w' := by
  by_cases hn : 1 ≤ n
  · obtain ⟨g, c, rfl, hg, _⟩ := owns_some h hn
    exact missing_any xs n g c hA hn hm w hg (fun j hj => owns_cell h (by
      rw [List.getElem?_map, List.getElem?_eq_getElem (by rw [hA.len]; exact hj)]; rfl))
  · obtain rfl : n = 0 := by omega
    have hx : xs = [] := List.length_eq_zero_iff.1 hA.len
    subst hx
    obtain ⟨ao, c, rfl⟩ := owns_slice h
    exact (missing_none ao c w).mono fun e w' ⟨he, hw⟩ => ⟨_, he, by subst hw; exact World.ownsRow_nil _ _ _ _, by subst hw; exact Below.refl _ _⟩

set_option maxRecDepth 100000 in
set_option maxHeartbeats 3200000 in
theorem checkList_tel (L : List Tel) (hg : ∀ t ∈ L, t.Good) (b q n cp : Nat) (hn : n = L.length) (hm : n ≤ 512) (w : World) (hb : b < w.heap.size) (hc : TelsAt w b q L) :
    Calls Tryz.prog 111 #[.slice (some ⟨b, q, none⟩) n cp, .int .i64 512, .func (.func 106) #[] #[]] w fun e w' =>
      e = .returned (.int .i64 0) ∧ Below w.heap.size w w' := by
  have K1 := Lib.hid (mapped_tel L hg b q n cp hn hm w hb hc)
  have i1 : ((n : Int) ≤ 512) := by omega
  clear hg hc hn
  go_enter Tryz.func111, Tryz.ntmps111
  go_wp2_with (first
    | (go_at_call 153; refine K1.out.mono ?_; rintro e w1 ⟨rfl, hown1, hb1⟩
       have HZ : Hid (∀ j, j < n → w1.cell? ⟨w.heap.size, 0 + j, none⟩ = some (.int .i64 0)) := Lib.hid fun j hj => by
         rw [Nat.zero_add]
         refine owns_cell hown1 ?_
         simp [hj]
       have HB := Lib.hid hb1
       clear hown1 hb1)
    | (go_at_call 47; refine (first_zeros _ 0 _ _ (by omega) _ HZ.out).mono ?_; rintro e w' ⟨rfl, rfl⟩))
  go_ret
  exact ⟨rfl, HB.out⟩

set_option maxRecDepth 100000 in
set_option maxHeartbeats 3200000 in
theorem lost_any (L : List Tel) (hg : ∀ t ∈ L, t.Good) (b q n cp : Nat) (st : Int) (hs : 0 ≤ st ∧ st ≤ 255) (hn : n = L.length) (hm : n ≤ 512) (w : World) (hb : b < w.heap.size) (hc : TelsAt w b q L)
    (hA : Asc (countsOf L st) (countsOf L st).length) (hlen : (gapsTo (countsOf L st) ((countsOf L st).length - 1)).length ≤ 256) :
    Calls Tryz.prog 42 #[.slice (some ⟨b, q, none⟩) n cp, .int .i64 st] w fun e w' =>
      ∃ v, e = .returned (.tuple #[v, .int .i64 0]) ∧ w'.ownsRow w.heap.size 3 1 v (gapsTo (countsOf L st) ((countsOf L st).length - 1)).length ((gapsTo (countsOf L st) ((countsOf L st).length - 1)).map (Value.int .i64)) ∧ Below w.heap.size w w' := by
  have K1 := Lib.hid (checkList_tel L hg b q n cp hn hm w hb hc)
  have K2 := Lib.hid (fun (w' : World) (h1 : b < w'.heap.size) (h2 : TelsAt w' b q L) => countersOf_any L b q n cp st hn hm w' h1 h2)
  have hcl := counts_len L st
  have K3 := Lib.hid (fun (w' : World) (B : Nat) (v : Value) h => missing_own (countsOf L st) _ hA (by omega) w' B v h)
  have HC := Lib.hid hc
  have hst : rangeErr st 0 255 = 0 := rangeErr_in hs.1 hs.2
  have i1 : ((n : Int) ≤ 512) := by omega
  obtain ⟨R, hR⟩ : ∃ R, gapsTo (countsOf L st) ((countsOf L st).length - 1) = R := ⟨_, rfl⟩
  rw [hR] at K3 hlen ⊢
  have i2 : ((R.length : Int) ≤ 256) := by omega
  clear hg hc hA hn hR hcl hs
  go_enter Tryz.func42, Tryz.ntmps42
  go_wp2_with (first
    | (go_at_call 111; refine K1.out.mono ?_; rintro e w1 ⟨rfl, hb1⟩)
    | (go_at_call 101; refine (checkRange_any _ _ _ _).mono ?_; rintro e w' ⟨rfl, rfl⟩)
    | (go_at_call 47; refine (first_zeros _ 0 2 2 (by omega) _ (fun j hj => by match j, hj with | 0, _ => simp [go_sem] | 1, _ => simp [go_sem])).mono ?_; rintro e w' ⟨rfl, rfl⟩
       have hb3 : Below w.heap.size w (w1.alloc (.cells #[.int .i64 0, .int .i64 0] 27)) := hb1.alloc hb1.size _
       have hw3 := hb3.size
       have hc3 := HC.out.kept hb3 hb
       have K4 := Lib.hid (K2.out _ (by have := hb3.size; omega) hc3)
       clear hc3)
    | (go_at_call 113; refine K4.out.mono ?_; rintro e w4 ⟨v4, rfl, hown4, hb4⟩
       have K5 := Lib.hid (K3.out w4 _ _ hown4)
       have hb5 : Below w.heap.size w w4 := hb3.trans (hb4.mono hw3))
    | (go_at_call 112; refine K5.out.mono ?_; rintro e w6 ⟨v6, rfl, hown6, hb6⟩
       obtain ⟨ao, c6, rfl⟩ := owns_slice hown6
       have hb7 : Below w.heap.size w w6 := hb5.trans (hb6.mono hb5.size)))
  go_ret2
  exact ⟨_, rfl, owns_base hown6 hb5.size, hb7⟩
end Go.Proofs.YthfiilfekofimaaGreatDoor
