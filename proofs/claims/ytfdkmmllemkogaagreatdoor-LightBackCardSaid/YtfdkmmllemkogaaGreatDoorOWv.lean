/-
  Telegrams; the contract of Received for a stream of frames of telegrams whose numbers are in their ranges: these telegrams, nothing skipped, no error.
-/
import Derived.Test.YtfdkmmllemkogaaGreatDoorOWs
import Derived.Test.YtfdkmmllemkogaaGreatDoorOWk
import Derived.WalkMore
import Derived.Test.YtfdkmmllemkogaaGreatDoorOWf
import Derived.Test.YtfdkmmllemkogaaGreatDoorOWa
import Derived.Deep.DrawnRows
import Derived.Deep.CutBlock
import Derived.Deep.DeepCutAuto
import Derived.Deep.RegionHeld3
import Derived.StillTailTactics
namespace Go.Proofs.YtfdkmmllemkogaaGreatDoor
open Go.RowKit
set_option linter.unusedVariables false

/-- A telegram's numbers. -/
structure Tel where
  s : Int
  c : Int
  o : Int
  x : Int
  y : Int
  z : Int
def Tel.Good (t : Tel) : Prop := GoodT t.s t.c t.o t.x t.y t.z
def Tel.val (t : Tel) : List Value := [.int .i64 t.s, .int .i64 t.c, .int .i64 t.o, .int .i64 t.x, .int .i64 t.y, .int .i64 t.z]
def Tel.bytes (t : Tel) : List Value := (frame t.s t.c t.o t.x t.y t.z).map (Value.int .u8)
theorem Tel.val_len (t : Tel) : t.val.length = 6 := rfl
def tel0 : Tel := ⟨0, 0, 0, 0, 0, 0⟩

theorem owns_kept {w w' : World} {B T sz n N : Nat} {v : Value} {xs : List Value} (h : w.ownsRow B T sz v n xs) (hb : Below N w w') (hN : w.heap.size ≤ N) : w'.ownsRow B T sz v n xs := by
  refine ⟨h.1, ?_⟩
  rcases h.2 with h | ⟨g, cap, cur, h1, h2, h3, h4⟩
  · exact .inl h
  · exact .inr ⟨g, cap, cur, h1, h2, (hb.block g (by have := (Array.getElem?_eq_some_iff.1 h3).1; omega)).trans h3, h4⟩

theorem flat_take_succ (L : List Tel) (k : Nat) (hk : k < L.length) : (L.take (k + 1)).flatMap Tel.val = (L.take k).flatMap Tel.val ++ (L[k]?.getD tel0).val := by
  rw [List.take_succ_eq_append_getElem hk, List.flatMap_append, List.getElem?_eq_getElem hk]; simp

theorem Tryz.infoTel : (Tryz.prog.info? 112).map (fun i => (i.zero, i.size, i.bytes)) = some (some (.agg #[.int .i64 0, .int .i64 0, .int .i64 0, .int .i64 0, .int .i64 0, .int .i64 0]), 6, 48) := by kernel_rfl

theorem cells_new6 (w : World) (T : TypeId) (a b c d e f : Value) : ∀ j u, [a, b, c, d, e, f][j]? = some u → (w.alloc (.cells #[a, b, c, d, e, f] T)).cell? ((⟨w.heap.size, 0, none⟩ : Addr).add j) = some u := fun j u h => by
  rw [Addr.add_mid, cell_of_row _ w.heap.size (0 + j) _ _ (0, 0) (heap_alloc_new w _)]
  simpa using h

theorem cells_new6' (w : World) (o : Obj) (T : TypeId) (a b c d e f : Value) : ∀ j u, [a, b, c, d, e, f][j]? = some u → ((w.alloc o).alloc (.cells #[a, b, c, d, e, f] T)).cell? ((⟨w.heap.size + 1, 0, none⟩ : Addr).add j) = some u := fun j u h => by
  have := cells_new6 (w.alloc o) T a b c d e f j u h
  simpa using this
theorem telegramAt_tel (t : Tel) (h : t.Good) (b q n cp k : Nat) (hk : k + 24 ≤ n) (hn : n ≤ 12288) (hcp : n ≤ cp) (hcq : cp ≤ 9223372036854775807) (w : World) (hb : b < w.heap.size) (hc : w.rangeAt b (q + k) t.bytes) :
    Calls Tryz.prog 165 #[.slice (some ⟨b, q, none⟩) n cp, .int .i64 k] w fun e w' =>
      e = .returned (.tuple #[.agg #[.int .i64 t.s, .int .i64 t.c, .int .i64 t.o, .int .i64 t.x, .int .i64 t.y, .int .i64 t.z], .bool true]) ∧ Below w.heap.size w w' := by
  unfold Tel.bytes at hc
  exact telegramAt_any _ _ _ _ _ _ h b q n cp k hk hn hcp hcq w hb hc

set_option maxRecDepth 100000 in
set_option maxHeartbeats 3200000 in
theorem received_any (L : List Tel) (hg : ∀ t ∈ L, t.Good) (b q n cp : Nat) (hn : n = 24 * L.length) (hm : n ≤ 12288) (hcp : n ≤ cp) (hcq : cp ≤ 9223372036854775807) (w : World) (hb : b < w.heap.size)
    (hc : ∀ k, k < L.length → w.rangeAt b (q + 24 * k) (L[k]?.getD tel0).bytes) :
    Calls Tryz.prog 76 #[.slice (some ⟨b, q, none⟩) n cp] w fun e w' =>
      ∃ v, e = .returned (.tuple #[v, .slice none 0 0, .int .i64 0]) ∧ w'.ownsRow w.heap.size 112 6 v L.length (L.flatMap Tel.val) ∧ Below w.heap.size w w' := by
  obtain ⟨i0, hi, hz0, hz1, hz2⟩ := info_parts Tryz.infoTel
  have HC := Lib.hid hc
  have HG := Lib.hid hg
  have i1 : ((n : Int) ≤ 12288) := by omega
  have HN := Lib.hid hn
  clear hc hg hn
  go_enter Tryz.func76, Tryz.ntmps76
  go_wp2
  go_loopw [5, 6, 7] (fun out sk i wr => ∃ k m : Nat, k ≤ L.length ∧ m = 24 * k ∧ i = .int .i64 m ∧ sk = .slice none 0 0 ∧ wr.ownsRow w.heap.size 112 6 out k ((L.take k).flatMap Tel.val) ∧ Below w.heap.size w wr)
    (fun _ _ i _ => n - (intOf i).toNat)
  case atStart => exact ⟨0, 0, Nat.zero_le _, rfl, rfl, rfl, World.ownsRow_nil _ _ _ _, Below.refl _ _⟩
  case round =>
    obtain ⟨k, m, hk, hmk, rfl, rfl, hown, hnx⟩ := hrel
    have hsz : w.heap.size ≤ wr.heap.size := hnx.size
    have hn := HN.out
    by_cases hlt : k < L.length
    · have hi1 : ((m : Int) < (n : Int)) := by omega
      have hi2 : ((m : Int) + 24 ≤ 12288) := by omega
      have hS := flat_take_succ L k hlt
      have hc0 := HC.out k hlt
      have hT : (L[k]?.getD tel0).Good := by
        rw [List.getElem?_eq_getElem hlt]; exact HG.out _ (List.getElem_mem hlt)
      obtain ⟨t, ht⟩ : ∃ t, L[k]?.getD tel0 = t := ⟨_, rfl⟩
      rw [ht] at hT hc0 hS
      have hr : wr.rangeAt b (q + m) t.bytes := fun j v hv => by
        rw [hnx.cell (by exact hb), hmk]
        exact hc0 j v hv
      have K := Lib.hid (telegramAt_tel t hT b q n cp m (by omega) hm hcp hcq wr (by omega) hr)
      have HS := Lib.hid hS
      have HMK := Lib.hid hmk
      have hkm : k ≤ 512 := by omega
      clear ht hr hc0 hS hmk hn
      clear hT
      go_wp2_with (first
        | (go_at_call 165; refine K.out.mono ?_; rintro e w2 ⟨rfl, hb2⟩
           have hown2 := owns_kept hown hb2 (Nat.le_refl _)
           have hs2 := hb2.size)
        | (at_builtin; refine wpList_append_own _ rfl (.tmp 24) (.tmp 26) 115 rfl w.heap.size 112 i0 (.agg #[.int .i64 0, .int .i64 0, .int .i64 0, .int .i64 0, .int .i64 0, .int .i64 0]) 6 48 Tryz.underlying115 hi hz0 hz1 hz2 rfl (by decide) _ k _ rfl ((hown2.alloc _).alloc _) ⟨w2.heap.size + 1, 0, none⟩ 1 1 t.val rfl rfl (cells_new6' _ _ _ _ _ _ _ _ _) (by intro u hu; simp [Tel.val] at hu; rcases hu with rfl | rfl | rfl | rfl | rfl | rfl <;> rfl) (by unfold maxLen; omega) (by omega) (by simp; omega) ?_; intro v' w3 hown3 hgrow3 _))
      have hlt' := hown2.lt
      have hB2 : Below w.heap.size w w2 := hnx.trans (hb2.mono hsz)
      go_roundw
      case rel => exact ⟨k + 1, m + 24, by omega, by have := HMK.out; omega, by go_num, rfl, by rw [HS.out]; exact hown3, ((hB2.alloc (by omega) _).alloc (by simp; omega) _).grown hgrow3 (by simp; omega) (fun j hj => (hlt' j hj).1)⟩
      case measure => simp [intOf]; omega
    · have hi3 : ¬ ((m : Int) < (n : Int)) := by omega
      clear hn hmk
      go_wp2
      obtain rfl : k = L.length := by omega
      rw [List.take_length] at hown
      refine bodyPost_ret (v := .tuple #[u5, .slice none 0 0, .int .i64 0]) (by simp [results, Tryz.results76, go_sem]) rfl ⟨_, rfl, hown, hnx⟩
end Go.Proofs.YtfdkmmllemkogaaGreatDoor

/-
  Contracts of countersOf and of mapped at telegrams.
-/
namespace Go.Proofs.YtfdkmmllemkogaaGreatDoor
open Go.RowKit
set_option linter.unusedVariables false

/-- These telegrams lie at an address. -/
def TelsAt (w : World) (b q : Nat) (L : List Tel) : Prop := ∀ k, k < L.length → w.rangeAt b (q + k * 6) (L[k]?.getD tel0).val
theorem TelsAt.kept {w w' : World} {b q B : Nat} {L : List Tel} (h : TelsAt w b q L) (hb : Below B w w') (hB : b < B) : TelsAt w' b q L := fun k hk j v hv => by
  rw [hb.cell (by exact hB)]; exact h k hk j v hv
/-- The counters of a station's telegrams. -/
def countsOf (L : List Tel) (st : Int) : List Int := (L.filter (fun t => t.s == st)).map (·.c)
theorem countsOf_succ (L : List Tel) (st : Int) (k : Nat) (hk : k < L.length) : countsOf (L.take (k + 1)) st = if (L[k]?.getD tel0).s = st then countsOf (L.take k) st ++ [(L[k]?.getD tel0).c] else countsOf (L.take k) st := by
  rw [List.take_succ_eq_append_getElem hk, List.getElem?_eq_getElem hk]
  simp only [countsOf, List.filter_append, List.map_append, Option.getD_some]
  split
  · rename_i h; simp [h]
  · rename_i h; simp [h]
theorem counts_len (L : List Tel) (st : Int) : (countsOf L st).length ≤ L.length := by
  simp only [countsOf, List.length_map]; exact List.length_filter_le _ _

set_option maxRecDepth 100000 in
set_option maxHeartbeats 3200000 in
theorem countersOf_any (L : List Tel) (b q n cp : Nat) (st : Int) (hn : n = L.length) (hm : n ≤ 512) (w : World) (hb : b < w.heap.size) (hc : TelsAt w b q L) :
    Calls Tryz.prog 173 #[.slice (some ⟨b, q, none⟩) n cp, .int .i64 st] w fun e w' =>
      ∃ v, e = .returned v ∧ w'.ownsRow w.heap.size 3 1 v (countsOf L st).length ((countsOf L st).map (Value.int .i64)) ∧ Below w.heap.size w w' := by
  obtain ⟨i0, hi, hz0, hz1, hz2⟩ := info_parts Tryz.infoInt
  have HC := Lib.hid hc
  have HN := Lib.hid hn
  clear hc hn
  have s35 : (Tryz.prog.info? 112).map (·.size) = some 6 := by kernel_rfl
  go_enter Tryz.func173, Tryz.ntmps173
  go_wp2
  go_loopw [5, 10] (fun out i wr => ∃ k : Nat, k ≤ n ∧ i = .int .i64 k ∧ wr.ownsRow w.heap.size 3 1 out (countsOf (L.take k) st).length ((countsOf (L.take k) st).map (Value.int .i64)) ∧ Below w.heap.size w wr)
    (fun _ i _ => n - (intOf i).toNat)
  case atStart => exact ⟨0, Nat.zero_le _, rfl, World.ownsRow_nil _ _ _ _, Below.refl _ _⟩
  case round =>
    obtain ⟨k, hk, rfl, hown, hnx⟩ := hrel
    have hsz : w.heap.size ≤ wr.heap.size := hnx.size
    by_cases hlt : k < n
    · have hT := HC.out k (by have := HN.out; omega)
      have hS := countsOf_succ L st k (by have := HN.out; omega)
      obtain ⟨t, ht⟩ : ∃ t, L[k]?.getD tel0 = t := ⟨_, rfl⟩
      rw [ht] at hT hS
      have hr : wr.rangeAt b (q + k * 6) t.val := fun j v hv => by
        rw [hnx.cell (by exact hb)]
        exact hT j v hv
      have HR := Lib.hid hr
      have HS := Lib.hid hS
      clear ht hr hT hS
      have hv : t.val = [.int .i64 t.s, .int .i64 t.c, .int .i64 t.o, .int .i64 t.x, .int .i64 t.y, .int .i64 t.z] := rfl
      have hcl := counts_len (L.take k) st
      have hcl2 : (L.take k).length ≤ k := by simp; omega
      by_cases hst : t.s = st
      · have HST := Lib.hid hst
        have hst1 : (t.s == st) = true := by simp [hst]
        clear hst
        go_wp2_with (first
          | (refine wpList_load_mid rfl 112 (.tmp 12) rfl b (q + k * 6) rfl t.val _ HR.out Tryz.underlying112 rfl (by rw [s35]; rfl) ?_)
          | (at_builtin; refine wpList_append_own _ rfl (.tmp 18) (.tmp 21) 25 rfl w.heap.size 3 i0 (.int .i64 0) 1 8 Tryz.underlying25 hi hz0 hz1 hz2 rfl (by decide) _ _ _ rfl ((hown.alloc _).alloc _) ⟨wr.heap.size + 1, 0, none⟩ 1 1 [.int .i64 t.c] rfl rfl (by have h := cell_one_new (wr.alloc (.cells #[.int .i64 t.s, .int .i64 t.c, .int .i64 t.o, .int .i64 t.x, .int .i64 t.y, .int .i64 t.z] 112)) (.int .i64 t.c) 3; simpa using h) (by intro u hu; simp at hu; subst hu; rfl) (by unfold maxLen; omega) (by omega) (by simp; omega) ?_; intro v' w3 hown3 hgrow3 _))
        have hlt' := hown.lt
        go_roundw
        case rel => exact ⟨k + 1, by omega, by go_num, by rw [HS.out, if_pos HST.out, List.map_append, List.length_append]; exact hown3, ((hnx.alloc hsz _).alloc (by simp; omega) _).grown hgrow3 (by simp; omega) (fun j hj => (hlt' j hj).1)⟩
        case measure => simp [intOf]; omega
      · go_wp2_with (first
          | (refine wpList_load_mid rfl 112 (.tmp 12) rfl b (q + k * 6) rfl t.val _ HR.out Tryz.underlying112 rfl (by rw [s35]; rfl) ?_))
        go_roundw
        case rel => exact ⟨k + 1, by omega, by go_num, by rw [HS.out, if_neg hst]; exact hown.alloc _, hnx.alloc hsz _⟩
        case measure => simp [intOf]; omega
    · go_wp2
      go_ret
      obtain rfl : k = n := by omega
      rw [List.take_of_length_le (by have := HN.out; omega)] at hown
      exact ⟨_, rfl, hown, hnx⟩
end Go.Proofs.YtfdkmmllemkogaaGreatDoor

/-
  Contract of mapped at telegrams, with the check of a telegram: of right telegrams, as many zeros.
-/
namespace Go.Proofs.YtfdkmmllemkogaaGreatDoor
open Go.RowKit
set_option linter.unusedVariables false

theorem checkTelegram_tel (t : Tel) (h : t.Good) (w : World) :
    Calls Tryz.prog 162 #[.agg #[.int .i64 t.s, .int .i64 t.c, .int .i64 t.o, .int .i64 t.x, .int .i64 t.y, .int .i64 t.z]] w fun e w' =>
      e = .returned (.int .i64 0) ∧ Below w.heap.size w w' := checkTelegram_any _ _ _ _ _ _ h w

set_option maxRecDepth 100000 in
set_option maxHeartbeats 3200000 in
theorem mapped_tel (L : List Tel) (hg : ∀ t ∈ L, t.Good) (b q n cp : Nat) (hn : n = L.length) (hm : n ≤ 512) (w : World) (hb : b < w.heap.size) (hc : TelsAt w b q L) :
    Calls Tryz.prog 209 #[.slice (some ⟨b, q, none⟩) n cp, .func (.func 162) #[] #[]] w fun e w' =>
      e = .returned (.slice (some ⟨w.heap.size, 0, none⟩) n n) ∧ w'.ownsRow w.heap.size 26 1 (.slice (some ⟨w.heap.size, 0, none⟩) n n) n (List.replicate n (Value.int .i64 0)) ∧ Below w.heap.size w w' := by
  obtain ⟨i0, hi, hz0, hz1, hz2⟩ := info_parts Tryz.info26_check
  have HC := Lib.hid hc
  have HN := Lib.hid hn
  have HG := Lib.hid hg
  clear hc hn hg
  have s35 : (Tryz.prog.info? 112).map (·.size) = some 6 := by kernel_rfl
  go_enter Tryz.func209, Tryz.ntmps209
  go_wp2_with (at_make; refine wpList_make_own _ rfl _ _ 196 rfl w.heap.size 26 i0 (.int .i64 0) 1 Tryz.underlying196 hi hz0 hz1 _ _ _ n rfl rfl (by omega) ?b2 ?b3 (Nat.le_refl _) ?_)
  case b2 => rw [hz2]; omega
  case b3 => unfold maxLen; omega
  intro w0 hown0 hgrow0
  go_wp2
  go_loopw [5, 13] (fun out i wr => ∃ k : Nat, k ≤ n ∧ i = .int .i64 k ∧ out = .slice (some ⟨w.heap.size, 0, none⟩) k n ∧
      wr.ownsRow w.heap.size 26 1 (.slice (some ⟨w.heap.size, 0, none⟩) k n) k (List.replicate k (Value.int .i64 0)) ∧ Below w.heap.size w wr)
    (fun _ i _ => n - (intOf i).toNat)
  case atStart => exact ⟨0, Nat.zero_le _, rfl, rfl, hown0, (Below.refl _ _).grown hgrow0 (Nat.le_refl _) (fun k h => by cases h)⟩
  case round =>
    obtain ⟨k, hk, rfl, rfl, hown, hnx⟩ := hrel
    have hsz := hnx.size
    by_cases hlt : k < n
    · have hlt2 : k < L.length := by have := HN.out; omega
      have hT := HC.out k hlt2
      have hG : (L[k]?.getD tel0).Good := by
        rw [List.getElem?_eq_getElem hlt2]; exact HG.out _ (List.getElem_mem hlt2)
      obtain ⟨t, ht⟩ : ∃ t, L[k]?.getD tel0 = t := ⟨_, rfl⟩
      rw [ht] at hT hG
      have hr : wr.rangeAt b (q + k * 6) t.val := fun j v hv => by
        rw [hnx.cell (by exact hb)]
        exact hT j v hv
      have HR := Lib.hid hr
      have K := Lib.hid (checkTelegram_tel t hG)
      clear ht hr hT hG hlt2
      have hv : t.val = [.int .i64 t.s, .int .i64 t.c, .int .i64 t.o, .int .i64 t.x, .int .i64 t.y, .int .i64 t.z] := rfl
      go_wp2_with (first
        | (refine wpList_load_mid rfl 112 (.tmp 15) rfl b (q + k * 6) rfl t.val _ HR.out Tryz.underlying112 rfl (by rw [s35]; rfl) ?_)
        | (go_at_call 162; refine (K.out _).mono ?_; rintro e w2 ⟨rfl, hb2⟩
           have hown2 := owns_kept (hown.alloc _) hb2 (Nat.le_refl _)
           have hs2 : wr.heap.size + 1 ≤ w2.heap.size := by simpa using hb2.size)
        | (at_builtin; refine wpList_append_fits _ rfl (.tmp 17) (.tmp 21) 196 rfl w.heap.size 26 i0 1 Tryz.underlying196 hi hz1 w.heap.size k n _ rfl (hown2.alloc _) ⟨w2.heap.size, 0, none⟩ 1 1 [.int .i64 0] rfl rfl (cell_one_new _ _ _) (by intro u hu; simp at hu; subst hu; rfl) (by omega) ?_; intro w1 hown1 hgrow1))
      have hB2 : Below w.heap.size w w2 := (hnx.alloc hsz _).trans (hb2.mono (by simp; omega))
      go_roundw
      case rel => exact ⟨k + 1, by omega, by go_num, rfl, by rw [List.replicate_succ']; exact hown1, (hB2.alloc (by omega) _).grown hgrow1 (by simp; omega) (fun j hj => by cases hj; exact Nat.le_refl _)⟩
      case measure => simp [intOf]; omega
    · go_wp2
      go_ret
      obtain rfl : k = n := by omega
      exact ⟨rfl, hown, hnx⟩
end Go.Proofs.YtfdkmmllemkogaaGreatDoor

/-
  Contract of missing for ascending counters: the counters between each one and the next.
-/
namespace Go.Proofs.YtfdkmmllemkogaaGreatDoor
open Go.RowKit
set_option linter.unusedVariables false

/-- The integers between two. -/
def gap (a b : Int) : List Int := (List.range (b - a - 1).toNat).map (fun j : Nat => a + 1 + (j : Int))
/-- The integers between each of the first k and the next one. -/
def gapsTo (xs : List Int) (k : Nat) : List Int := (List.range k).flatMap (fun i => gap (xs[i]?.getD 0) (xs[i + 1]?.getD 0))
theorem gapsTo_succ (xs : List Int) (k : Nat) : gapsTo xs (k + 1) = gapsTo xs k ++ gap (xs[k]?.getD 0) (xs[k + 1]?.getD 0) := by
  simp [gapsTo, List.range_succ]
theorem gap_len (a b : Int) : (gap a b).length = (b - a - 1).toNat := by simp [gap]

/-- Ascending counters from 0 to 200. -/
structure Asc (xs : List Int) (n : Nat) : Prop where
  len : xs.length = n
  bd : ∀ j, j < n → 0 ≤ xs[j]?.getD 0 ∧ xs[j]?.getD 0 ≤ 200
  up : ∀ j, j + 1 < n → xs[j]?.getD 0 < xs[j + 1]?.getD 0
theorem gapsTo_len {xs : List Int} {n : Nat} (h : Asc xs n) : ∀ k, k < n → ((gapsTo xs k).length : Int) ≤ xs[k]?.getD 0
  | 0, hk => by have := h.bd 0 hk; simp [gapsTo]; omega
  | k + 1, hk => by
    have ih := gapsTo_len h k (by omega)
    have hu := h.up k hk
    rw [gapsTo_succ, List.length_append, gap_len]
    omega

theorem owns_slice {w : World} {B T sz n : Nat} {v : Value} {xs : List Value} (h : w.ownsRow B T sz v n xs) : ∃ ao c, v = .slice ao n c := by
  rcases h.2 with ⟨h, h0⟩ | ⟨g, cap, cur, h, _⟩
  · exact ⟨none, 0, by rw [h, h0]⟩
  · exact ⟨_, _, h⟩

theorem missing_none (ao : Option Addr) (c : Nat) (w : World) :
    Calls Tryz.prog 172 #[.slice ao 0 c, .int .i64 257] w fun e w' => e = .returned (.slice none 0 0) ∧ w = w' := by
  go_enter Tryz.func172, Tryz.ntmps172
  go_wp2
  go_step3
  go_wp2
  go_step3
  go_wp2
  refine wp_loop_rounds 1 ?_
  rw [rounds_succ]
  go_wp2
  try rw [Exit.noGoto_ret]
  go_ret
  exact ⟨rfl, rfl⟩

set_option maxRecDepth 100000 in
set_option maxHeartbeats 3200000 in
theorem missing_any (xs : List Int) (n g c : Nat) (hA : Asc xs n) (hn1 : 1 ≤ n) (hm : n ≤ 512) (w : World) (hg : g < w.heap.size) (hc : ∀ j, j < n → w.cell? ⟨g, j, none⟩ = some (.int .i64 (xs[j]?.getD 0))) :
    Calls Tryz.prog 172 #[.slice (some ⟨g, 0, none⟩) n c, .int .i64 257] w fun e w' =>
      ∃ v, e = .returned v ∧ w'.ownsRow w.heap.size 3 1 v (gapsTo xs (n - 1)).length ((gapsTo xs (n - 1)).map (Value.int .i64)) ∧ Below w.heap.size w w' := by
  obtain ⟨i0, hi, hz0, hz1, hz2⟩ := info_parts Tryz.infoInt
  have HC := Lib.hid hc
  have HA := Lib.hid hA
  clear hc hA
  have j1 : ((1 : Int) ≤ (n : Int)) := by omega
  have j2 : ((n : Int) ≤ 512) := by omega
  go_enter Tryz.func172, Tryz.ntmps172
  go_wp2
  go_step3
  go_wp2
  go_step3
  go_wp2
  go_loopw [5, 13] (fun out i wr => ∃ k : Nat, k ≤ n - 1 ∧ i = .int .i64 k ∧ wr.ownsRow w.heap.size 3 1 out (gapsTo xs k).length ((gapsTo xs k).map (Value.int .i64)) ∧ Below w.heap.size w wr)
    (fun _ i _ => n - (intOf i).toNat)
  case atStart => exact ⟨0, Nat.zero_le _, rfl, World.ownsRow_nil _ _ _ _, Below.refl _ _⟩
  case round =>
    obtain ⟨k, hk, rfl, hown, hnx⟩ := hrel
    have hsz := hnx.size
    by_cases hlt : k + 1 < n
    · have c0 : wr.cell? ⟨g, k, none⟩ = some (.int .i64 (xs[k]?.getD 0)) := (hnx.cell (by exact hg)).trans (HC.out k (by omega))
      have c1 : wr.cell? ⟨g, k + 1, none⟩ = some (.int .i64 (xs[k + 1]?.getD 0)) := (hnx.cell (by exact hg)).trans (HC.out (k + 1) hlt)
      have hb0 := HA.out.bd k (by omega)
      have hb1 := HA.out.bd (k + 1) hlt
      have hup := HA.out.up k hlt
      have hlen := gapsTo_len HA.out k (by omega)
      have hS := gapsTo_succ xs k
      obtain ⟨a, ha⟩ : ∃ a, xs[k]?.getD 0 = a := ⟨_, rfl⟩
      obtain ⟨b, hb⟩ : ∃ b, xs[k + 1]?.getD 0 = b := ⟨_, rfl⟩
      obtain ⟨pre, hpre⟩ : ∃ pre, gapsTo xs k = pre := ⟨_, rfl⟩
      rw [ha] at c0 hb0 hup hlen hS
      rw [hb] at c1 hb1 hup hS
      rw [hpre] at hown hlen hS
      have HS := Lib.hid hS
      clear ha hb hpre hS
      have hltI : ((k : Int) < (n : Int) - 1) := by omega
      have k0 : ((k : Int) < (n : Int)) := by omega
      have k1 : ((k : Int) + 1 < (n : Int)) := by omega
      have k2 : ((0 : Int) ≤ (k : Int) + 1) := by omega
      have k3 : ((k : Int) + 1).toNat = k + 1 := by omega
      have k4 : IntKind.i64.wrap ((k : Int) + 1) = (k : Int) + 1 := IntWalk.i64_in _ ⟨by omega, by omega⟩
      go_wp2_with fail
      go_region_held3 (fun w' => w'.cell? ⟨g, k, none⟩ = some (.int .i64 a) ∧ w'.cell? ⟨g, k + 1, none⟩ = some (.int .i64 b)) (go_keep) (fail)
      have hf : (a + 1) % 65536 = a + 1 := by omega
      go_wp2_with (go_at_call 210; refine (following_any _ hb0.1 (by omega) _).mono ?_; rintro e w' ⟨rfl, rfl⟩)
      obtain ⟨Wd, hWd⟩ : ∃ Wd, wr.drew = Wd := ⟨_, rfl⟩
      have hownd : Wd.ownsRow w.heap.size 3 1 u5 pre.length (pre.map (Value.int .i64)) := by rw [← hWd]; exact hown
      have hBd : Below w.heap.size w Wd := by rw [← hWd]; exact hnx.drew
      rw [hWd]
      clear hWd hown c0 c1
      go_loopw [5, 9] (fun out i wi => ∃ j : Nat, (j : Int) ≤ b - a - 1 ∧ i = .int .i64 (a + 1 + j) ∧ wi.ownsRow w.heap.size 3 1 out (pre.length + j) ((pre ++ (List.range j).map (fun j : Nat => a + 1 + (j : Int))).map (Value.int .i64)) ∧ Below w.heap.size w wi)
        (fun _ i _ => (b - intOf i).toNat)
      case atStart => exact ⟨0, by omega, by simp, by simpa using hownd, hBd⟩
      case round =>
        obtain ⟨j, hj, rfl, hown, hnx2⟩ := hrel
        have hsz2 := hnx2.size
        by_cases hjl : (j : Int) < b - a - 1
        · have hne : ((a + 1 + (j : Int)) != b) = true := by simp; omega
          obtain ⟨ℓ, hℓ⟩ : ∃ ℓ, pre.length + j = ℓ := ⟨_, rfl⟩
          have hℓ2 : ℓ ≤ 200 := by omega
          have hℓ3 : ((ℓ : Int) == 257) = false := by simp; omega
          rw [hℓ] at hown
          obtain ⟨ao, cc, rfl⟩ := owns_slice hown
          have hf2 : (a + 1 + (j : Int) + 1) % 65536 = a + 1 + (j : Int) + 1 := by omega
          have hj1 : (((j + 1 : Nat)) : Int) ≤ b - a - 1 := by omega
          have HL := Lib.hid hℓ
          have HJ1 := Lib.hid hj1
          clear hℓ hjl hj1
          go_wp2_with (first
            | (go_at_call 210; refine (following_any _ (by omega) (by omega) _).mono ?_; rintro e w' ⟨rfl, rfl⟩)
            | (at_builtin; refine wpList_append_own _ rfl (.tmp 36) (.tmp 38) 25 rfl w.heap.size 3 i0 (.int .i64 0) 1 8 Tryz.underlying25 hi hz0 hz1 hz2 rfl (by decide) _ _ _ rfl (hown.alloc _) ⟨wr.heap.size, 0, none⟩ 1 1 [.int .i64 (a + 1 + (j : Int))] rfl rfl (cell_one_new _ _ _) (by intro u hu; simp at hu; subst hu; rfl) (by unfold maxLen; omega) (by omega) (by simp; omega) ?_; intro v' w3 hown3 hgrow3 _))
          have hlt' := hown.lt
          go_roundw
          case rel =>
            refine ⟨j + 1, HJ1.out, by push_cast; go_num, ?_, (hnx2.alloc hsz2 _).grown hgrow3 (by simp; omega) (fun q hq => (hlt' q hq).1)⟩
            have e : (pre ++ (List.range (j + 1)).map (fun j : Nat => a + 1 + (j : Int))).map (Value.int .i64) = (pre ++ (List.range j).map (fun j : Nat => a + 1 + (j : Int))).map (Value.int .i64) ++ [.int .i64 (a + 1 + (j : Int))] := by simp [List.range_succ]
            rw [e, show pre.length + (j + 1) = ℓ + 1 by have := HL.out; omega]
            exact hown3
          case measure => have := HJ1.out; simp [intOf]; omega
        · have hje : a + 1 + (j : Int) = b := by omega
          have hne : ((a + 1 + (j : Int)) != b) = false := by simp [hje]
          have HJ := Lib.hid hje
          clear hje hjl
          go_wp2
          go_roundw
          case rel =>
            refine ⟨k + 1, by omega, by go_num, ?_, hnx2⟩
            have e : (b - a - 1).toNat = j := by have := HJ.out; omega
            rw [HS.out, gap, e]
            simpa using hown
          case measure => simp [intOf]; omega
    · have hltI : ¬ ((k : Int) < (n : Int) - 1) := by omega
      go_wp2
      try rw [Exit.noGoto_ret]
      go_ret
      obtain rfl : k = n - 1 := by omega
      exact ⟨_, rfl, hown, hnx⟩
end Go.Proofs.YtfdkmmllemkogaaGreatDoor

/-
  Contract of Lost for telegrams whose numbers are in their ranges and a station whose counters ascend.
-/
namespace Go.Proofs.YtfdkmmllemkogaaGreatDoor
open Go.RowKit
set_option linter.unusedVariables false

theorem owns_some {w : World} {B T sz n : Nat} {v : Value} {xs : List Value} (h : w.ownsRow B T sz v n xs) (hn : 1 ≤ n) : ∃ g c, v = .slice (some ⟨g, 0, none⟩) n c ∧ g < w.heap.size ∧ B ≤ g := by
  rcases h.2 with ⟨_, h0⟩ | ⟨g, cap, cur, h, h2, h3, _⟩
  · omega
  · exact ⟨g, cap, h, (Array.getElem?_eq_some_iff.1 h3).1, h2⟩


/-- missing at a slice that owns ascending counters, or at none. -/
theorem missing_own (xs : List Int) (n : Nat) (hA : Asc xs n) (hm : n ≤ 512) (w : World) (B : Nat) (v : Value) (h : w.ownsRow B 3 1 v n (xs.map (Value.int .i64))) :
    Calls Tryz.prog 172 #[v, .int .i64 257] w fun e w' =>
      ∃ v', e = .returned v' ∧ w'.ownsRow w.heap.size 3 1 v' (gapsTo xs (n - 1)).length ((gapsTo xs (n - 1)).map (Value.int .i64)) ∧ Below w.heap.size w w' := by
  by_cases hn : 1 ≤ n
  · obtain ⟨g, c, rfl, hg, _⟩ := owns_some h hn
    exact missing_any xs n g c hA hn hm w hg (fun j hj => owns_cell h (by
      rw [List.getElem?_map, List.getElem?_eq_getElem (by rw [hA.len]; exact hj)]; rfl))
  · obtain rfl : n = 0 := by omega
    have hx : xs = [] := List.length_eq_zero_iff.1 hA.len
    subst hx
    obtain ⟨ao, c, rfl⟩ := owns_slice h
    exact (missing_none ao c w).mono fun e w' ⟨he, hw⟩ => ⟨_, he, by subst hw; exact World.ownsRow_nil _ _ _ _, by subst hw; exact Below.refl _ _⟩

set_option maxRecDepth 100000 in
set_option maxHeartbeats 3200000 in
theorem checkList_tel (L : List Tel) (hg : ∀ t ∈ L, t.Good) (b q n cp : Nat) (hn : n = L.length) (hm : n ≤ 512) (w : World) (hb : b < w.heap.size) (hc : TelsAt w b q L) :
    Calls Tryz.prog 171 #[.slice (some ⟨b, q, none⟩) n cp, .int .i64 512, .func (.func 162) #[] #[]] w fun e w' =>
      e = .returned (.int .i64 0) ∧ Below w.heap.size w w' := by
  have K1 := Lib.hid (mapped_tel L hg b q n cp hn hm w hb hc)
  have i1 : ((n : Int) ≤ 512) := by omega
  clear hg hc hn
  go_enter Tryz.func171, Tryz.ntmps171
  go_wp2_with (first
    | (go_at_call 209; refine K1.out.mono ?_; rintro e w1 ⟨rfl, hown1, hb1⟩
       have HZ : Hid (∀ j, j < n → w1.cell? ⟨w.heap.size, 0 + j, none⟩ = some (.int .i64 0)) := Lib.hid fun j hj => by
         rw [Nat.zero_add]
         refine owns_cell hown1 ?_
         simp [hj]
       have HB := Lib.hid hb1
       clear hown1 hb1)
    | (go_at_call 109; refine (first_zeros _ 0 _ _ (by omega) _ HZ.out).mono ?_; rintro e w' ⟨rfl, rfl⟩))
  go_ret
  exact ⟨rfl, HB.out⟩

set_option maxRecDepth 100000 in
set_option maxHeartbeats 3200000 in
theorem lost_any (L : List Tel) (hg : ∀ t ∈ L, t.Good) (b q n cp : Nat) (st : Int) (hs : 0 ≤ st ∧ st ≤ 255) (hn : n = L.length) (hm : n ≤ 512) (w : World) (hb : b < w.heap.size) (hc : TelsAt w b q L)
    (hA : Asc (countsOf L st) (countsOf L st).length) (hlen : (gapsTo (countsOf L st) ((countsOf L st).length - 1)).length ≤ 256) :
    Calls Tryz.prog 84 #[.slice (some ⟨b, q, none⟩) n cp, .int .i64 st] w fun e w' =>
      ∃ v, e = .returned (.tuple #[v, .int .i64 0]) ∧ w'.ownsRow w.heap.size 3 1 v (gapsTo (countsOf L st) ((countsOf L st).length - 1)).length ((gapsTo (countsOf L st) ((countsOf L st).length - 1)).map (Value.int .i64)) ∧ Below w.heap.size w w' := by
  have K1 := Lib.hid (checkList_tel L hg b q n cp hn hm w hb hc)
  have K2 := Lib.hid (fun (w' : World) (h1 : b < w'.heap.size) (h2 : TelsAt w' b q L) => countersOf_any L b q n cp st hn hm w' h1 h2)
  have hcl := counts_len L st
  have K3 := Lib.hid (fun (w' : World) (B : Nat) (v : Value) h => missing_own (countsOf L st) _ hA (by omega) w' B v h)
  have HC := Lib.hid hc
  have hst : rangeErr st 0 255 = 0 := rangeErr_in hs.1 hs.2
  have i1 : ((n : Int) ≤ 512) := by omega
  obtain ⟨R, hR⟩ : ∃ R, gapsTo (countsOf L st) ((countsOf L st).length - 1) = R := ⟨_, rfl⟩
  rw [hR] at K3 hlen ⊢
  have i2 : ((R.length : Int) ≤ 256) := by omega
  clear hg hc hA hn hR hcl hs
  go_enter Tryz.func84, Tryz.ntmps84
  go_wp2_with (first
    | (go_at_call 171; refine K1.out.mono ?_; rintro e w1 ⟨rfl, hb1⟩)
    | (go_at_call 110; refine (checkRange_any _ _ _ _).mono ?_; rintro e w' ⟨rfl, rfl⟩)
    | (go_at_call 109; refine (first_zeros _ 0 2 2 (by omega) _ (fun j hj => by match j, hj with | 0, _ => simp [go_sem] | 1, _ => simp [go_sem])).mono ?_; rintro e w' ⟨rfl, rfl⟩
       have hb3 : Below w.heap.size w (w1.alloc (.cells #[.int .i64 0, .int .i64 0] 26)) := hb1.alloc hb1.size _
       have hw3 := hb3.size
       have hc3 := HC.out.kept hb3 hb
       have K4 := Lib.hid (K2.out _ (by have := hb3.size; omega) hc3)
       clear hc3)
    | (go_at_call 173; refine K4.out.mono ?_; rintro e w4 ⟨v4, rfl, hown4, hb4⟩
       have K5 := Lib.hid (K3.out w4 _ _ hown4)
       have hb5 : Below w.heap.size w w4 := hb3.trans (hb4.mono hw3))
    | (go_at_call 172; refine K5.out.mono ?_; rintro e w6 ⟨v6, rfl, hown6, hb6⟩
       obtain ⟨ao, c6, rfl⟩ := owns_slice hown6
       have hb7 : Below w.heap.size w w6 := hb5.trans (hb6.mono hb5.size)))
  go_ret2
  exact ⟨_, rfl, owns_base hown6 hb5.size, hb7⟩
end Go.Proofs.YtfdkmmllemkogaaGreatDoor

/-
  Contract of painted with the literal of Added: the map whose integers the literal tells for each place.
-/
namespace Go.Proofs.YtfdkmmllemkogaaGreatDoor
open Go.RowKit Go.Shelf
set_option linter.unusedVariables false
attribute [local go_sem] Oper.semAt_some

theorem KeepsOthers.of_below {W W' : World} (h : Below W.heap.size W W') : KeepsOthers W W' :=
  ⟨h.size, fun k o hk _ => (h.block k (Array.getElem?_eq_some_iff.1 hk).1).trans hk⟩

theorem owns_room {w : World} {B T n N g : Nat} {xs : List Value} (h : w.ownsRow B T 1 (.slice (some ⟨g, 0, none⟩) n N) n xs) (hn : n < N) : ∃ u, w.cell? ⟨g, n, none⟩ = some u ∧ w.frozen? ⟨g, n, none⟩ = false ∧ g < w.heap.size := by
  rcases h.2 with ⟨h, _⟩ | ⟨g', cap, cur, e, _, hg, hnc, hcm, hcs, _⟩
  · cases h
  · simp at e
    obtain ⟨rfl, rfl⟩ := e
    refine ⟨cur[n]'(by omega), ?_, by simp [World.frozen?, hg], (Array.getElem?_eq_some_iff.1 hg).1⟩
    rw [cell_of_row w g n _ _ (0, 0) hg]
    exact Array.getElem?_eq_getElem _
theorem owns_put {w : World} {B T n N g : Nat} {xs : List Value} (h : w.ownsRow B T 1 (.slice (some ⟨g, 0, none⟩) n N) n xs) (hn : n < N) (v : Value) : (w.setCell ⟨g, n, none⟩ v).ownsRow B T 1 (.slice (some ⟨g, 0, none⟩) (n + 1) N) (n + 1) (xs ++ [v]) := by
  have hl := h.1
  refine ⟨by simp [hl], ?_⟩
  rcases h.2 with ⟨h, _⟩ | ⟨g', cap, cur, e, hB, hg, hnc, hcm, hcs, ht⟩
  · cases h
  · simp at e
    obtain ⟨rfl, rfl⟩ := e
    refine .inr ⟨g, N, cur.setIfInBounds n v, rfl, hB, ?_, hn, hcm, by simpa using hcs, ?_⟩
    · rw [setCell_eq_setRow w g n cur T (0, 0) v hg]
      exact setRow_heap w g cur _ T _ hg
    · have : n < cur.toList.length := by simp; omega
      simp only [Array.toList_setIfInBounds, Nat.mul_one] at ht ⊢
      rw [List.take_succ_eq_append_getElem (by simpa using this), List.take_set_of_le (Nat.le_refl _), ht]
      simp
theorem owns_room' {w : World} {B T n c g : Nat} {xs : List Value} (h : w.ownsRow B T 1 (.slice (some ⟨g, 0, none⟩) n c) n xs) : B ≤ g ∧ g < w.heap.size := by
  rcases h.2 with ⟨h, _⟩ | ⟨g', cap, cur, e, hB, hg, _⟩
  · cases h
  · simp at e
    obtain ⟨rfl, rfl⟩ := e
    exact ⟨hB, (Array.getElem?_eq_some_iff.1 hg).1⟩
theorem row_own {β : Type} (B : Nat) (cs : Array Value) (t : TypeId) : Own (fun (_ : β) W => W.heap[B]? = some (.cells cs t (0, 0))) := fun s X Y row h hg hr =>
  (hg.block B (Array.getElem?_eq_some_iff.1 h).1 (fun e => by obtain ⟨o, ho, hc⟩ := hr B e.symm; rw [h] at ho; cases ho; cases hc)).trans h

set_option maxRecDepth 100000 in
set_option maxHeartbeats 3200000 in
theorem painted_added (W H : Nat) (hW : W ≤ 64) (hH : H ≤ 64) (g7 g8 : Nat) (w : World) (val : Nat × Nat → Int) (hval : ∀ p, (val p).natAbs ≤ 16384)
    (hcell : ∀ (p : Nat × Nat) (W1 : World), p.1 < W ∧ p.2 < H → Below w.heap.size w W1 → Calls Tryz.prog 140 #[.agg #[.int .i64 (p.1 : Nat), .int .i64 (p.2 : Nat)], .pointer (some ⟨g7, 0, none⟩), .pointer (some ⟨g8, 0, none⟩)] W1 fun e W' => e = .returned (.int .i64 (val p)) ∧ Below W1.heap.size W1 W') :
    CallsIn Fence.wide 6 Tryz.prog 132 #[.int .i64 W, .int .i64 H, .func (.func 140) #[] #[.pointer (some ⟨g7, 0, none⟩), .pointer (some ⟨g8, 0, none⟩)]] w fun e w' =>
      ∃ g, e = .returned (.tuple #[.agg #[.int .i64 W, .int .i64 H, .slice (some ⟨g, 0, none⟩) (W * H) (W * H)], .int .i64 0]) ∧ w'.ownsRow w.heap.size 23 1 (.slice (some ⟨g, 0, none⟩) (W * H) (W * H)) (W * H) ((placesTo W (H * W)).map (fun p => Value.float .f32 (smpOf (val p)))) ∧ Below w.heap.size w w' := by
  obtain ⟨i0, hi, hz0, hz1, hz2⟩ := info_parts Tryz.infoInt
  have hro : Fence.wide.round = none := rfl
  have i1 : ((W : Int) ≤ 64) := by omega
  have i2 : ((H : Int) ≤ 64) := by omega
  have hm : W * H ≤ 4096 := Nat.le_trans (Nat.mul_le_mul hW hH) (by decide)
  obtain ⟨N, hN⟩ : ∃ N : Nat, W * H = N := ⟨_, rfl⟩
  have i3 : (W : Int) * (H : Int) = (N : Int) := by rw [← hN]; push_cast; rfl
  have i4 : IntKind.i64.wrap (N : Int) = (N : Int) := IntWalk.i64_in _ ⟨by omega, by omega⟩
  have i5 : (N : Int) ≤ 4096 := by omega
  rw [hN] at hm ⊢
  have HN := Lib.hid hN
  have HV := Lib.hid hval
  have HCL := Lib.hid hcell
  clear hN hval hcell
  refine callsIn_of_wp_marks Tryz.func132 rfl trivial ?_ hro
  simp only [Tryz.ntmps132, List.size_toArray, List.length_cons, List.length_nil, Nat.reduceAdd, Nat.reduceSub, Array.replicate_succ, Array.replicate_zero, List.push_toArray, List.append_toArray, List.nil_append, List.cons_append]
  gi_wp2_with (first
    | (gi_at_make; refine wpListIn_make_own _ rfl _ _ 25 rfl w.heap.size 3 i0 (.int .i64 0) 1 Tryz.underlying25 hi hz0 hz1 _ _ _ N rfl rfl (by omega) (by rw [hz2]; omega) (by unfold maxLen; omega) (by simp; omega) ?_; intro w0 hown0 hgrow0)
    | (refine ⟨trivial, ?_⟩; gi_at_call 128; refine (places_in Fence.wide _ trivial hro _ _ _).mono ?_; rintro e w' ⟨rfl, rfl⟩))
  have hz0' : w.heap.size + 2 < w0.heap.size := by
    rcases hown0.2 with ⟨h, _⟩ | ⟨g, cap, cur, e, _, hg, _⟩
    · cases h
    · have := (Array.getElem?_eq_some_iff.1 hg).1; simp at e; omega
  have hBw : Below w.heap.size w w0 := (((Below.refl _ w).alloc (Nat.le_refl _) _).alloc (by simp) _).grown hgrow0 (by simp; omega) (fun k h => by cases h)
  have bF0 : Boxed w0 w.heap.size 191 (.func (.func 140) #[] #[.pointer (some ⟨g7, 0, none⟩), .pointer (some ⟨g8, 0, none⟩)]) :=
    ((Boxed.new w 191 _).alloc _).kept hgrow0 (by simp)
  have bM0 : w0.heap[w.heap.size + 1]? = some (.cells #[.int .i64 0, .int .i64 0, .slice none 0 0] 54 (0, 0)) :=
    (hgrow0.block _ (by simp) (by simp)).trans (heap_alloc2_new w _ _)
  obtain ⟨W0, hW0⟩ : ∃ W0, ((w0.alloc (.cells #[.slice (some ⟨w.heap.size + 1 + 1, 0, none⟩) 0 N] 25)).alloc (.cells #[.int .i64 W] 3)).alloc (.cells #[.int .i64 H] 3) = W0 := ⟨_, rfl⟩
  have hS0 : W0.heap.size = w0.heap.size + 3 := by rw [← hW0]; simp
  have bS : Boxed W0 w0.heap.size 25 (.slice (some ⟨w.heap.size + 1 + 1, 0, none⟩) 0 N) := by rw [← hW0]; exact ((Boxed.new w0 _ _).alloc _).alloc _
  have bF : Boxed W0 w.heap.size 191 (.func (.func 140) #[] #[.pointer (some ⟨g7, 0, none⟩), .pointer (some ⟨g8, 0, none⟩)]) := by rw [← hW0]; exact ((bF0.alloc _).alloc _).alloc _
  have bM : W0.heap[w.heap.size + 1]? = some (.cells #[.int .i64 0, .int .i64 0, .slice none 0 0] 54 (0, 0)) := by
    rw [← hW0, Below.heap_alloc _ _ _ (by simp; omega), Below.heap_alloc _ _ _ (by simp; omega), Below.heap_alloc _ _ _ (by omega)]; exact bM0
  have bW : Boxed W0 (w0.heap.size + 1) 3 (.int .i64 W) := by
    rw [← hW0]; have := (Boxed.new (w0.alloc (.cells #[.slice (some ⟨w.heap.size + 1 + 1, 0, none⟩) 0 N] 25)) 3 (.int .i64 W)).alloc (.cells #[.int .i64 H] 3); simpa using this
  have bH : Boxed W0 (w0.heap.size + 1 + 1) 3 (.int .i64 H) := by
    rw [← hW0]; have := (Boxed.new ((w0.alloc (.cells #[.slice (some ⟨w.heap.size + 1 + 1, 0, none⟩) 0 N] 25)).alloc (.cells #[.int .i64 W] 3)) 3 (.int .i64 H)); simpa using this
  have hown : W0.ownsRow w.heap.size 3 1 (.slice (some ⟨w.heap.size + 1 + 1, 0, none⟩) 0 N) 0 [] := by rw [← hW0]; have h0 := hown0; simp only [World.size_alloc] at h0; exact ((h0.alloc _).alloc _).alloc _
  have hB0 : Below w.heap.size w W0 := by rw [← hW0]; exact ((hBw.alloc (by omega) _).alloc (by simp; omega) _).alloc (by simp; omega) _
  rw [hW0]
  clear hW0 hown0 hgrow0 bF0 bM0 hBw
  refine wpIn_rangeFunc_ownH hro (by omega) (gf := 202) (lb := #[.pointer (some ⟨w0.heap.size + 1 + 1, 0, none⟩), .pointer (some ⟨w0.heap.size + 1, 0, none⟩)]) rfl trivial (enters_of Tryz.func202 (by kernel_rfl) rfl)
    (places_stops Fence.wide (6 - 1) trivial hro (by omega) (w0.heap.size + 1 + 1) (w0.heap.size + 1) W H hW hH W0 (by omega) (by omega) bH.cell bW.cell) KeepsWide.t KeepsWide.b (Below.refl _ _) (fun _ => rfl)
    (fun pre W1 => ((∃ v, Boxed W1 w0.heap.size 25 v ∧ W1.ownsRow w.heap.size 3 1 v pre.length (pre.map (fun p => Value.int .i64 (val p.1))) ∧ v = .slice (some ⟨w.heap.size + 1 + 1, 0, none⟩) pre.length N) ∧ (Boxed W1 (w0.heap.size + 1) 3 (.int .i64 W) ∧ Boxed W1 w.heap.size 191 (.func (.func 140) #[] #[.pointer (some ⟨g7, 0, none⟩), .pointer (some ⟨g8, 0, none⟩)]) ∧ W1.heap[w.heap.size + 1]? = some (.cells #[.int .i64 0, .int .i64 0, .slice none 0 0] 54 (0, 0)))) ∧ Below w.heap.size w W1)
    (fun _ _ _ => False)
    (OwnFrom.and (OwnFrom.and (Own.from (holdsRow_own w.heap.size w0.heap.size 25 3 1 (fun pre : List (Pl W H) => pre.length) (fun pre => pre.map (fun p => Value.int .i64 (val p.1))) (fun pre v => v = .slice (some ⟨w.heap.size + 1 + 1, 0, none⟩) pre.length N)) _) (OwnFrom.and (Own.from (boxed_own _ _ (fun _ => .int .i64 W)) _) (OwnFrom.and (Own.from (boxed_own _ _ (fun _ => (.func (.func 140) #[] #[.pointer (some ⟨g7, 0, none⟩), .pointer (some ⟨g8, 0, none⟩)]))) _) (Own.from (row_own _ _ _) _)))) (ownFrom_below (Nat.le_refl _) (by omega)))
    (fun _ _ _ _ _ hs _ _ => hs)
    ⟨⟨⟨_, bS, hown, rfl⟩, bW, bF, bM⟩, hB0⟩
    (fun p a' W1 => ∃ Bx, w0.heap.size < Bx ∧ W1.heap[Bx]? = some (.cells #[.int .i64 (p.1.1 : Nat), .int .i64 (p.1.2 : Nat)] 50 (0, 0)) ∧ a' = { tmps := #[.int .i64 W, .int .i64 H, .func (.func 140) #[] #[.pointer (some ⟨g7, 0, none⟩), .pointer (some ⟨g8, 0, none⟩)], undef, undef, .pointer (some ⟨w.heap.size, 0, none⟩), .pointer (some ⟨w.heap.size + 1, 0, none⟩), .int .i64 0, .pointer (some ⟨w0.heap.size, 0, none⟩), .pointer (some ⟨Bx, 0, none⟩), .int .i64 W, .int .i64 H, .int .i64 N, .slice (some ⟨w.heap.size + 1 + 1, 0, none⟩) 0 N, .int .i64 W, .int .i64 H, .func (.func 202) #[] #[.pointer (some ⟨w0.heap.size + 1 + 1, 0, none⟩), .pointer (some ⟨w0.heap.size + 1, 0, none⟩)], .agg #[.int .i64 (p.1.1 : Nat), .int .i64 (p.1.2 : Nat)], undef, undef, undef, undef, undef, undef, undef, undef, undef, undef, undef, undef, undef], defers := [] })
    (fun p a' _ X Y row hs hg hr => by obtain ⟨Bx, h1, h2, h3⟩ := hs; exact ⟨Bx, h1, row_own (β := Unit) Bx _ _ () X Y row h2 hg (fun r e => (hr r e).2), h3⟩)
    ?assign ?body ?done ?stop
  case assign =>
    rintro l pre p W1 K ⟨⟨⟨v, hv, hrow, rfl⟩, bW1, bF1, bM1⟩, hB1⟩ hK
    have hsz1 := hB1.size
    have hlw := bW1.lt
    gi_wp2
    exact hK _ _ ((KeepsOthers.alloc _ _).from _) (KeepsWide.of_below ((Below.refl _ W1).alloc (Nat.le_refl _) _) bW1.lt)
      ⟨⟨⟨_, hv.alloc _, hrow.alloc _, rfl⟩, bW1.alloc _, bF1.alloc _, (Below.heap_alloc _ _ _ (by omega)).trans bM1⟩, hB1.alloc hB1.size _⟩ ⟨W1.heap.size, hv.lt, heap_alloc_new W1 _, rfl⟩
  case body =>
    rintro l pre p a' W1 hl ⟨r, hr⟩ ⟨⟨⟨v, hv, hrow, rfl⟩, bW1, bF1, bM1⟩, hB1⟩ ⟨Bx, hBx, bX, rfl⟩ hlt
    have hsz1 := hB1.size
    have hN1 : pre.length < N := by have := HN.out; omega
    have cS := hv.cell
    have cF := bF1.cell
    have cX0 : W1.cell? ⟨Bx, 0, none⟩ = some (.int .i64 (p.1.1 : Nat)) := by rw [cell_of_row W1 Bx 0 _ _ (0, 0) bX]; rfl
    have cX1 : W1.cell? ⟨Bx, 1, none⟩ = some (.int .i64 (p.1.2 : Nat)) := by rw [cell_of_row W1 Bx 1 _ _ (0, 0) bX]; rfl
    have K := Lib.hid (HCL.out p.1 W1.drew p.2 hB1.drew)
    gi_wp2_with fail
    have hmix : Tryz.prog.follows Departure.mixedOrders = true := by kernel_rfl
    gi_region_with_o
      ((refine ⟨trivial, ?_⟩; gi_at_call 140; refine (CallsIn.inRound l (callsIn_wide.2 K.out)).mono ?_; rintro e W2 ⟨rfl, hb2⟩
        have hv2 : Boxed W2 w0.heap.size 25 (.slice (some ⟨w.heap.size + 1 + 1, 0, none⟩) pre.length N) := (hb2.block _ hv.lt).trans hv
        have cS2 := hv2.cell
        have fS2 := hv2.frozen
        have hrow2 : W2.ownsRow w.heap.size 3 1 (.slice (some ⟨w.heap.size + 1 + 1, 0, none⟩) pre.length N) pre.length (pre.map (fun p => Value.int .i64 (val p.1))) := owns_kept (w := W1.drew) hrow hb2 (Nat.le_refl _)
        have hs2 := hb2.size
        have hne1 : ¬ (w0.heap.size = w.heap.size + 1 + 1) := by omega
        have hne2 : ¬ (w.heap.size + 1 + 1 = w0.heap.size) := by omega
        have hlv := hv2.lt
        obtain ⟨u, hu, fu, hul⟩ := owns_room hrow2 hN1
        have hu' : (W2.alloc (.cells #[.int .i64 (val p.1)] 3)).cell? ⟨w.heap.size + 1 + 1, pre.length, none⟩ = some u := (((Below.refl _ W2).alloc (Nat.le_refl _) _).cell hul).trans hu
        have fu' : (W2.alloc (.cells #[.int .i64 (val p.1)] 3)).frozen? ⟨w.heap.size + 1 + 1, pre.length, none⟩ = false := (((Below.refl _ W2).alloc (Nat.le_refl _) _).frozen hul).trans fu
        have hv3 : Boxed ((W2.alloc (.cells #[.int .i64 (val p.1)] 3)).setCell ⟨w.heap.size + 1 + 1, pre.length, none⟩ (.int .i64 (val p.1))) w0.heap.size 25 (.slice (some ⟨w.heap.size + 1 + 1, 0, none⟩) pre.length N) :=
          (hv2.alloc _).kept (OnlyBlk.set _ (w.heap.size + 1 + 1) pre.length _).1 (fun e => hne1 (Option.some.inj e))
        have cS3 := hv3.cell
        have fS3 := hv3.frozen))
    all_goals
      gi_wp2
      have q1 := OnlyBlk.set W2 (w.heap.size + 1 + 1) pre.length (.int .i64 (val p.1))
      have q2 := OnlyBlk.set (W2.setCell ⟨w.heap.size + 1 + 1, pre.length, none⟩ (.int .i64 (val p.1))) w0.heap.size 0 (.slice (some ⟨w.heap.size + 1 + 1, 0, none⟩) (pre.length + 1) N)
      have hgb : Below w.heap.size W1 (((W2.setCell ⟨w.heap.size + 1 + 1, pre.length, none⟩ (.int .i64 (val p.1))).setCell ⟨w0.heap.size, 0, none⟩ (.slice (some ⟨w.heap.size + 1 + 1, 0, none⟩) (pre.length + 1) N)).alloc (.cells #[.int .i64 (val p.1)] 3)) :=
        ((((Below.refl _ W1).drew.trans (hb2.mono hsz1)).setCell (p := ⟨w.heap.size + 1 + 1, pre.length, none⟩) (by show w.heap.size ≤ w.heap.size + 1 + 1; omega) _).setCell (p := ⟨w0.heap.size, 0, none⟩) (by show w.heap.size ≤ w0.heap.size; omega) _).alloc (by rw [q2.2, q1.2]; exact Nat.le_trans hsz1 hs2) _
      have bW2 : Boxed W2 (w0.heap.size + 1) 3 (.int .i64 W) := (hb2.block _ bW1.lt).trans bW1
      have bF2 : Boxed W2 w.heap.size _ _ := (hb2.block _ bF1.lt).trans bF1
      have bM2 := (hb2.block _ (Array.getElem?_eq_some_iff.1 bM1).1).trans bM1
      have lM2 := (Array.getElem?_eq_some_iff.1 bM2).1
      have bW3 := ((bW2.kept q1.1 (fun e => by have := Option.some.inj e; omega)).kept q2.1 (fun e => by have := Option.some.inj e; omega)).alloc (.cells #[.int .i64 (val p.1)] 3)
      have bF3 := ((bF2.kept q1.1 (fun e => by have := Option.some.inj e; omega)).kept q2.1 (fun e => by have := Option.some.inj e; omega)).alloc (.cells #[.int .i64 (val p.1)] 3)
      have bS3 := ((hv2.kept q1.1 (fun e => hne1 (Option.some.inj e))).set (.slice (some ⟨w.heap.size + 1 + 1, 0, none⟩) (pre.length + 1) N)).alloc (.cells #[.int .i64 (val p.1)] 3)
      refine ⟨(((((KeepsOthers.drew W1).trans (KeepsOthers.of_below hb2)).trans (KeepsOthers.setCell _ _ _)).trans (KeepsOthers.setCell _ _ _)).trans (KeepsOthers.alloc _ _)).from _, fun _ => bW3.cell,
        ⟨⟨⟨.slice (some ⟨w.heap.size + 1 + 1, 0, none⟩) (pre.length + 1) N, bS3, ?_, by simp⟩, bW3, bF3, ?_⟩, hB1.trans hgb⟩⟩
      · rw [List.map_append, List.length_append]
        exact ((owns_put hrow2 hN1 _).kept q2.1 (.inr (fun e => hne1 (Option.some.inj e.symm)))).alloc _
      · rw [Below.heap_alloc _ _ _ (by rw [q2.2, q1.2]; exact lM2), q2.1.block _ (by rw [q1.2]; exact lM2) (fun e => by have := Option.some.inj e; omega), q1.1.block _ lM2 (fun e => by have := Option.some.inj e; omega)]
        exact bM2
  case done =>
    rintro D ys W1 hD hys ⟨⟨⟨v, hv, hrow, rfl⟩, bW1, bF1, bM1⟩, hB1⟩ hK
    have hlen : (placesTo W (H * W)).length = N := by rw [placesTo_len, Nat.mul_comm]; exact HN.out
    have hlen' : ys.length = N := by rw [← hlen, ← hys, List.length_map]
    have hval' : ys.map (fun p => Value.int .i64 (val p.1)) = (placesTo W (H * W)).map (fun p => Value.int .i64 (val p)) := by rw [← hys, List.map_map]; rfl
    rw [hlen'] at hv hrow
    rw [hval'] at hrow
    clear hval' hlen' hys
    have cS := hv.cell
    have hsz1 := hB1.size
    have hgl : w.heap.size + 1 + 1 < W1.heap.size := (owns_room' hrow).2
    have T := Lib.hid (toMap_any W H (w.heap.size + 1 + 1) 0 N N ((placesTo W (H * W)).map val) (by rw [List.length_map]; exact hlen) hm W1 hgl (fun j hj => by
        rw [Nat.zero_add]
        refine owns_cell hrow ?_
        rw [List.getElem?_map, List.getElem?_map, List.getElem?_eq_getElem (by omega)]; rfl)
      (fun j hj => by rw [List.getElem?_map, List.getElem?_eq_getElem (by omega)]; exact HV.out _))
    have m0 : W1.cell? ⟨w.heap.size + 1, 0, none⟩ = some (.int .i64 0) := by rw [cell_of_row W1 (w.heap.size + 1) 0 _ _ (0, 0) bM1]; rfl
    have m1 : W1.cell? ⟨w.heap.size + 1, 1, none⟩ = some (.int .i64 0) := by rw [cell_of_row W1 (w.heap.size + 1) 1 _ _ (0, 0) bM1]; rfl
    have m2 : W1.cell? ⟨w.heap.size + 1, 2, none⟩ = some (.slice none 0 0) := by rw [cell_of_row W1 (w.heap.size + 1) 2 _ _ (0, 0) bM1]; rfl
    have fm : ∀ j, W1.frozen? ⟨w.heap.size + 1, j, none⟩ = false := fun j => by simp [World.frozen?, bM1]
    have lM := (Array.getElem?_eq_some_iff.1 bM1).1
    gi_wp2_with
      ((refine ⟨trivial, ?_⟩; gi_at_call 147; refine (callsIn_wide.2 T.out).mono ?_; rintro e w2 ⟨rfl, hown2, hb2⟩
        have s0 : w2.cell? ⟨w.heap.size + 1, 0, none⟩ = some (.int .i64 0) := (hb2.cell lM).trans m0
        have s1 : w2.cell? ⟨w.heap.size + 1, 1, none⟩ = some (.int .i64 0) := (hb2.cell lM).trans m1
        have s2 : w2.cell? ⟨w.heap.size + 1, 2, none⟩ = some (.slice none 0 0) := (hb2.cell lM).trans m2
        have f0 : w2.frozen? ⟨w.heap.size + 1, 0, none⟩ = false := (hb2.frozen lM).trans (fm 0)
        have f1 : w2.frozen? ⟨w.heap.size + 1, 1, none⟩ = false := (hb2.frozen lM).trans (fm 1)
        have f2 : w2.frozen? ⟨w.heap.size + 1, 2, none⟩ = false := (hb2.frozen lM).trans (fm 2)))
    have rM2 := (hb2.block _ lM).trans bM1
    obtain ⟨WF, hWF⟩ : ∃ WF, ((w2.setCell ⟨w.heap.size + 1, 0, none⟩ (.int .i64 W)).setCell ⟨w.heap.size + 1, 1, none⟩ (.int .i64 H)).setCell ⟨w.heap.size + 1, 2, none⟩ (.slice (some ⟨W1.heap.size + 2, 0, none⟩) N N) = WF := ⟨_, rfl⟩
    have rF : WF.heap[w.heap.size + 1]? = some (.cells #[.int .i64 W, .int .i64 H, .slice (some ⟨W1.heap.size + 2, 0, none⟩) N N] 54 (0, 0)) := by
      rw [← hWF]
      simp only [World.setCell, Array.getElem?_modify, if_true, rM2, Option.map_some]
      simp
    have kF : WF.heap[D]? = some (.deferred (some [])) := by
      rw [← hWF]
      exact ((((KeepsOthers.of_below hb2).trans (KeepsOthers.setCell _ _ _)).trans (KeepsOthers.setCell _ _ _)).trans (KeepsOthers.setCell _ _ _)).same D _ hK rfl
    have oF : WF.ownsRow w.heap.size 23 1 (.slice (some ⟨W1.heap.size + 2, 0, none⟩) N N) N ((placesTo W (H * W)).map (fun p => Value.float .f32 (smpOf (val p)))) := by
      rw [← hWF]
      rw [List.map_map] at hown2
      exact owns_base (ownsRow_setCell_below (ownsRow_setCell_below (ownsRow_setCell_below hown2 (by show w.heap.size + 1 < _; omega) _) (by show w.heap.size + 1 < _; omega) _) (by show w.heap.size + 1 < _; omega) _) (by omega)
    have bF9 : Below w.heap.size w WF := by
      rw [← hWF]
      exact (((hB1.trans (hb2.mono hsz1)).setCell (p := ⟨w.heap.size + 1, 0, none⟩) (by show w.heap.size ≤ w.heap.size + 1; omega) _).setCell (p := ⟨w.heap.size + 1, 1, none⟩) (by show w.heap.size ≤ w.heap.size + 1; omega) _).setCell (p := ⟨w.heap.size + 1, 2, none⟩) (by show w.heap.size ≤ w.heap.size + 1; omega) _
    have nD : w.heap.size + 1 ≠ D := fun e => by rw [← e, rF] at kF; cases kF
    try rw [hWF]
    refine ⟨by simp, .inl ⟨_, _, rfl, run_takeDeferred kF, ?_⟩⟩
    exact ⟨_, results_row_tmp Tryz.results132 _ _ (w.heap.size + 1) 54 _ (0, 0) _ rfl ((World.putObj_heap_other nD).trans rF) Tryz.underlying54 rfl (by kernel_rfl), _, rfl, ownsRow_putObj oF _ kF rfl, bF9.trans (belowK_b (w := w) (Nat.le_refl _) WF D _ _ (by omega) kF rfl rfl)⟩
  case stop =>
    rintro D c pre W1 _ _ h _
    exact h.elim
end Go.Proofs.YtfdkmmllemkogaaGreatDoor

/-
  Contract of Added's literal: the sum of the integers of two grids at a place.
-/
namespace Go.Proofs.YtfdkmmllemkogaaGreatDoor
open Go.RowKit
set_option linter.unusedVariables false

/-- A variable that holds a grid. -/
structure GridAt (w : World) (g7 : Nat) (W H : Int) (g n c : Nat) : Prop where
  c0 : w.cell? ⟨g7, 0, none⟩ = some (.int .i64 W)
  c1 : w.cell? ⟨g7, 1, none⟩ = some (.int .i64 H)
  c2 : w.cell? ⟨g7, 2, none⟩ = some (.slice (some ⟨g, 0, none⟩) n c)
theorem GridAt.below {B : Nat} {w w' : World} {g7 : Nat} {W H : Int} {g n c : Nat} (h : GridAt w g7 W H g n c) (hb : Below B w w') (hB : g7 < B) : GridAt w' g7 W H g n c :=
  ⟨(hb.cell (p := ⟨g7, 0, none⟩) hB).trans h.c0, (hb.cell (p := ⟨g7, 1, none⟩) hB).trans h.c1, (hb.cell (p := ⟨g7, 2, none⟩) hB).trans h.c2⟩

set_option maxRecDepth 100000 in
set_option maxHeartbeats 3200000 in
theorem added1_any (W H : Int) (ga na ca gb nb cb g7 g8 : Nat) (X Y va vb : Int) (h0 : 0 ≤ W ∧ W ≤ 1048576) (hx : 0 ≤ X ∧ X ≤ 1048576) (hy : 0 ≤ Y ∧ Y ≤ 1048576) (hp : 0 ≤ Y * W ∧ Y * W ≤ 1099511627776) (ha : va.natAbs ≤ 1048576) (hb : vb.natAbs ≤ 1048576) (w : World)
    (hn : Y * W + X < na) (hn' : Y * W + X < nb) (g7l : g7 < w.heap.size) (g8l : g8 < w.heap.size) (gal : ga < w.heap.size) (gbl : gb < w.heap.size) (hA : GridAt w g7 W H ga na ca) (hB : GridAt w g8 W H gb nb cb)
    (hca : w.cell? ⟨ga, (Y * W + X).toNat, none⟩ = some (.int .i64 va)) (hcb : w.cell? ⟨gb, (Y * W + X).toNat, none⟩ = some (.int .i64 vb)) :
    Calls Tryz.prog 140 #[.agg #[.int .i64 X, .int .i64 Y], .pointer (some ⟨g7, 0, none⟩), .pointer (some ⟨g8, 0, none⟩)] w fun e w' => e = .returned (.int .i64 (va + vb)) ∧ Below w.heap.size w w' := by
  obtain ⟨a0, a1, a2⟩ := hA
  obtain ⟨b0, b1, b2⟩ := hB
  have KA : ∀ w1 : World, Below (w.heap.size + 1) (w.alloc (.cells #[.int .i64 X, .int .i64 Y] 50)) w1 → Calls Tryz.prog 126 #[.agg #[.int .i64 W, .int .i64 H, .slice (some ⟨ga, 0, none⟩) na ca], .agg #[.int .i64 X, .int .i64 Y]] w1 fun e w' => e = .returned (.int .i64 va) ∧ Below (w.heap.size + 1) (w.alloc (.cells #[.int .i64 X, .int .i64 Y] 50)) w' := fun w1 h1 => by
    have hs := h1.size
    simp at hs
    have h2 := ((Below.refl _ w).alloc (Nat.le_refl _) (.cells #[.int .i64 X, .int .i64 Y] 50)).trans (h1.mono (by omega))
    exact (at_any W H X Y ga na ca va h0 hx hy hp w1 hn (by omega) ((h2.cell (by exact gal)).trans hca)).mono fun e w' ⟨he, hw⟩ => ⟨he, h1.trans (hw.mono hs)⟩
  have KB : ∀ w1 : World, Below (w.heap.size + 1) (w.alloc (.cells #[.int .i64 X, .int .i64 Y] 50)) w1 → Calls Tryz.prog 126 #[.agg #[.int .i64 W, .int .i64 H, .slice (some ⟨gb, 0, none⟩) nb cb], .agg #[.int .i64 X, .int .i64 Y]] w1 fun e w' => e = .returned (.int .i64 vb) ∧ Below (w.heap.size + 1) (w.alloc (.cells #[.int .i64 X, .int .i64 Y] 50)) w' := fun w1 h1 => by
    have hs := h1.size
    simp at hs
    have h2 := ((Below.refl _ w).alloc (Nat.le_refl _) (.cells #[.int .i64 X, .int .i64 Y] 50)).trans (h1.mono (by omega))
    exact (at_any W H X Y gb nb cb vb h0 hx hy hp w1 hn' (by omega) ((h2.cell (by exact gbl)).trans hcb)).mono fun e w' ⟨he, hw⟩ => ⟨he, h1.trans (hw.mono hs)⟩
  have HKA := Lib.hid KA
  have HKB := Lib.hid KB
  clear KA KB hca hcb hn hn' h0 hx hy hp
  go_enter Tryz.func140, Tryz.ntmps140
  go_wp2_with fail
  obtain ⟨W0, hW0⟩ : ∃ W0, w.alloc (.cells #[.int .i64 X, .int .i64 Y] 50) = W0 := ⟨_, rfl⟩
  have hS0 : W0.heap.size = w.heap.size + 1 := by rw [← hW0]; simp
  have hB0 : Below w.heap.size w W0 := by rw [← hW0]; exact (Below.refl _ w).alloc (Nat.le_refl _) _
  have p0 : W0.cell? ⟨w.heap.size, 0, none⟩ = some (.int .i64 X) := by rw [← hW0]; simp [go_sem]
  have p1 : W0.cell? ⟨w.heap.size, 1, none⟩ = some (.int .i64 Y) := by rw [← hW0]; simp [go_sem]
  replace a0 := (hB0.cell (p := ⟨g7, 0, none⟩) g7l).trans a0
  replace a1 := (hB0.cell (p := ⟨g7, 1, none⟩) g7l).trans a1
  replace a2 := (hB0.cell (p := ⟨g7, 2, none⟩) g7l).trans a2
  replace b0 := (hB0.cell (p := ⟨g8, 0, none⟩) g8l).trans b0
  replace b1 := (hB0.cell (p := ⟨g8, 1, none⟩) g8l).trans b1
  replace b2 := (hB0.cell (p := ⟨g8, 2, none⟩) g8l).trans b2
  have hR : Below (w.heap.size + 1) W0 W0.drew := (Below.refl (w.heap.size + 1) W0).drew
  rw [hW0] at HKA HKB ⊢
  have HB0 := Lib.hid hB0
  have HS0 := Lib.hid hS0
  clear hW0 hB0 hS0
  have hwr : IntKind.i64.wrap (va + vb) = va + vb := IntWalk.i64_in _ ⟨by omega, by omega⟩
  go_region_held3 (fun w' => w'.cell? ⟨g7, 0, none⟩ = some (.int .i64 W) ∧ w'.cell? ⟨g7, 1, none⟩ = some (.int .i64 H) ∧ w'.cell? ⟨g7, 2, none⟩ = some (.slice (some ⟨ga, 0, none⟩) na ca) ∧
      w'.cell? ⟨g8, 0, none⟩ = some (.int .i64 W) ∧ w'.cell? ⟨g8, 1, none⟩ = some (.int .i64 H) ∧ w'.cell? ⟨g8, 2, none⟩ = some (.slice (some ⟨gb, 0, none⟩) nb cb) ∧
      w'.cell? ⟨w.heap.size, 0, none⟩ = some (.int .i64 X) ∧ w'.cell? ⟨w.heap.size, 1, none⟩ = some (.int .i64 Y) ∧ Below (w.heap.size + 1) W0 w')
    (first | (go_split_ands; refine ⟨?_, ?_, ?_, ?_, ?_, ?_, ?_, ?_, ?_⟩ <;> first | assumption | ((rw [hb1.cell (by simp; try omega)]; assumption))) | go_keep)
    (first
      | (go_at_call_of 126 (Value.agg #[.int .i64 W, .int .i64 H, .slice (some ⟨ga, 0, none⟩) na ca]); refine (HKA.out _ ?_).mono ?_; rotate_left 1; rintro e w' ⟨rfl, hb1⟩; rotate_left 1; (simp [*]))
      | (go_at_call_of 126 (Value.agg #[.int .i64 W, .int .i64 H, .slice (some ⟨gb, 0, none⟩) nb cb]); refine (HKB.out _ ?_).mono ?_; rotate_left 1; rintro e w' ⟨rfl, hb1⟩; rotate_left 1; (simp [*])))
  all_goals
    go_wp2
    go_ret
    exact ⟨rfl, HB0.out.trans (hb1.mono (by omega))⟩
end Go.Proofs.YtfdkmmllemkogaaGreatDoor

/-
  Contract of Total for a right map: the sum of its integers.
-/
namespace Go.Proofs.YtfdkmmllemkogaaGreatDoor
open Go.RowKit
set_option linter.unusedVariables false

theorem sum_take_succ (ks : List Int) (k : Nat) (hk : k < ks.length) : (ks.take (k + 1)).sum = (ks.take k).sum + ks[k]?.getD 0 := by
  rw [List.take_succ_eq_append_getElem hk, List.sum_append, List.getElem?_eq_getElem hk]; simp
theorem sum_take_bd {ks : List Int} {M : Nat} {n : Nat} (hl : ks.length = n) (h : ∀ j, j < n → (ks[j]?.getD 0).natAbs ≤ M) : ∀ k, k ≤ n → -((M * k : Nat) : Int) ≤ (ks.take k).sum ∧ (ks.take k).sum ≤ ((M * k : Nat) : Int)
  | 0, _ => by simp
  | k + 1, hk => by
    have ih := sum_take_bd hl h k (by omega)
    have hb := h k (by omega)
    rw [sum_take_succ ks k (by omega)]
    rw [Nat.mul_succ]
    push_cast at ih ⊢
    omega

set_option maxRecDepth 100000 in
set_option maxHeartbeats 3200000 in
theorem total_any (W H : Int) (b o n c : Nat) (xs : List Nat) (ks : List Int) (w : World) (hw : RightMap w W H b o n xs ks) (hb : b < w.heap.size) :
    Calls Tryz.prog 39 #[.agg #[.int .i64 W, .int .i64 H, .slice (some ⟨b, o, none⟩) n c]] w fun e w' => e = .returned (.tuple #[.int .i64 ks.sum, .int .i64 0]) ∧ Below w.heap.size w w' := by
  have K1 : Hid (∀ w1 : World, Below w.heap.size w w1 → Calls Tryz.prog 47 #[.agg #[.int .i64 W, .int .i64 H, .slice (some ⟨b, o, none⟩) n c]] w1 fun e w' => e = .returned (.int .i64 0) ∧ Below w1.heap.size w1 w') :=
    Lib.hid fun w1 h => checkMap_any W H b o n c xs ks w1 (hw.below h hb) (by have := h.size; omega)
  have K2 : Hid (∀ w1 : World, Below w.heap.size w w1 → Calls Tryz.prog 123 #[.agg #[.int .i64 W, .int .i64 H, .slice (some ⟨b, o, none⟩) n c]] w1 fun e w' =>
      e = .returned (.agg #[.int .i64 W, .int .i64 H, .slice (some ⟨w1.heap.size + 2, 0, none⟩) n n]) ∧ w'.ownsRow (w1.heap.size + 2) 3 1 (.slice (some ⟨w1.heap.size + 2, 0, none⟩) n n) n (ks.map (Value.int .i64)) ∧ Below w1.heap.size w1 w') :=
    Lib.hid fun w1 h => gridOf_any W H b o n c xs ks w1 (hw.below h hb).toWords (by have := h.size; omega)
  have hfld : ∀ (g : Nat) (w : World), (Instr.field 188 (.agg #[.int .i64 W, .int .i64 H, .slice (some ⟨g, 0, none⟩) n n]) 2).run Tryz.prog w = .ok (.slice (some ⟨g, 0, none⟩) n n) w := fun _ _ => by kernel_rfl
  have hsm := hw.small
  have HW := Lib.hid hw
  have HBD := Lib.hid (sum_take_bd hw.lenk hw.sizes)
  clear hw
  go_enter Tryz.func39, Tryz.ntmps39
  go_wp2_with (first
    | (go_at_call 47; refine (K1.out _ ((Below.refl _ w).alloc (Nat.le_refl _) _)).mono ?_; rintro e w1 ⟨rfl, hb1⟩
       have hs1 : w.heap.size + 1 ≤ w1.heap.size := by have := hb1.size; simpa using this
       have hB1 : Below w.heap.size w w1 := ((Below.refl _ w).alloc (Nat.le_refl _) _).trans (hb1.mono (by simp))
       have c0 : w1.cell? ⟨w.heap.size, 0, none⟩ = some (.int .i64 W) := by rw [hb1.cell (by simp)]; simp [go_sem]
       have c1 : w1.cell? ⟨w.heap.size, 1, none⟩ = some (.int .i64 H) := by rw [hb1.cell (by simp)]; simp [go_sem]
       have c2 : w1.cell? ⟨w.heap.size, 2, none⟩ = some (.slice (some ⟨b, o, none⟩) n c) := by rw [hb1.cell (by simp)]; simp [go_sem]
       have HB1 := Lib.hid hB1
       clear hb1 hB1)
    | (go_at_call 123; refine (K2.out _ HB1.out).mono ?_; rintro e w2 ⟨rfl, hown2, hb2⟩
       have HB2 := Lib.hid (HB1.out.trans (hb2.mono HB1.out.size))
       have HO2 := Lib.hid hown2
       clear hb2 hown2 c0 c1 c2))
  go_loop [5, 17] (fun x i => ∃ k : Nat, k ≤ n ∧ i = .int .i64 k ∧ x = .int .i64 (ks.take k).sum) (fun _ i => n - (intOf i).toNat)
  case atStart => exact ⟨0, Nat.zero_le _, rfl, rfl⟩
  case round =>
    obtain ⟨k, hk, rfl, rfl⟩ := hrel
    have hbd := HBD.out k hk
    by_cases hlt : k < n
    · have hcell : w2.cell? ⟨w1.heap.size + 2, k, none⟩ = some (.int .i64 (ks[k]?.getD 0)) := owns_cell HO2.out (by
        rw [List.getElem?_map, List.getElem?_eq_getElem (by have := HW.out.lenk; omega)]; rfl)
      have hz := HW.out.sizes k hlt
      have hS := sum_take_succ ks k (by have := HW.out.lenk; omega)
      have HS := Lib.hid hS
      have hb3 : -67108864 ≤ (ks.take k).sum ∧ (ks.take k).sum ≤ 67108864 := by
        have : 16384 * k ≤ 67108864 := by omega
        omega
      clear hS hbd
      go_wp2
      go_round
      case rel => exact ⟨k + 1, by omega, by go_num, by rw [HS.out]⟩
      case measure => simp [intOf]; omega
    · go_wp2
      go_ret2
      obtain rfl : k = n := by omega
      exact ⟨by rw [List.take_of_length_le (by have := HW.out.lenk; omega)]; rfl, HB2.out⟩
end Go.Proofs.YtfdkmmllemkogaaGreatDoor

/-
  What stands behind the two grids of Added; blocks behind stores and new blocks.
-/
namespace Go.Proofs.YtfdkmmllemkogaaGreatDoor
open Go.RowKit
set_option linter.unusedVariables false
attribute [local go_sem ↓] Go.wp_at_zero Go.wp_at_succ

/-- Integers that lie in a block. -/
structure RowAt (w : World) (g n : Nat) (ks : List Int) : Prop where
  lt : g < w.heap.size
  cells : ∀ j, j < n → w.cell? ⟨g, j, none⟩ = some (.int .i64 (ks[j]?.getD 0))
theorem RowAt.below {B : Nat} {w w' : World} {g n : Nat} {ks : List Int} (h : RowAt w g n ks) (hb : Below B w w') (hB : g < B) : RowAt w' g n ks :=
  ⟨Nat.lt_of_lt_of_le h.lt hb.size, fun j hj => (hb.cell (p := ⟨g, j, none⟩) hB).trans (h.cells j hj)⟩
theorem grid_row (W H : Int) (b o n c : Nat) (xs : List Nat) (ks : List Int) (w : World) (hw : Words w b o n xs ks) (hb : b < w.heap.size) :
    Calls Tryz.prog 123 #[.agg #[.int .i64 W, .int .i64 H, .slice (some ⟨b, o, none⟩) n c]] w fun e w' =>
      ∃ g, e = .returned (.agg #[.int .i64 W, .int .i64 H, .slice (some ⟨g, 0, none⟩) n n]) ∧ w.heap.size ≤ g ∧ RowAt w' g n ks ∧ Below w.heap.size w w' :=
  (gridOf_any W H b o n c xs ks w hw hb).mono fun e w' ⟨he, ho, hB⟩ => ⟨_, he, by omega, ⟨(ho.lt _ rfl).2, fun j hj => owns_cell ho (by
    rw [List.getElem?_map, List.getElem?_eq_getElem (by rw [hw.lenk]; exact hj)]; rfl)⟩, hB⟩

theorem bcell {W w1 : World} (hb : Below W.heap.size W w1) : (∀ b o, b < W.heap.size → w1.cell? ⟨b, o, none⟩ = W.cell? ⟨b, o, none⟩) ∧ (∀ b o, b < W.heap.size → w1.frozen? ⟨b, o, none⟩ = W.frozen? ⟨b, o, none⟩) :=
  ⟨fun b o h => hb.cell (p := ⟨b, o, none⟩) h, fun b o h => hb.frozen (p := ⟨b, o, none⟩) h⟩
/-- Below, closed to what takes conjunctions apart. -/
def Blw (N : Nat) (w w' : World) : Prop := Below N w w'
/-- What stands behind the two grids. -/
def GridsMade (w W0 : World) (W H : Int) (n : Nat) (ks js : List Int) (s7 s8 : Value) (wx : World) : Prop :=
  ∃ g7 g8 ga gb : Nat, s7 = .pointer (some ⟨g7, 0, none⟩) ∧ s8 = .pointer (some ⟨g8, 0, none⟩) ∧ GridAt wx g7 W H ga n n ∧ GridAt wx g8 W H gb n n ∧ RowAt wx ga n ks ∧ RowAt wx gb n js ∧ g7 < wx.heap.size ∧ g8 < wx.heap.size ∧ Below (w.heap.size + 3) W0 wx
theorem placesTo_get (W k j : Nat) (h : j < k) : (placesTo W k)[j]? = some (j % W, j / W) := by
  rw [placesTo, List.getElem?_map, List.getElem?_range h]; rfl
theorem idx_lt {W H n : Nat} {p : Nat × Nat} (h1 : p.1 < W) (h2 : p.2 < H) (hn : W * H = n) : p.2 * W + p.1 < n := by
  have := Nat.mul_le_mul_right W (show p.2 + 1 ≤ H by omega)
  rw [Nat.add_mul, Nat.one_mul, Nat.mul_comm H W, hn] at this
  omega
theorem RowAt.set {w : World} {g n : Nat} {ks : List Int} (h : RowAt w g n ks) {p : Addr} (hp : p.block ≠ g) (v : Value) : RowAt (w.setCell p v) g n ks :=
  ⟨by simpa [World.setCell] using h.lt, fun j hj => (World.cell?_setCell_other w p ⟨g, j, none⟩ v (fun e => hp (by rw [e]))).trans (h.cells j hj)⟩
theorem RowAt.alloc {w : World} {g n : Nat} {ks : List Int} (h : RowAt w g n ks) (o : Obj) : RowAt (w.alloc o) g n ks := h.below ((Below.refl _ w).alloc (Nat.le_refl _) o) h.lt
theorem blk_set_other {w : World} {B : Nat} {o : Obj} (h : w.heap[B]? = some o) {p : Addr} (hp : p.block ≠ B) (v : Value) : (w.setCell p v).heap[B]? = some o := by
  rw [← h]; exact Below.heap_setCell _ _ _ _ (fun e => hp e.symm)
theorem blk_alloc_other {w : World} {B : Nat} {o : Obj} (h : w.heap[B]? = some o) (x : Obj) : (w.alloc x).heap[B]? = some o := (Below.heap_alloc _ _ _ (Array.getElem?_eq_some_iff.1 h).1).trans h
theorem blk_drew {w : World} {B : Nat} {o : Obj} (h : w.heap[B]? = some o) : w.drew.heap[B]? = some o := h
theorem blk_alloc_new (w : World) (o : Obj) : (w.alloc o).heap[w.heap.size]? = some o := heap_alloc_new w o
theorem blk_alloc_new1 (w : World) (o o' : Obj) : ((w.alloc o').alloc o).heap[w.heap.size + 1]? = some o := heap_alloc2_new w _ _
theorem blk_alloc_at (w : World) (o : Obj) {B : Nat} (h : w.heap.size = B) : (w.alloc o).heap[B]? = some o := by rw [← h]; exact blk_alloc_new w o
theorem blk_set3 {w : World} {B : Nat} {T : TypeId} {x y z : Value} (h : w.heap[B]? = some (.cells #[x, y, z] T (0, 0))) (a b c : Value) :
    (((w.setCell ⟨B, 0, none⟩ a).setCell ⟨B, 1, none⟩ b).setCell ⟨B, 2, none⟩ c).heap[B]? = some (.cells #[a, b, c] T (0, 0)) := by
  simp only [World.setCell, Array.getElem?_modify, if_true, h, Option.map_some]
  simp
theorem GridAt.of_blk {w : World} {B : Nat} {T : TypeId} {W H : Int} {g n c : Nat} (h : w.heap[B]? = some (.cells #[.int .i64 W, .int .i64 H, .slice (some ⟨g, 0, none⟩) n c] T (0, 0))) : GridAt w B W H g n c :=
  ⟨by rw [cell_of_row w B 0 _ _ (0, 0) h]; rfl, by rw [cell_of_row w B 1 _ _ (0, 0) h]; rfl, by rw [cell_of_row w B 2 _ _ (0, 0) h]; rfl⟩
theorem lt_of_blk {w : World} {B : Nat} {o : Obj} (h : w.heap[B]? = some o) : B < w.heap.size := (Array.getElem?_eq_some_iff.1 h).1
theorem below_alloc {N : Nat} {W0 W1 : World} (h : Below N W0 W1) (hN : N ≤ W0.heap.size) (o : Obj) : Below N W0 (W1.alloc o) := h.alloc (Nat.le_trans hN h.size) o

end Go.Proofs.YtfdkmmllemkogaaGreatDoor

/-
  Contract of Draw: the permutation of n elements by a key.
-/
namespace Go.Proofs.YtfdkmmllemkogaaGreatDoor
open Go.RowKit
set_option linter.unusedVariables false
set_option linter.unusedSimpArgs false

/-- The generator's number and the list after some exchanges. -/
def drawS (key : Int) (n : Nat) : Nat → Int × List Int
  | 0 => (key, (List.range n).map (fun i : Nat => (i : Int)))
  | t + 1 => (950706376 * (drawS key n t).1 % 2147483647,
      ((drawS key n t).2.set (n - 1 - t) ((drawS key n t).2[(950706376 * (drawS key n t).1 % 2147483647 % ((n - 1 - t : Nat) + 1 : Int)).toNat]?.getD 0)).set (950706376 * (drawS key n t).1 % 2147483647 % ((n - 1 - t : Nat) + 1 : Int)).toNat ((drawS key n t).2[n - 1 - t]?.getD 0))
def drawL (key : Int) (n : Nat) : List Int := (drawS key n (n - 1)).2
theorem drawS_len (key : Int) (n : Nat) : ∀ t, (drawS key n t).2.length = n
  | 0 => by simp [drawS]
  | t + 1 => by simp [drawS, drawS_len key n t]
theorem drawS_bd (key : Int) (n : Nat) (h : 0 ≤ key ∧ key ≤ 2147483646) : ∀ t, 0 ≤ (drawS key n t).1 ∧ (drawS key n t).1 ≤ 2147483646
  | 0 => h
  | t + 1 => by
    have h1 := Int.emod_nonneg (950706376 * (drawS key n t).1) (show (2147483647 : Int) ≠ 0 by decide)
    have h2 := Int.emod_lt_of_pos (950706376 * (drawS key n t).1) (show (0 : Int) < 2147483647 by decide)
    simp only [drawS]
    omega

/-- The list while its first k places are told. -/
def fillTo (n k : Nat) : List Int := (List.range n).map (fun q => if q < k then (q : Int) else 0)
theorem fillTo_len (n k : Nat) : (fillTo n k).length = n := by simp [fillTo]
theorem fillTo_set (n k : Nat) : (fillTo n k).set k (k : Int) = fillTo n (k + 1) := by
  refine List.ext_getElem (by simp [fillTo]) fun q h1 h2 => ?_
  simp only [fillTo, List.getElem_set, List.getElem_map, List.getElem_range]
  by_cases e : k = q
  · subst e; rw [if_pos rfl, if_pos (by omega)]
  · rw [if_neg e]
    by_cases e2 : q < k
    · rw [if_pos e2, if_pos (by omega)]
    · rw [if_neg e2, if_neg (by omega)]
theorem fillTo_0 (n : Nat) : fillTo n 0 = List.replicate n 0 := by
  refine List.ext_getElem (by simp [fillTo]) fun q h1 h2 => ?_
  simp [fillTo]
theorem fillTo_n (n : Nat) : fillTo n n = (List.range n).map (fun i : Nat => (i : Int)) := by
  refine List.ext_getElem (by simp [fillTo]) fun q h1 h2 => ?_
  simp only [fillTo_len] at h1
  simp [fillTo, h1]

set_option maxRecDepth 100000 in
set_option maxHeartbeats 6400000 in
theorem draw_any (key : Int) (n : Nat) (hk : 1 ≤ key ∧ key ≤ 2147483646) (hn : n ≤ 256) (w : World) :
    Calls Tryz.prog 20 #[.int .i64 key, .int .i64 n] w fun e w' =>
      ∃ v, e = .returned (.tuple #[v, .int .i64 0]) ∧ w'.ownsRow w.heap.size 3 1 v n ((drawL key n).map (Value.int .i64)) ∧ Below w.heap.size w w' := by
  obtain ⟨i0, hi, hz0, hz1, hz2⟩ := info_parts Tryz.infoInt
  have e1 : rangeErr key 1 2147483646 = 0 := rangeErr_in hk.1 hk.2
  have e2 : rangeErr (n : Int) 0 256 = 0 := rangeErr_in (by omega) (by omega)
  have KN : Hid (∀ w1 : World, Calls Tryz.prog 110 #[.int .i64 key, .int .i64 1, .int .i64 2147483646] w1 fun e w' => e = .returned (.int .i64 0) ∧ w1 = w') := Lib.hid fun w1 => by have h := checkRange_any key 1 2147483646 w1; rw [e1] at h; exact h
  have KD : Hid (∀ w1 : World, Calls Tryz.prog 110 #[.int .i64 n, .int .i64 0, .int .i64 256] w1 fun e w' => e = .returned (.int .i64 0) ∧ w1 = w') := Lib.hid fun w1 => by have h := checkRange_any (n : Int) 0 256 w1; rw [e2] at h; exact h
  clear e1 e2
  go_enter Tryz.func20, Tryz.ntmps20
  go_upto_region 5 with (first
    | (go_at_call_of 110 (Value.int .i64 key); refine (KN.out _).mono ?_; rintro e w9 ⟨rfl, rfl⟩)
    | (go_at_call_of 110 (Value.int .i64 n); refine (KD.out _).mono ?_; rintro e w9 ⟨rfl, rfl⟩)
    | ((go_at_call 109; refine (first_zeros _ 0 2 2 (by omega) _ ?_).mono ?_; rotate_left 1; rintro e w9 ⟨rfl, rfl⟩; rotate_left 1; (intro j hj; match j, hj with | 0, _ => simp [go_sem] | 1, _ => simp [go_sem])))
    | (at_make; refine wpList_make_full _ rfl (.tmp 21) (.tmp 21) 25 rfl (w.heap.size + 1) 3 i0 (.int .i64 0) 1 Tryz.underlying25 hi hz0 hz1 .i64 .i64 (n : Int) (n : Int) n rfl rfl rfl rfl (by rw [hz2]; omega) (by unfold maxLen; omega) (by simp) ?_; intro w4 hown4 hgrow4))
  have hB4 : Below w.heap.size w w4 := ((Below.refl _ w).alloc (Nat.le_refl _) _).grown hgrow4 (by simp) (fun j hj => by cases hj)
  have hO4 : w4.ownsRow (w.heap.size + 1) 3 1 (.slice (some ⟨w.heap.size + 1, 0, none⟩) n n) n ((fillTo n 0).map (Value.int .i64)) := by
    have h := hown4
    rw [Nat.mul_one, show (Value.int .i64 0).cells = #[.int .i64 0] from rfl, toList_madeCells_one] at h
    simp only [World.size_alloc] at h
    rw [fillTo_0, List.map_replicate]
    exact h
  have HB4 := Lib.hid hB4
  have HO4 := Lib.hid hO4
  clear hown4 hgrow4 hB4 hO4
  go_upto_block 0 with fail
  go_cut [7] (fun s7 wr => s7 = .slice (some ⟨w.heap.size + 1, 0, none⟩) n n ∧ wr.ownsRow (w.heap.size + 1) 3 1 (.slice (some ⟨w.heap.size + 1, 0, none⟩) n n) n ((fillTo n n).map (Value.int .i64)) ∧ Below w.heap.size w wr)
  case first =>
    go_wp2_with fail
    go_loopw [24] (fun i wr => ∃ k : Nat, k ≤ n ∧ i = .int .i64 k ∧ wr.ownsRow (w.heap.size + 1) 3 1 (.slice (some ⟨w.heap.size + 1, 0, none⟩) n n) n ((fillTo n k).map (Value.int .i64)) ∧ Below w.heap.size w wr)
      (fun i _ => n - (intOf i).toNat)
    case atStart => exact ⟨0, Nat.zero_le _, rfl, HO4.out, HB4.out⟩
    case round =>
      obtain ⟨k, hk, rfl, hown, hnx⟩ := hrel
      by_cases hlt : k < n
      · have hc : wr.cell? ⟨w.heap.size + 1, k, none⟩ = some (.int .i64 ((fillTo n k)[k]?.getD 0)) := owns_cell hown (by rw [List.getElem?_map, List.getElem?_eq_getElem (by rw [fillTo_len]; exact hlt)]; rfl)
        have hf := hown.frozenAt k
        have hst := (hown.stored k (.int .i64 (k : Int))).1
        rw [← List.map_set, fillTo_set] at hst
        have HST := Lib.hid hst
        have HNX := Lib.hid hnx
        clear hown hst hnx
        go_wp2_with fail
        go_roundw
        case rel => exact ⟨k + 1, by omega, by go_num, HST.out, HNX.out.setCell (p := ⟨w.heap.size + 1, k, none⟩) (by show w.heap.size ≤ w.heap.size + 1; omega) _⟩
        case measure => simp [intOf]; omega
      · obtain rfl : k = n := by omega
        go_wp2_with fail
        go_meet
        exact ⟨rfl, hown, hnx⟩
  case rest =>
    obtain ⟨rfl, hownR, hbR⟩ := hcut
    rw [fillTo_n] at hownR
    go_wp2_with fail
    have HOR := Lib.hid hownR
    have HBR := Lib.hid hbR
    clear hownR hbR
    go_loopw [9, 10] (fun s9 s10 wr => ∃ t : Nat, (t + 1 ≤ n ∨ t = 0) ∧ s9 = .int .i64 (drawS key n t).1 ∧ s10 = .int .i64 ((n : Int) - 1 - (t : Int)) ∧ wr.ownsRow (w.heap.size + 1) 3 1 (.slice (some ⟨w.heap.size + 1, 0, none⟩) n n) n ((drawS key n t).2.map (Value.int .i64)) ∧ Below w.heap.size w wr)
      (fun _ i _ => (intOf i).toNat)
    case atStart => exact ⟨0, .inr rfl, rfl, by congr 1; omega, HOR.out, HBR.out⟩
    case round =>
      obtain ⟨t, ht, rfl, rfl, hown, hnx⟩ := hrel
      by_cases hlt : t + 2 ≤ n
      · have hbd := drawS_bd key n (by omega) t
        have hln := drawS_len key n t
        obtain ⟨i, hi'⟩ : ∃ i : Nat, n - 1 - t = i := ⟨_, rfl⟩
        have ei : (n : Int) - 1 - (t : Int) = (i : Int) := by omega
        have ei2 : (n : Int) - 1 - ((t + 1 : Nat) : Int) = (i : Int) - 1 := by omega
        have hi1 : 1 ≤ i := by omega
        have hin : i < n := by omega
        obtain ⟨x, hx⟩ : ∃ x : Int, (drawS key n t).1 = x := ⟨_, rfl⟩
        obtain ⟨l, hl⟩ : ∃ l : List Int, (drawS key n t).2 = l := ⟨_, rfl⟩
        obtain ⟨X, hX⟩ : ∃ X : Int, 950706376 * x % 2147483647 = X := ⟨_, rfl⟩
        have hX0 : 0 ≤ X ∧ X ≤ 2147483646 := by
          have h1 := Int.emod_nonneg (950706376 * x) (show (2147483647 : Int) ≠ 0 by decide)
          have h2 := Int.emod_lt_of_pos (950706376 * x) (show (0 : Int) < 2147483647 by decide)
          omega
        obtain ⟨j, hj⟩ : ∃ j : Nat, (X % ((i : Int) + 1)).toNat = j := ⟨_, rfl⟩
        have hjb : X % ((i : Int) + 1) = (j : Int) ∧ j ≤ i := by
          have h1 := Int.emod_nonneg X (show ((i : Int) + 1) ≠ 0 by omega)
          have h2 := Int.emod_lt_of_pos X (show (0 : Int) < (i : Int) + 1 by omega)
          omega
        have hS : drawS key n (t + 1) = (X, (l.set i (l[j]?.getD 0)).set j (l[i]?.getD 0)) := by
          simp only [drawS, hx, hl, hi', hX, hj]
        rw [hx] at hbd ⊢
        rw [hl] at hown hln
        rw [ei]
        have w1 : IntKind.i64.wrap (950706376 * x) = 950706376 * x := IntWalk.i64_in _ ⟨by omega, by omega⟩
        have w2 : (950706376 * x).tmod 2147483647 = X := by rw [Int.tmod_eq_emod_of_nonneg (by omega)]; exact hX
        have w3 : IntKind.i64.wrap X = X := IntWalk.i64_in _ ⟨by omega, by omega⟩
        have w4' : X.tmod ((i : Int) + 1) = (j : Int) := by rw [Int.tmod_eq_emod_of_nonneg hX0.1]; exact hjb.1
        have w5 : IntKind.i64.wrap ((i : Int) + 1) = (i : Int) + 1 := IntWalk.i64_in _ ⟨by omega, by omega⟩
        have w6 : IntKind.i64.wrap ((i : Int) - 1) = (i : Int) - 1 := IntWalk.i64_in _ ⟨by omega, by omega⟩
        have w7 : (1 : Int) ≤ (i : Int) := by omega
        have w8 : ¬ ((i : Int) + 1 = 0) := by omega
        have w9 : (i : Int) < (n : Int) := by omega
        have w10 : (j : Int) < (n : Int) := by omega
        have ci : wr.cell? ⟨w.heap.size + 1, i, none⟩ = some (.int .i64 (l[i]?.getD 0)) := owns_cell hown (by rw [List.getElem?_map, List.getElem?_eq_getElem (by omega)]; rfl)
        have cj : wr.cell? ⟨w.heap.size + 1, j, none⟩ = some (.int .i64 (l[j]?.getD 0)) := owns_cell hown (by rw [List.getElem?_map, List.getElem?_eq_getElem (by omega)]; rfl)
        have fi := hown.frozenAt i
        have fj := hown.frozenAt j
        have hst1 := (hown.stored i (.int .i64 (l[j]?.getD 0))).1
        have cj2 : (wr.setCell ⟨w.heap.size + 1, i, none⟩ (.int .i64 (l[j]?.getD 0))).cell? ⟨w.heap.size + 1, j, none⟩ = some (.int .i64 ((l.set i (l[j]?.getD 0))[j]?.getD 0)) := by
          rw [← List.map_set] at hst1
          exact owns_cell hst1 (by rw [List.getElem?_map, List.getElem?_eq_getElem (by simp; omega)]; rfl)
        have fj2 := hst1.frozenAt j
        have hst2 := (hst1.stored j (.int .i64 (l[i]?.getD 0))).1
        rw [← List.map_set, ← List.map_set] at hst2
        have HST := Lib.hid hst2
        have HNX := Lib.hid hnx
        have HS1 := Lib.hid hS
        have HEI := Lib.hid ei2
        clear hst1 hst2 hown hnx hS hX hj hjb hx hl hi' ei ei2 hX0 hbd ht
        go_upto_region 16 with fail
        clear hln
        go_region_with (fail)
        all_goals
          go_wp2_with fail
          go_roundw
          case rel =>
            refine ⟨t + 1, .inl (by omega), ?_⟩
            rw [HS1.out, HEI.out]
            exact ⟨rfl, rfl, HST.out.drew, ((HNX.out.setCell (p := ⟨w.heap.size + 1, i, none⟩) (by show w.heap.size ≤ w.heap.size + 1; omega) _).setCell (p := ⟨w.heap.size + 1, j, none⟩) (by show w.heap.size ≤ w.heap.size + 1; omega) _).drew⟩
          case measure => simp [intOf]; omega
      · have et : t = n - 1 := by omega
        have hi2 : ¬ ((1 : Int) ≤ (n : Int) - 1 - (t : Int)) := by omega
        have hi3 : (n : Int) - 1 - (t : Int) < 1 := by omega
        have HET := Lib.hid et
        have HO := Lib.hid hown
        have HX := Lib.hid hnx
        clear et hown hnx ht
        go_wp2_with fail
        go_ret2
        refine ⟨_, rfl, owns_base ?_ (show w.heap.size ≤ w.heap.size + 1 by omega), HX.out⟩
        have h := HO.out
        rw [HET.out] at h
        exact h
end Go.Proofs.YtfdkmmllemkogaaGreatDoor
