/-
  Telegrams; the contract of Received for a stream of frames of telegrams whose numbers are in their ranges: these telegrams, nothing skipped, no error.
-/
import Derived.Test.YtfdkmmllemkogaaOWu
import Derived.Test.YtfdkmmllemkogaaOWk
namespace Go.Proofs.Ytfdkmmllemkogaa
open Go.RowKit
set_option linter.unusedVariables false

/-- A telegram's numbers. -/
structure Tel where
  s : Int
  c : Int
  o : Int
  x : Int
  y : Int
  z : Int
def Tel.Good (t : Tel) : Prop := GoodT t.s t.c t.o t.x t.y t.z
def Tel.val (t : Tel) : List Value := [.int .i64 t.s, .int .i64 t.c, .int .i64 t.o, .int .i64 t.x, .int .i64 t.y, .int .i64 t.z]
def Tel.bytes (t : Tel) : List Value := (frame t.s t.c t.o t.x t.y t.z).map (Value.int .u8)
theorem Tel.val_len (t : Tel) : t.val.length = 6 := rfl
def tel0 : Tel := ⟨0, 0, 0, 0, 0, 0⟩

theorem owns_kept {w w' : World} {B T sz n N : Nat} {v : Value} {xs : List Value} (h : w.ownsRow B T sz v n xs) (hb : Below N w w') (hN : w.heap.size ≤ N) : w'.ownsRow B T sz v n xs := by
  refine ⟨h.1, ?_⟩
  rcases h.2 with h | ⟨g, cap, cur, h1, h2, h3, h4⟩
  · exact .inl h
  · exact .inr ⟨g, cap, cur, h1, h2, (hb.block g (by have := (Array.getElem?_eq_some_iff.1 h3).1; omega)).trans h3, h4⟩

theorem flat_take_succ (L : List Tel) (k : Nat) (hk : k < L.length) : (L.take (k + 1)).flatMap Tel.val = (L.take k).flatMap Tel.val ++ (L[k]?.getD tel0).val := by
  rw [List.take_succ_eq_append_getElem hk, List.flatMap_append, List.getElem?_eq_getElem hk]; simp

theorem Try.infoTel : (Try.prog.info? 35).map (fun i => (i.zero, i.size, i.bytes)) = some (some (.agg #[.int .i64 0, .int .i64 0, .int .i64 0, .int .i64 0, .int .i64 0, .int .i64 0]), 6, 48) := by kernel_rfl

theorem cells_new6 (w : World) (T : TypeId) (a b c d e f : Value) : ∀ j u, [a, b, c, d, e, f][j]? = some u → (w.alloc (.cells #[a, b, c, d, e, f] T)).cell? ((⟨w.heap.size, 0, none⟩ : Addr).add j) = some u := fun j u h => by
  rw [Addr.add_mid, cell_of_row _ w.heap.size (0 + j) _ _ (0, 0) (heap_alloc_new w _)]
  simpa using h

theorem cells_new6' (w : World) (o : Obj) (T : TypeId) (a b c d e f : Value) : ∀ j u, [a, b, c, d, e, f][j]? = some u → ((w.alloc o).alloc (.cells #[a, b, c, d, e, f] T)).cell? ((⟨w.heap.size + 1, 0, none⟩ : Addr).add j) = some u := fun j u h => by
  have := cells_new6 (w.alloc o) T a b c d e f j u h
  simpa using this
theorem telegramAt_tel (t : Tel) (h : t.Good) (b q n cp k : Nat) (hk : k + 24 ≤ n) (hn : n ≤ 12288) (hcp : n ≤ cp) (hcq : cp ≤ 9223372036854775807) (w : World) (hb : b < w.heap.size) (hc : w.rangeAt b (q + k) t.bytes) :
    Calls Try.prog 24 #[.slice (some ⟨b, q, none⟩) n cp, .int .i64 k] w fun e w' =>
      e = .returned (.tuple #[.agg #[.int .i64 t.s, .int .i64 t.c, .int .i64 t.o, .int .i64 t.x, .int .i64 t.y, .int .i64 t.z], .bool true]) ∧ Below w.heap.size w w' := by
  unfold Tel.bytes at hc
  exact telegramAt_any _ _ _ _ _ _ h b q n cp k hk hn hcp hcq w hb hc

set_option maxRecDepth 100000 in
set_option maxHeartbeats 3200000 in
theorem received_any (L : List Tel) (hg : ∀ t ∈ L, t.Good) (b q n cp : Nat) (hn : n = 24 * L.length) (hm : n ≤ 12288) (hcp : n ≤ cp) (hcq : cp ≤ 9223372036854775807) (w : World) (hb : b < w.heap.size)
    (hc : ∀ k, k < L.length → w.rangeAt b (q + 24 * k) (L[k]?.getD tel0).bytes) :
    Calls Try.prog 8 #[.slice (some ⟨b, q, none⟩) n cp] w fun e w' =>
      ∃ v, e = .returned (.tuple #[v, .slice none 0 0, .int .i64 0]) ∧ w'.ownsRow w.heap.size 35 6 v L.length (L.flatMap Tel.val) ∧ Below w.heap.size w w' := by
  obtain ⟨i0, hi, hz0, hz1, hz2⟩ := info_parts Try.infoTel
  have HC := Lib.hid hc
  have HG := Lib.hid hg
  have i1 : ((n : Int) ≤ 12288) := by omega
  have HN := Lib.hid hn
  clear hc hg hn
  go_enter Try.func8, Try.ntmps8
  go_wp2
  go_loopw [5, 6, 7] (fun out sk i wr => ∃ k m : Nat, k ≤ L.length ∧ m = 24 * k ∧ i = .int .i64 m ∧ sk = .slice none 0 0 ∧ wr.ownsRow w.heap.size 35 6 out k ((L.take k).flatMap Tel.val) ∧ Below w.heap.size w wr)
    (fun _ _ i _ => n - (intOf i).toNat)
  case atStart => exact ⟨0, 0, Nat.zero_le _, rfl, rfl, rfl, World.ownsRow_nil _ _ _ _, Below.refl _ _⟩
  case round =>
    obtain ⟨k, m, hk, hmk, rfl, rfl, hown, hnx⟩ := hrel
    have hsz : w.heap.size ≤ wr.heap.size := hnx.size
    have hn := HN.out
    by_cases hlt : k < L.length
    · have hi1 : ((m : Int) < (n : Int)) := by omega
      have hi2 : ((m : Int) + 24 ≤ 12288) := by omega
      have hS := flat_take_succ L k hlt
      have hc0 := HC.out k hlt
      have hT : (L[k]?.getD tel0).Good := by
        rw [List.getElem?_eq_getElem hlt]; exact HG.out _ (List.getElem_mem hlt)
      obtain ⟨t, ht⟩ : ∃ t, L[k]?.getD tel0 = t := ⟨_, rfl⟩
      rw [ht] at hT hc0 hS
      have hr : wr.rangeAt b (q + m) t.bytes := fun j v hv => by
        rw [hnx.cell (by exact hb), hmk]
        exact hc0 j v hv
      have K := Lib.hid (telegramAt_tel t hT b q n cp m (by omega) hm hcp hcq wr (by omega) hr)
      have HS := Lib.hid hS
      have HMK := Lib.hid hmk
      have hkm : k ≤ 512 := by omega
      clear ht hr hc0 hS hmk hn
      clear hT
      go_wp2_with (first
        | (go_at_call 24; refine K.out.mono ?_; rintro e w2 ⟨rfl, hb2⟩
           have hown2 := owns_kept hown hb2 (Nat.le_refl _)
           have hs2 := hb2.size)
        | (at_builtin; refine wpList_append_own _ rfl (.tmp 24) (.tmp 26) 40 rfl w.heap.size 35 i0 (.agg #[.int .i64 0, .int .i64 0, .int .i64 0, .int .i64 0, .int .i64 0, .int .i64 0]) 6 48 Try.underlying40 hi hz0 hz1 hz2 rfl (by decide) _ k _ rfl ((hown2.alloc _).alloc _) ⟨w2.heap.size + 1, 0, none⟩ 1 1 t.val rfl rfl (cells_new6' _ _ _ _ _ _ _ _ _) (by intro u hu; simp [Tel.val] at hu; rcases hu with rfl | rfl | rfl | rfl | rfl | rfl <;> rfl) (by unfold maxLen; omega) (by omega) (by simp; omega) ?_; intro v' w3 hown3 hgrow3 _))
      have hlt' := hown2.lt
      have hB2 : Below w.heap.size w w2 := hnx.trans (hb2.mono hsz)
      go_roundw
      case rel => exact ⟨k + 1, m + 24, by omega, by have := HMK.out; omega, by go_num, rfl, by rw [HS.out]; exact hown3, ((hB2.alloc (by omega) _).alloc (by simp; omega) _).grown hgrow3 (by simp; omega) (fun j hj => (hlt' j hj).1)⟩
      case measure => simp [intOf]; omega
    · have hi3 : ¬ ((m : Int) < (n : Int)) := by omega
      clear hn hmk
      go_wp2
      obtain rfl : k = L.length := by omega
      rw [List.take_length] at hown
      refine bodyPost_ret (v := .tuple #[u5, .slice none 0 0, .int .i64 0]) (by simp [results, Try.results8, go_sem]) rfl ⟨_, rfl, hown, hnx⟩
end Go.Proofs.Ytfdkmmllemkogaa

/-
  Contracts of countersOf and of mapped at telegrams.
-/
namespace Go.Proofs.Ytfdkmmllemkogaa
open Go.RowKit
set_option linter.unusedVariables false

/-- These telegrams lie at an address. -/
def TelsAt (w : World) (b q : Nat) (L : List Tel) : Prop := ∀ k, k < L.length → w.rangeAt b (q + k * 6) (L[k]?.getD tel0).val
theorem TelsAt.kept {w w' : World} {b q B : Nat} {L : List Tel} (h : TelsAt w b q L) (hb : Below B w w') (hB : b < B) : TelsAt w' b q L := fun k hk j v hv => by
  rw [hb.cell (by exact hB)]; exact h k hk j v hv
/-- The counters of a station's telegrams. -/
def countsOf (L : List Tel) (st : Int) : List Int := (L.filter (fun t => t.s == st)).map (·.c)
theorem countsOf_succ (L : List Tel) (st : Int) (k : Nat) (hk : k < L.length) : countsOf (L.take (k + 1)) st = if (L[k]?.getD tel0).s = st then countsOf (L.take k) st ++ [(L[k]?.getD tel0).c] else countsOf (L.take k) st := by
  rw [List.take_succ_eq_append_getElem hk, List.getElem?_eq_getElem hk]
  simp only [countsOf, List.filter_append, List.map_append, Option.getD_some]
  split
  · rename_i h; simp [h]
  · rename_i h; simp [h]
theorem counts_len (L : List Tel) (st : Int) : (countsOf L st).length ≤ L.length := by
  simp only [countsOf, List.length_map]; exact List.length_filter_le _ _

set_option maxRecDepth 100000 in
set_option maxHeartbeats 3200000 in
theorem countersOf_any (L : List Tel) (b q n cp : Nat) (st : Int) (hn : n = L.length) (hm : n ≤ 512) (w : World) (hb : b < w.heap.size) (hc : TelsAt w b q L) :
    Calls Try.prog 30 #[.slice (some ⟨b, q, none⟩) n cp, .int .i64 st] w fun e w' =>
      ∃ v, e = .returned v ∧ w'.ownsRow w.heap.size 3 1 v (countsOf L st).length ((countsOf L st).map (Value.int .i64)) ∧ Below w.heap.size w w' := by
  obtain ⟨i0, hi, hz0, hz1, hz2⟩ := info_parts Try.infoInt
  have HC := Lib.hid hc
  have HN := Lib.hid hn
  clear hc hn
  have s35 : (Try.prog.info? 35).map (·.size) = some 6 := by kernel_rfl
  go_enter Try.func30, Try.ntmps30
  go_wp2
  go_loopw [5, 10] (fun out i wr => ∃ k : Nat, k ≤ n ∧ i = .int .i64 k ∧ wr.ownsRow w.heap.size 3 1 out (countsOf (L.take k) st).length ((countsOf (L.take k) st).map (Value.int .i64)) ∧ Below w.heap.size w wr)
    (fun _ i _ => n - (intOf i).toNat)
  case atStart => exact ⟨0, Nat.zero_le _, rfl, World.ownsRow_nil _ _ _ _, Below.refl _ _⟩
  case round =>
    obtain ⟨k, hk, rfl, hown, hnx⟩ := hrel
    have hsz : w.heap.size ≤ wr.heap.size := hnx.size
    by_cases hlt : k < n
    · have hT := HC.out k (by have := HN.out; omega)
      have hS := countsOf_succ L st k (by have := HN.out; omega)
      obtain ⟨t, ht⟩ : ∃ t, L[k]?.getD tel0 = t := ⟨_, rfl⟩
      rw [ht] at hT hS
      have hr : wr.rangeAt b (q + k * 6) t.val := fun j v hv => by
        rw [hnx.cell (by exact hb)]
        exact hT j v hv
      have HR := Lib.hid hr
      have HS := Lib.hid hS
      clear ht hr hT hS
      have hv : t.val = [.int .i64 t.s, .int .i64 t.c, .int .i64 t.o, .int .i64 t.x, .int .i64 t.y, .int .i64 t.z] := rfl
      have hcl := counts_len (L.take k) st
      have hcl2 : (L.take k).length ≤ k := by simp; omega
      by_cases hst : t.s = st
      · have HST := Lib.hid hst
        have hst1 : (t.s == st) = true := by simp [hst]
        clear hst
        go_wp2_with (first
          | (refine wpList_load_mid rfl 35 (.tmp 12) rfl b (q + k * 6) rfl t.val _ HR.out Try.underlying35 rfl (by rw [s35]; rfl) ?_)
          | (at_builtin; refine wpList_append_own _ rfl (.tmp 18) (.tmp 21) 29 rfl w.heap.size 3 i0 (.int .i64 0) 1 8 Try.underlying29 hi hz0 hz1 hz2 rfl (by decide) _ _ _ rfl ((hown.alloc _).alloc _) ⟨wr.heap.size + 1, 0, none⟩ 1 1 [.int .i64 t.c] rfl rfl (by have h := cell_one_new (wr.alloc (.cells #[.int .i64 t.s, .int .i64 t.c, .int .i64 t.o, .int .i64 t.x, .int .i64 t.y, .int .i64 t.z] 35)) (.int .i64 t.c) 3; simpa using h) (by intro u hu; simp at hu; subst hu; rfl) (by unfold maxLen; omega) (by omega) (by simp; omega) ?_; intro v' w3 hown3 hgrow3 _))
        have hlt' := hown.lt
        go_roundw
        case rel => exact ⟨k + 1, by omega, by go_num, by rw [HS.out, if_pos HST.out, List.map_append, List.length_append]; exact hown3, ((hnx.alloc hsz _).alloc (by simp; omega) _).grown hgrow3 (by simp; omega) (fun j hj => (hlt' j hj).1)⟩
        case measure => simp [intOf]; omega
      · go_wp2_with (first
          | (refine wpList_load_mid rfl 35 (.tmp 12) rfl b (q + k * 6) rfl t.val _ HR.out Try.underlying35 rfl (by rw [s35]; rfl) ?_))
        go_roundw
        case rel => exact ⟨k + 1, by omega, by go_num, by rw [HS.out, if_neg hst]; exact hown.alloc _, hnx.alloc hsz _⟩
        case measure => simp [intOf]; omega
    · go_wp2
      go_ret
      obtain rfl : k = n := by omega
      rw [List.take_of_length_le (by have := HN.out; omega)] at hown
      exact ⟨_, rfl, hown, hnx⟩
end Go.Proofs.Ytfdkmmllemkogaa
