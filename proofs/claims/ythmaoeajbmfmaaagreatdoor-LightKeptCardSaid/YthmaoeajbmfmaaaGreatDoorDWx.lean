/-
  Contract of mapped at telegrams, with the check of a telegram: of right telegrams, as many zeros.
-/
import Derived.Test.YthmaoeajbmfmaaaGreatDoorDWt
import Derived.WalkMore
namespace Go.Proofs.YthmaoeajbmfmaaaGreatDoor
open Go.RowKit
set_option linter.unusedVariables false

theorem checkTelegram_tel (t : Tel) (h : t.Good) (w : World) :
    Calls Tryz.prog 76 #[.agg #[.int .i64 t.s, .int .i64 t.c, .int .i64 t.o, .int .i64 t.x, .int .i64 t.y, .int .i64 t.z]] w fun e w' =>
      e = .returned (.int .i64 0) ∧ Below w.heap.size w w' := checkTelegram_any _ _ _ _ _ _ h w

set_option maxRecDepth 100000 in
set_option maxHeartbeats 3200000 in
theorem mapped_tel (L : List Tel) (hg : ∀ t ∈ L, t.Good) (b q n cp : Nat) (hn : n = L.length) (hm : n ≤ 512) (w : World) (hb : b < w.heap.size) (hc : TelsAt w b q L) :
    Calls Tryz.prog 139 #[.slice (some ⟨b, q, none⟩) n cp, .func (.func 76) #[] #[]] w fun e w' =>
      e = .returned (.slice (some ⟨w.heap.size, 0, none⟩) n n) ∧ w'.ownsRow w.heap.size 27 1 (.slice (some ⟨w.heap.size, 0, none⟩) n n) n (List.replicate n (Value.int .i64 0)) ∧ Below w.heap.size w w' := by
  obtain ⟨i0, hi, hz0, hz1, hz2⟩ := info_parts Tryz.info27_check
  have HC := Lib.hid hc
  have HN := Lib.hid hn
  have HG := Lib.hid hg
  clear hc hn hg
  have s35 : (Tryz.prog.info? 48).map (·.size) = some 6 := by kernel_rfl
  go_enter Tryz.func139, Tryz.ntmps139
  go_wp2_with (at_make; refine wpList_make_own _ rfl _ _ 130 rfl w.heap.size 27 i0 (.int .i64 0) 1 Tryz.underlying130 hi hz0 hz1 _ _ _ n rfl rfl (by omega) ?b2 ?b3 (Nat.le_refl _) ?_)
  case b2 => rw [hz2]; omega
  case b3 => unfold maxLen; omega
  intro w0 hown0 hgrow0
  go_wp2
  go_loopw [5, 13] (fun out i wr => ∃ k : Nat, k ≤ n ∧ i = .int .i64 k ∧ out = .slice (some ⟨w.heap.size, 0, none⟩) k n ∧
      wr.ownsRow w.heap.size 27 1 (.slice (some ⟨w.heap.size, 0, none⟩) k n) k (List.replicate k (Value.int .i64 0)) ∧ Below w.heap.size w wr)
    (fun _ i _ => n - (intOf i).toNat)
  case atStart => exact ⟨0, Nat.zero_le _, rfl, rfl, hown0, (Below.refl _ _).grown hgrow0 (Nat.le_refl _) (fun k h => by cases h)⟩
  case round =>
    obtain ⟨k, hk, rfl, rfl, hown, hnx⟩ := hrel
    have hsz := hnx.size
    by_cases hlt : k < n
    · have hlt2 : k < L.length := by have := HN.out; omega
      have hT := HC.out k hlt2
      have hG : (L[k]?.getD tel0).Good := by
        rw [List.getElem?_eq_getElem hlt2]; exact HG.out _ (List.getElem_mem hlt2)
      obtain ⟨t, ht⟩ : ∃ t, L[k]?.getD tel0 = t := ⟨_, rfl⟩
      rw [ht] at hT hG
      have hr : wr.rangeAt b (q + k * 6) t.val := fun j v hv => by
        rw [hnx.cell (by exact hb)]
        exact hT j v hv
      have HR := Lib.hid hr
      have K := Lib.hid (checkTelegram_tel t hG)
      clear ht hr hT hG hlt2
      have hv : t.val = [.int .i64 t.s, .int .i64 t.c, .int .i64 t.o, .int .i64 t.x, .int .i64 t.y, .int .i64 t.z] := rfl
      go_wp2_with (first
        | (refine wpList_load_mid rfl 48 (.tmp 15) rfl b (q + k * 6) rfl t.val _ HR.out Tryz.underlying48 rfl (by rw [s35]; rfl) ?_)
        | (go_at_call 76; refine (K.out _).mono ?_; rintro e w2 ⟨rfl, hb2⟩
           have hown2 := owns_kept (hown.alloc _) hb2 (Nat.le_refl _)
           have hs2 : wr.heap.size + 1 ≤ w2.heap.size := by simpa using hb2.size)
        | (at_builtin; refine wpList_append_fits _ rfl (.tmp 17) (.tmp 21) 130 rfl w.heap.size 27 i0 1 Tryz.underlying130 hi hz1 w.heap.size k n _ rfl (hown2.alloc _) ⟨w2.heap.size, 0, none⟩ 1 1 [.int .i64 0] rfl rfl (cell_one_new _ _ _) (by intro u hu; simp at hu; subst hu; rfl) (by omega) ?_; intro w1 hown1 hgrow1))
      have hB2 : Below w.heap.size w w2 := (hnx.alloc hsz _).trans (hb2.mono (by simp; omega))
      go_roundw
      case rel => exact ⟨k + 1, by omega, by go_num, rfl, by rw [List.replicate_succ']; exact hown1, (hB2.alloc (by omega) _).grown hgrow1 (by simp; omega) (fun j hj => by cases hj; exact Nat.le_refl _)⟩
      case measure => simp [intOf]; omega
    · go_wp2
      go_ret
      obtain rfl : k = n := by omega
      exact ⟨rfl, hown, hnx⟩
end Go.Proofs.YthmaoeajbmfmaaaGreatDoor

/-
  Contract of missing for ascending counters: the counters between each one and the next.
-/
namespace Go.Proofs.YthmaoeajbmfmaaaGreatDoor
open Go.RowKit
set_option linter.unusedVariables false

/-- The integers between two. -/
def gap (a b : Int) : List Int := (List.range (b - a - 1).toNat).map (fun j : Nat => a + 1 + (j : Int))
/-- The integers between each of the first k and the next one. -/
def gapsTo (xs : List Int) (k : Nat) : List Int := (List.range k).flatMap (fun i => gap (xs[i]?.getD 0) (xs[i + 1]?.getD 0))
theorem gapsTo_succ (xs : List Int) (k : Nat) : gapsTo xs (k + 1) = gapsTo xs k ++ gap (xs[k]?.getD 0) (xs[k + 1]?.getD 0) := by
  simp [gapsTo, List.range_succ]
theorem gap_len (a b : Int) : (gap a b).length = (b - a - 1).toNat := by simp [gap]

/-- Ascending counters from 0 to 200. -/
structure Asc (xs : List Int) (n : Nat) : Prop where
  len : xs.length = n
  bd : ∀ j, j < n → 0 ≤ xs[j]?.getD 0 ∧ xs[j]?.getD 0 ≤ 200
  up : ∀ j, j + 1 < n → xs[j]?.getD 0 < xs[j + 1]?.getD 0
theorem gapsTo_len {xs : List Int} {n : Nat} (h : Asc xs n) : ∀ k, k < n → ((gapsTo xs k).length : Int) ≤ xs[k]?.getD 0
  | 0, hk => by have := h.bd 0 hk; simp [gapsTo]; omega
  | k + 1, hk => by
    have ih := gapsTo_len h k (by omega)
    have hu := h.up k hk
    rw [gapsTo_succ, List.length_append, gap_len]
    omega

theorem owns_slice {w : World} {B T sz n : Nat} {v : Value} {xs : List Value} (h : w.ownsRow B T sz v n xs) : ∃ ao c, v = .slice ao n c := by
  rcases h.2 with ⟨h, h0⟩ | ⟨g, cap, cur, h, _⟩
  · exact ⟨none, 0, by rw [h, h0]⟩
  · exact ⟨_, _, h⟩

theorem missing_none (ao : Option Addr) (c : Nat) (w : World) :
    Calls Tryz.prog 140 #[.slice ao 0 c, .int .i64 257] w fun e w' => e = .returned (.slice none 0 0) ∧ w = w' := by
  go_enter Tryz.func140, Tryz.ntmps140
  go_wp2
  go_step3
  go_wp2
  go_step3
  go_wp2
  refine wp_loop_rounds 1 ?_
  rw [rounds_succ]
  go_wp2
  try rw [Exit.noGoto_ret]
  go_ret
  exact ⟨rfl, rfl⟩

set_option maxRecDepth 100000 in
set_option maxHeartbeats 3200000 in
theorem missing_any (xs : List Int) (n g c : Nat) (hA : Asc xs n) (hn1 : 1 ≤ n) (hm : n ≤ 512) (w : World) (hg : g < w.heap.size) (hc : ∀ j, j < n → w.cell? ⟨g, j, none⟩ = some (.int .i64 (xs[j]?.getD 0))) :
    Calls Tryz.prog 140 #[.slice (some ⟨g, 0, none⟩) n c, .int .i64 257] w fun e w' =>
      ∃ v, e = .returned v ∧ w'.ownsRow w.heap.size 3 1 v (gapsTo xs (n - 1)).length ((gapsTo xs (n - 1)).map (Value.int .i64)) ∧ Below w.heap.size w w' := by
  obtain ⟨i0, hi, hz0, hz1, hz2⟩ := info_parts Tryz.infoInt
  have HC := Lib.hid hc
  have HA := Lib.hid hA
  clear hc hA
  have j1 : ((1 : Int) ≤ (n : Int)) := by omega
  have j2 : ((n : Int) ≤ 512) := by omega
  go_enter Tryz.func140, Tryz.ntmps140
  go_wp2
  go_step3
  go_wp2
  go_step3
  go_wp2
  go_loopw [5, 13] (fun out i wr => ∃ k : Nat, k ≤ n - 1 ∧ i = .int .i64 k ∧ wr.ownsRow w.heap.size 3 1 out (gapsTo xs k).length ((gapsTo xs k).map (Value.int .i64)) ∧ Below w.heap.size w wr)
    (fun _ i _ => n - (intOf i).toNat)
  case atStart => exact ⟨0, Nat.zero_le _, rfl, World.ownsRow_nil _ _ _ _, Below.refl _ _⟩
  case round =>
    obtain ⟨k, hk, rfl, hown, hnx⟩ := hrel
    have hsz := hnx.size
    by_cases hlt : k + 1 < n
    · have c0 : wr.cell? ⟨g, k, none⟩ = some (.int .i64 (xs[k]?.getD 0)) := (hnx.cell (by exact hg)).trans (HC.out k (by omega))
      have c1 : wr.cell? ⟨g, k + 1, none⟩ = some (.int .i64 (xs[k + 1]?.getD 0)) := (hnx.cell (by exact hg)).trans (HC.out (k + 1) hlt)
      have hb0 := HA.out.bd k (by omega)
      have hb1 := HA.out.bd (k + 1) hlt
      have hup := HA.out.up k hlt
      have hlen := gapsTo_len HA.out k (by omega)
      have hS := gapsTo_succ xs k
      obtain ⟨a, ha⟩ : ∃ a, xs[k]?.getD 0 = a := ⟨_, rfl⟩
      obtain ⟨b, hb⟩ : ∃ b, xs[k + 1]?.getD 0 = b := ⟨_, rfl⟩
      obtain ⟨pre, hpre⟩ : ∃ pre, gapsTo xs k = pre := ⟨_, rfl⟩
      rw [ha] at c0 hb0 hup hlen hS
      rw [hb] at c1 hb1 hup hS
      rw [hpre] at hown hlen hS
      have HS := Lib.hid hS
      clear ha hb hpre hS
      have hltI : ((k : Int) < (n : Int) - 1) := by omega
      have k0 : ((k : Int) < (n : Int)) := by omega
      have k1 : ((k : Int) + 1 < (n : Int)) := by omega
      have k2 : ((0 : Int) ≤ (k : Int) + 1) := by omega
      have k3 : ((k : Int) + 1).toNat = k + 1 := by omega
      have k4 : IntKind.i64.wrap ((k : Int) + 1) = (k : Int) + 1 := IntWalk.i64_in _ ⟨by omega, by omega⟩
      go_wp2_with fail
      go_region_held3 (fun w' => w'.cell? ⟨g, k, none⟩ = some (.int .i64 a) ∧ w'.cell? ⟨g, k + 1, none⟩ = some (.int .i64 b)) (go_keep) (fail)
      have hf : (a + 1) % 65536 = a + 1 := by omega
      go_wp2_with (go_at_call 167; refine (following_any _ hb0.1 (by omega) _).mono ?_; rintro e w' ⟨rfl, rfl⟩)
      obtain ⟨Wd, hWd⟩ : ∃ Wd, wr.drew = Wd := ⟨_, rfl⟩
      have hownd : Wd.ownsRow w.heap.size 3 1 u5 pre.length (pre.map (Value.int .i64)) := by rw [← hWd]; exact hown
      have hBd : Below w.heap.size w Wd := by rw [← hWd]; exact hnx.drew
      rw [hWd]
      clear hWd hown c0 c1
      go_loopw [5, 9] (fun out i wi => ∃ j : Nat, (j : Int) ≤ b - a - 1 ∧ i = .int .i64 (a + 1 + j) ∧ wi.ownsRow w.heap.size 3 1 out (pre.length + j) ((pre ++ (List.range j).map (fun j : Nat => a + 1 + (j : Int))).map (Value.int .i64)) ∧ Below w.heap.size w wi)
        (fun _ i _ => (b - intOf i).toNat)
      case atStart => exact ⟨0, by omega, by simp, by simpa using hownd, hBd⟩
      case round =>
        obtain ⟨j, hj, rfl, hown, hnx2⟩ := hrel
        have hsz2 := hnx2.size
        by_cases hjl : (j : Int) < b - a - 1
        · have hne : ((a + 1 + (j : Int)) != b) = true := by simp; omega
          obtain ⟨ℓ, hℓ⟩ : ∃ ℓ, pre.length + j = ℓ := ⟨_, rfl⟩
          have hℓ2 : ℓ ≤ 200 := by omega
          have hℓ3 : ((ℓ : Int) == 257) = false := by simp; omega
          rw [hℓ] at hown
          obtain ⟨ao, cc, rfl⟩ := owns_slice hown
          have hf2 : (a + 1 + (j : Int) + 1) % 65536 = a + 1 + (j : Int) + 1 := by omega
          have hj1 : (((j + 1 : Nat)) : Int) ≤ b - a - 1 := by omega
          have HL := Lib.hid hℓ
          have HJ1 := Lib.hid hj1
          clear hℓ hjl hj1
          go_wp2_with (first
            | (go_at_call 167; refine (following_any _ (by omega) (by omega) _).mono ?_; rintro e w' ⟨rfl, rfl⟩)
            | (at_builtin; refine wpList_append_own _ rfl (.tmp 36) (.tmp 38) 122 rfl w.heap.size 3 i0 (.int .i64 0) 1 8 Tryz.underlying122 hi hz0 hz1 hz2 rfl (by decide) _ _ _ rfl (hown.alloc _) ⟨wr.heap.size, 0, none⟩ 1 1 [.int .i64 (a + 1 + (j : Int))] rfl rfl (cell_one_new _ _ _) (by intro u hu; simp at hu; subst hu; rfl) (by unfold maxLen; omega) (by omega) (by simp; omega) ?_; intro v' w3 hown3 hgrow3 _))
          have hlt' := hown.lt
          go_roundw
          case rel =>
            refine ⟨j + 1, HJ1.out, by push_cast; go_num, ?_, (hnx2.alloc hsz2 _).grown hgrow3 (by simp; omega) (fun q hq => (hlt' q hq).1)⟩
            have e : (pre ++ (List.range (j + 1)).map (fun j : Nat => a + 1 + (j : Int))).map (Value.int .i64) = (pre ++ (List.range j).map (fun j : Nat => a + 1 + (j : Int))).map (Value.int .i64) ++ [.int .i64 (a + 1 + (j : Int))] := by simp [List.range_succ]
            rw [e, show pre.length + (j + 1) = ℓ + 1 by have := HL.out; omega]
            exact hown3
          case measure => have := HJ1.out; simp [intOf]; omega
        · have hje : a + 1 + (j : Int) = b := by omega
          have hne : ((a + 1 + (j : Int)) != b) = false := by simp [hje]
          have HJ := Lib.hid hje
          clear hje hjl
          go_wp2
          go_roundw
          case rel =>
            refine ⟨k + 1, by omega, by go_num, ?_, hnx2⟩
            have e : (b - a - 1).toNat = j := by have := HJ.out; omega
            rw [HS.out, gap, e]
            simpa using hown
          case measure => simp [intOf]; omega
    · have hltI : ¬ ((k : Int) < (n : Int) - 1) := by omega
      go_wp2
      try rw [Exit.noGoto_ret]
      go_ret
      obtain rfl : k = n - 1 := by omega
      exact ⟨_, rfl, hown, hnx⟩
end Go.Proofs.YthmaoeajbmfmaaaGreatDoor

/-
  Contract of Lost for telegrams whose numbers are in their ranges and a station whose counters ascend.
-/
namespace Go.Proofs.YthmaoeajbmfmaaaGreatDoor
open Go.RowKit
set_option linter.unusedVariables false

theorem owns_some {w : World} {B T sz n : Nat} {v : Value} {xs : List Value} (h : w.ownsRow B T sz v n xs) (hn : 1 ≤ n) : ∃ g c, v = .slice (some ⟨g, 0, none⟩) n c ∧ g < w.heap.size ∧ B ≤ g := by
  rcases h.2 with ⟨_, h0⟩ | ⟨g, cap, cur, h, h2, h3, _⟩
  · omega
  · exact ⟨g, cap, h, (Array.getElem?_eq_some_iff.1 h3).1, h2⟩


/-- missing at a slice that owns ascending counters, or at none. -/
theorem missing_own (xs : List Int) (n : Nat) (hA : Asc xs n) (hm : n ≤ 512) (w : World) (B : Nat) (v : Value) (h : w.ownsRow B 3 1 v n (xs.map (Value.int .i64))) :
    Calls Tryz.prog 140 #[v, .int .i64 257] w fun e w' =>
      ∃ v', e = .returned v' ∧ w'.ownsRow w.heap.size 3 1 v' (gapsTo xs (n - 1)).length ((gapsTo xs (n - 1)).map (Value.int .i64)) ∧ Below w.heap.size w w' := by
  by_cases hn : 1 ≤ n
  · obtain ⟨g, c, rfl, hg, _⟩ := owns_some h hn
    exact missing_any xs n g c hA hn hm w hg (fun j hj => owns_cell h (by
      rw [List.getElem?_map, List.getElem?_eq_getElem (by rw [hA.len]; exact hj)]; rfl))
  · obtain rfl : n = 0 := by omega
    have hx : xs = [] := List.length_eq_zero_iff.1 hA.len
    subst hx
    obtain ⟨ao, c, rfl⟩ := owns_slice h
    exact (missing_none ao c w).mono fun e w' ⟨he, hw⟩ => ⟨_, he, by subst hw; exact World.ownsRow_nil _ _ _ _, by subst hw; exact Below.refl _ _⟩

set_option maxRecDepth 100000 in
set_option maxHeartbeats 3200000 in
theorem lost_any (L : List Tel) (hg : ∀ t ∈ L, t.Good) (b q n cp : Nat) (st : Int) (hs : 0 ≤ st ∧ st ≤ 255) (hn : n = L.length) (hm : n ≤ 512) (w : World) (hb : b < w.heap.size) (hc : TelsAt w b q L)
    (hA : Asc (countsOf L st) (countsOf L st).length) (hlen : (gapsTo (countsOf L st) ((countsOf L st).length - 1)).length ≤ 256) :
    Calls Tryz.prog 57 #[.slice (some ⟨b, q, none⟩) n cp, .int .i64 st] w fun e w' =>
      ∃ v, e = .returned (.tuple #[v, .int .i64 0]) ∧ w'.ownsRow w.heap.size 3 1 v (gapsTo (countsOf L st) ((countsOf L st).length - 1)).length ((gapsTo (countsOf L st) ((countsOf L st).length - 1)).map (Value.int .i64)) ∧ Below w.heap.size w w' := by
  obtain ⟨i0, hi, hz0, hz1, hz2⟩ := info_parts Tryz.info27_check
  have K1 := Lib.hid (mapped_tel L hg b q n cp hn hm w hb hc)
  have K2 := Lib.hid (fun (w' : World) (h1 : b < w'.heap.size) (h2 : TelsAt w' b q L) => countersOf_any L b q n cp st hn hm w' h1 h2)
  have hcl := counts_len L st
  have K3 := Lib.hid (fun (w' : World) (B : Nat) (v : Value) h => missing_own (countsOf L st) _ hA (by omega) w' B v h)
  have HC := Lib.hid hc
  have hst : rangeErr st 0 255 = 0 := rangeErr_in hs.1 hs.2
  have i1 : ((n : Int) ≤ 512) := by omega
  obtain ⟨R, hR⟩ : ∃ R, gapsTo (countsOf L st) ((countsOf L st).length - 1) = R := ⟨_, rfl⟩
  rw [hR] at K3 hlen ⊢
  have i2 : ((R.length : Int) ≤ 256) := by omega
  clear hg hc hA hn hR hcl hs
  go_enter Tryz.func57, Tryz.ntmps57
  go_wp2_with (first
    | (go_at_call 139; refine K1.out.mono ?_; rintro e w1 ⟨rfl, hown1, hb1⟩)
    | (go_at_call 127; refine (checkRange_any _ _ _ _).mono ?_; rintro e w' ⟨rfl, rfl⟩)
    | (at_builtin; refine wpList_append_own _ rfl (.tmp 12) (.tmp 15) 130 rfl w.heap.size 27 i0 (.int .i64 0) 1 8 Tryz.underlying130 hi hz0 hz1 hz2 rfl (by decide) _ n _ rfl (hown1.alloc _) ⟨w1.heap.size, 0, none⟩ 1 1 [.int .i64 0] rfl rfl (cell_one_new _ _ _) (by intro u hu; simp at hu; subst hu; rfl) (by unfold maxLen; omega) (by omega) (by have := hb1.size; simp; omega) ?_; intro v' w3 hown3 hgrow3 _
       obtain ⟨g, c', rfl, hgl, _⟩ := owns_some hown3 (by omega)
       have hb3 : Below w.heap.size w w3 := (hb1.alloc hb1.size _).grown hgrow3 (by have := hb1.size; simp; omega) (fun j hj => by cases hj; exact Nat.le_refl _)
       have hz : ∀ j, j < n + 1 → w3.cell? ⟨g, 0 + j, none⟩ = some (.int .i64 0) := fun j hj => by
         rw [Nat.zero_add]
         refine owns_cell hown3 ?_
         rw [← List.replicate_succ']; simp [hj]
       have HZ := Lib.hid hz
       have hw3 := hb3.size
       have hc3 := HC.out.kept hb3 hb
       have K4 := Lib.hid (K2.out w3 (by omega) hc3)
       clear hz hc3 hown3 hgrow3 hown1 hb1)
    | (go_at_call 60; refine (first_zeros _ 0 _ _ (by omega) _ HZ.out).mono ?_; rintro e w' ⟨rfl, rfl⟩)
    | (go_at_call 141; refine K4.out.mono ?_; rintro e w4 ⟨v4, rfl, hown4, hb4⟩
       have K5 := Lib.hid (K3.out w4 _ _ hown4)
       have hb5 : Below w.heap.size w w4 := hb3.trans (hb4.mono hw3))
    | (go_at_call 140; refine K5.out.mono ?_; rintro e w6 ⟨v6, rfl, hown6, hb6⟩
       obtain ⟨ao, c6, rfl⟩ := owns_slice hown6
       have hb7 : Below w.heap.size w w6 := hb5.trans (hb6.mono hb5.size)))
  go_ret2
  exact ⟨_, rfl, owns_base hown6 hb5.size, hb7⟩
end Go.Proofs.YthmaoeajbmfmaaaGreatDoor
