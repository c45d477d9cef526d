/-
  Contract of mapped at telegrams, with the check of a telegram: of right telegrams, as many zeros.
-/
import Derived.Test.YtfpagmalblmnkaaGreatDoorGWk
import Derived.WalkMore
import Derived.Test.YtfpagmalblmnkaaGreatDoorGFd
import Derived.Test.YtfpagmalblmnkaaGreatDoorGWg
import Derived.Test.YtfpagmalblmnkaaGreatDoorGWc
import Derived.Deep.DrawnRows
namespace Go.Proofs.YtfpagmalblmnkaaGreatDoor
open Go.RowKit
set_option linter.unusedVariables false

theorem checkTelegram_tel (t : Tel) (h : t.Good) (w : World) :
    Calls Tryz.prog 96 #[.agg #[.int .i64 t.s, .int .i64 t.c, .int .i64 t.o, .int .i64 t.x, .int .i64 t.y, .int .i64 t.z]] w fun e w' =>
      e = .returned (.int .i64 0) ∧ Below w.heap.size w w' := checkTelegram_any _ _ _ _ _ _ h w

set_option maxRecDepth 100000 in
set_option maxHeartbeats 3200000 in
theorem mapped_tel (L : List Tel) (hg : ∀ t ∈ L, t.Good) (b q n cp : Nat) (hn : n = L.length) (hm : n ≤ 512) (w : World) (hb : b < w.heap.size) (hc : TelsAt w b q L) :
    Calls Tryz.prog 149 #[.slice (some ⟨b, q, none⟩) n cp, .func (.func 96) #[] #[]] w fun e w' =>
      e = .returned (.slice (some ⟨w.heap.size, 0, none⟩) n n) ∧ w'.ownsRow w.heap.size 27 1 (.slice (some ⟨w.heap.size, 0, none⟩) n n) n (List.replicate n (Value.int .i64 0)) ∧ Below w.heap.size w w' := by
  obtain ⟨i0, hi, hz0, hz1, hz2⟩ := info_parts Tryz.info27_check
  have HC := Lib.hid hc
  have HN := Lib.hid hn
  have HG := Lib.hid hg
  clear hc hn hg
  have s35 : (Tryz.prog.info? 79).map (·.size) = some 6 := by kernel_rfl
  go_enter Tryz.func149, Tryz.ntmps149
  go_wp2_with (at_make; refine wpList_make_own _ rfl _ _ 102 rfl w.heap.size 27 i0 (.int .i64 0) 1 Tryz.underlying102 hi hz0 hz1 _ _ _ n rfl rfl (by omega) ?b2 ?b3 (Nat.le_refl _) ?_)
  case b2 => rw [hz2]; omega
  case b3 => unfold maxLen; omega
  intro w0 hown0 hgrow0
  go_wp2
  go_loopw [5, 13] (fun out i wr => ∃ k : Nat, k ≤ n ∧ i = .int .i64 k ∧ out = .slice (some ⟨w.heap.size, 0, none⟩) k n ∧
      wr.ownsRow w.heap.size 27 1 (.slice (some ⟨w.heap.size, 0, none⟩) k n) k (List.replicate k (Value.int .i64 0)) ∧ Below w.heap.size w wr)
    (fun _ i _ => n - (intOf i).toNat)
  case atStart => exact ⟨0, Nat.zero_le _, rfl, rfl, hown0, (Below.refl _ _).grown hgrow0 (Nat.le_refl _) (fun k h => by cases h)⟩
  case round =>
    obtain ⟨k, hk, rfl, rfl, hown, hnx⟩ := hrel
    have hsz := hnx.size
    by_cases hlt : k < n
    · have hlt2 : k < L.length := by have := HN.out; omega
      have hT := HC.out k hlt2
      have hG : (L[k]?.getD tel0).Good := by
        rw [List.getElem?_eq_getElem hlt2]; exact HG.out _ (List.getElem_mem hlt2)
      obtain ⟨t, ht⟩ : ∃ t, L[k]?.getD tel0 = t := ⟨_, rfl⟩
      rw [ht] at hT hG
      have hr : wr.rangeAt b (q + k * 6) t.val := fun j v hv => by
        rw [hnx.cell (by exact hb)]
        exact hT j v hv
      have HR := Lib.hid hr
      have K := Lib.hid (checkTelegram_tel t hG)
      clear ht hr hT hG hlt2
      have hv : t.val = [.int .i64 t.s, .int .i64 t.c, .int .i64 t.o, .int .i64 t.x, .int .i64 t.y, .int .i64 t.z] := rfl
      go_wp2_with (first
        | (refine wpList_load_mid rfl 79 (.tmp 15) rfl b (q + k * 6) rfl t.val _ HR.out Tryz.underlying79 rfl (by rw [s35]; rfl) ?_)
        | (go_at_call 96; refine (K.out _).mono ?_; rintro e w2 ⟨rfl, hb2⟩
           have hown2 := owns_kept (hown.alloc _) hb2 (Nat.le_refl _)
           have hs2 : wr.heap.size + 1 ≤ w2.heap.size := by simpa using hb2.size)
        | (at_builtin; refine wpList_append_fits _ rfl (.tmp 17) (.tmp 21) 102 rfl w.heap.size 27 i0 1 Tryz.underlying102 hi hz1 w.heap.size k n _ rfl (hown2.alloc _) ⟨w2.heap.size, 0, none⟩ 1 1 [.int .i64 0] rfl rfl (cell_one_new _ _ _) (by intro u hu; simp at hu; subst hu; rfl) (by omega) ?_; intro w1 hown1 hgrow1))
      have hB2 : Below w.heap.size w w2 := (hnx.alloc hsz _).trans (hb2.mono (by simp; omega))
      go_roundw
      case rel => exact ⟨k + 1, by omega, by go_num, rfl, by rw [List.replicate_succ']; exact hown1, (hB2.alloc (by omega) _).grown hgrow1 (by simp; omega) (fun j hj => by cases hj; exact Nat.le_refl _)⟩
      case measure => simp [intOf]; omega
    · go_wp2
      go_ret
      obtain rfl : k = n := by omega
      exact ⟨rfl, hown, hnx⟩
end Go.Proofs.YtfpagmalblmnkaaGreatDoor

/-
  Contract of missing for ascending counters: the counters between each one and the next.
-/
namespace Go.Proofs.YtfpagmalblmnkaaGreatDoor
open Go.RowKit
set_option linter.unusedVariables false

/-- The integers between two. -/
def gap (a b : Int) : List Int := (List.range (b - a - 1).toNat).map (fun j : Nat => a + 1 + (j : Int))
/-- The integers between each of the first k and the next one. -/
def gapsTo (xs : List Int) (k : Nat) : List Int := (List.range k).flatMap (fun i => gap (xs[i]?.getD 0) (xs[i + 1]?.getD 0))
theorem gapsTo_succ (xs : List Int) (k : Nat) : gapsTo xs (k + 1) = gapsTo xs k ++ gap (xs[k]?.getD 0) (xs[k + 1]?.getD 0) := by
  simp [gapsTo, List.range_succ]
theorem gap_len (a b : Int) : (gap a b).length = (b - a - 1).toNat := by simp [gap]

/-- Ascending counters from 0 to 200. -/
structure Asc (xs : List Int) (n : Nat) : Prop where
  len : xs.length = n
  bd : ∀ j, j < n → 0 ≤ xs[j]?.getD 0 ∧ xs[j]?.getD 0 ≤ 200
  up : ∀ j, j + 1 < n → xs[j]?.getD 0 < xs[j + 1]?.getD 0
theorem gapsTo_len {xs : List Int} {n : Nat} (h : Asc xs n) : ∀ k, k < n → ((gapsTo xs k).length : Int) ≤ xs[k]?.getD 0
  | 0, hk => by have := h.bd 0 hk; simp [gapsTo]; omega
  | k + 1, hk => by
    have ih := gapsTo_len h k (by omega)
    have hu := h.up k hk
    rw [gapsTo_succ, List.length_append, gap_len]
    omega

theorem owns_slice {w : World} {B T sz n : Nat} {v : Value} {xs : List Value} (h : w.ownsRow B T sz v n xs) : ∃ ao c, v = .slice ao n c := by
  rcases h.2 with ⟨h, h0⟩ | ⟨g, cap, cur, h, _⟩
  · exact ⟨none, 0, by rw [h, h0]⟩
  · exact ⟨_, _, h⟩

theorem missing_none (ao : Option Addr) (c : Nat) (w : World) :
    Calls Tryz.prog 102 #[.slice ao 0 c, .int .i64 257] w fun e w' => e = .returned (.slice none 0 0) ∧ w = w' := by
  go_enter Tryz.func102, Tryz.ntmps102
  go_wp2
  go_step3
  go_wp2
  go_step3
  go_wp2
  refine wp_loop_rounds 1 ?_
  rw [rounds_succ]
  go_wp2
  try rw [Exit.noGoto_ret]
  go_ret
  exact ⟨rfl, rfl⟩

set_option maxRecDepth 100000 in
set_option maxHeartbeats 3200000 in
theorem missing_any (xs : List Int) (n g c : Nat) (hA : Asc xs n) (hn1 : 1 ≤ n) (hm : n ≤ 512) (w : World) (hg : g < w.heap.size) (hc : ∀ j, j < n → w.cell? ⟨g, j, none⟩ = some (.int .i64 (xs[j]?.getD 0))) :
    Calls Tryz.prog 102 #[.slice (some ⟨g, 0, none⟩) n c, .int .i64 257] w fun e w' =>
      ∃ v, e = .returned v ∧ w'.ownsRow w.heap.size 3 1 v (gapsTo xs (n - 1)).length ((gapsTo xs (n - 1)).map (Value.int .i64)) ∧ Below w.heap.size w w' := by
  obtain ⟨i0, hi, hz0, hz1, hz2⟩ := info_parts Tryz.infoInt
  have HC := Lib.hid hc
  have HA := Lib.hid hA
  clear hc hA
  have j1 : ((1 : Int) ≤ (n : Int)) := by omega
  have j2 : ((n : Int) ≤ 512) := by omega
  go_enter Tryz.func102, Tryz.ntmps102
  go_wp2
  go_step3
  go_wp2
  go_step3
  go_wp2
  go_loopw [5, 13] (fun out i wr => ∃ k : Nat, k ≤ n - 1 ∧ i = .int .i64 k ∧ wr.ownsRow w.heap.size 3 1 out (gapsTo xs k).length ((gapsTo xs k).map (Value.int .i64)) ∧ Below w.heap.size w wr)
    (fun _ i _ => n - (intOf i).toNat)
  case atStart => exact ⟨0, Nat.zero_le _, rfl, World.ownsRow_nil _ _ _ _, Below.refl _ _⟩
  case round =>
    obtain ⟨k, hk, rfl, hown, hnx⟩ := hrel
    have hsz := hnx.size
    by_cases hlt : k + 1 < n
    · have c0 : wr.cell? ⟨g, k, none⟩ = some (.int .i64 (xs[k]?.getD 0)) := (hnx.cell (by exact hg)).trans (HC.out k (by omega))
      have c1 : wr.cell? ⟨g, k + 1, none⟩ = some (.int .i64 (xs[k + 1]?.getD 0)) := (hnx.cell (by exact hg)).trans (HC.out (k + 1) hlt)
      have hb0 := HA.out.bd k (by omega)
      have hb1 := HA.out.bd (k + 1) hlt
      have hup := HA.out.up k hlt
      have hlen := gapsTo_len HA.out k (by omega)
      have hS := gapsTo_succ xs k
      obtain ⟨a, ha⟩ : ∃ a, xs[k]?.getD 0 = a := ⟨_, rfl⟩
      obtain ⟨b, hb⟩ : ∃ b, xs[k + 1]?.getD 0 = b := ⟨_, rfl⟩
      obtain ⟨pre, hpre⟩ : ∃ pre, gapsTo xs k = pre := ⟨_, rfl⟩
      rw [ha] at c0 hb0 hup hlen hS
      rw [hb] at c1 hb1 hup hS
      rw [hpre] at hown hlen hS
      have HS := Lib.hid hS
      clear ha hb hpre hS
      have hltI : ((k : Int) < (n : Int) - 1) := by omega
      have k0 : ((k : Int) < (n : Int)) := by omega
      have k1 : ((k : Int) + 1 < (n : Int)) := by omega
      have k2 : ((0 : Int) ≤ (k : Int) + 1) := by omega
      have k3 : ((k : Int) + 1).toNat = k + 1 := by omega
      have k4 : IntKind.i64.wrap ((k : Int) + 1) = (k : Int) + 1 := IntWalk.i64_in _ ⟨by omega, by omega⟩
      go_wp2_with fail
      go_region_held3 (fun w' => w'.cell? ⟨g, k, none⟩ = some (.int .i64 a) ∧ w'.cell? ⟨g, k + 1, none⟩ = some (.int .i64 b)) (go_keep) (fail)
      have hf : (a + 1) % 65536 = a + 1 := by omega
      go_wp2_with (go_at_call 150; refine (following_any _ hb0.1 (by omega) _).mono ?_; rintro e w' ⟨rfl, rfl⟩)
      obtain ⟨Wd, hWd⟩ : ∃ Wd, wr.drew = Wd := ⟨_, rfl⟩
      have hownd : Wd.ownsRow w.heap.size 3 1 u5 pre.length (pre.map (Value.int .i64)) := by rw [← hWd]; exact hown
      have hBd : Below w.heap.size w Wd := by rw [← hWd]; exact hnx.drew
      rw [hWd]
      clear hWd hown c0 c1
      go_loopw [5, 9] (fun out i wi => ∃ j : Nat, (j : Int) ≤ b - a - 1 ∧ i = .int .i64 (a + 1 + j) ∧ wi.ownsRow w.heap.size 3 1 out (pre.length + j) ((pre ++ (List.range j).map (fun j : Nat => a + 1 + (j : Int))).map (Value.int .i64)) ∧ Below w.heap.size w wi)
        (fun _ i _ => (b - intOf i).toNat)
      case atStart => exact ⟨0, by omega, by simp, by simpa using hownd, hBd⟩
      case round =>
        obtain ⟨j, hj, rfl, hown, hnx2⟩ := hrel
        have hsz2 := hnx2.size
        by_cases hjl : (j : Int) < b - a - 1
        · have hne : ((a + 1 + (j : Int)) != b) = true := by simp; omega
          obtain ⟨ℓ, hℓ⟩ : ∃ ℓ, pre.length + j = ℓ := ⟨_, rfl⟩
          have hℓ2 : ℓ ≤ 200 := by omega
          have hℓ3 : ((ℓ : Int) == 257) = false := by simp; omega
          rw [hℓ] at hown
          obtain ⟨ao, cc, rfl⟩ := owns_slice hown
          have hf2 : (a + 1 + (j : Int) + 1) % 65536 = a + 1 + (j : Int) + 1 := by omega
          have hj1 : (((j + 1 : Nat)) : Int) ≤ b - a - 1 := by omega
          have HL := Lib.hid hℓ
          have HJ1 := Lib.hid hj1
          clear hℓ hjl hj1
          go_wp2_with (first
            | (go_at_call 150; refine (following_any _ (by omega) (by omega) _).mono ?_; rintro e w' ⟨rfl, rfl⟩)
            | (at_builtin; refine wpList_append_own _ rfl (.tmp 36) (.tmp 38) 91 rfl w.heap.size 3 i0 (.int .i64 0) 1 8 Tryz.underlying91 hi hz0 hz1 hz2 rfl (by decide) _ _ _ rfl (hown.alloc _) ⟨wr.heap.size, 0, none⟩ 1 1 [.int .i64 (a + 1 + (j : Int))] rfl rfl (cell_one_new _ _ _) (by intro u hu; simp at hu; subst hu; rfl) (by unfold maxLen; omega) (by omega) (by simp; omega) ?_; intro v' w3 hown3 hgrow3 _))
          have hlt' := hown.lt
          go_roundw
          case rel =>
            refine ⟨j + 1, HJ1.out, by push_cast; go_num, ?_, (hnx2.alloc hsz2 _).grown hgrow3 (by simp; omega) (fun q hq => (hlt' q hq).1)⟩
            have e : (pre ++ (List.range (j + 1)).map (fun j : Nat => a + 1 + (j : Int))).map (Value.int .i64) = (pre ++ (List.range j).map (fun j : Nat => a + 1 + (j : Int))).map (Value.int .i64) ++ [.int .i64 (a + 1 + (j : Int))] := by simp [List.range_succ]
            rw [e, show pre.length + (j + 1) = ℓ + 1 by have := HL.out; omega]
            exact hown3
          case measure => have := HJ1.out; simp [intOf]; omega
        · have hje : a + 1 + (j : Int) = b := by omega
          have hne : ((a + 1 + (j : Int)) != b) = false := by simp [hje]
          have HJ := Lib.hid hje
          clear hje hjl
          go_wp2
          go_roundw
          case rel =>
            refine ⟨k + 1, by omega, by go_num, ?_, hnx2⟩
            have e : (b - a - 1).toNat = j := by have := HJ.out; omega
            rw [HS.out, gap, e]
            simpa using hown
          case measure => simp [intOf]; omega
    · have hltI : ¬ ((k : Int) < (n : Int) - 1) := by omega
      go_wp2
      try rw [Exit.noGoto_ret]
      go_ret
      obtain rfl : k = n - 1 := by omega
      exact ⟨_, rfl, hown, hnx⟩
end Go.Proofs.YtfpagmalblmnkaaGreatDoor

/-
  Contract of Lost for telegrams whose numbers are in their ranges and a station whose counters ascend.
-/
namespace Go.Proofs.YtfpagmalblmnkaaGreatDoor
open Go.RowKit
set_option linter.unusedVariables false

theorem owns_some {w : World} {B T sz n : Nat} {v : Value} {xs : List Value} (h : w.ownsRow B T sz v n xs) (hn : 1 ≤ n) : ∃ g c, v = .slice (some ⟨g, 0, none⟩) n c ∧ g < w.heap.size ∧ B ≤ g := by
  rcases h.2 with ⟨_, h0⟩ | ⟨g, cap, cur, h, h2, h3, _⟩
  · omega
  · exact ⟨g, cap, h, (Array.getElem?_eq_some_iff.1 h3).1, h2⟩


/-- missing at a slice that owns ascending counters, or at none. -/
theorem missing_own (xs : List Int) (n : Nat) (hA : Asc xs n) (hm : n ≤ 512) (w : World) (B : Nat) (v : Value) (h : w.ownsRow B 3 1 v n (xs.map (Value.int .i64))) :
    Calls Tryz.prog 102 #[v, .int .i64 257] w fun e w' =>
      ∃ v', e = .returned v' ∧ w'.ownsRow w.heap.size 3 1 v' (gapsTo xs (n - 1)).length ((gapsTo xs (n - 1)).map (Value.int .i64)) ∧ Below w.heap.size w w' := by
  by_cases hn : 1 ≤ n
  · obtain ⟨g, c, rfl, hg, _⟩ := owns_some h hn
    exact missing_any xs n g c hA hn hm w hg (fun j hj => owns_cell h (by
      rw [List.getElem?_map, List.getElem?_eq_getElem (by rw [hA.len]; exact hj)]; rfl))
  · obtain rfl : n = 0 := by omega
    have hx : xs = [] := List.length_eq_zero_iff.1 hA.len
    subst hx
    obtain ⟨ao, c, rfl⟩ := owns_slice h
    exact (missing_none ao c w).mono fun e w' ⟨he, hw⟩ => ⟨_, he, by subst hw; exact World.ownsRow_nil _ _ _ _, by subst hw; exact Below.refl _ _⟩

set_option maxRecDepth 100000 in
set_option maxHeartbeats 3200000 in
theorem checkList_tel (L : List Tel) (hg : ∀ t ∈ L, t.Good) (b q n cp : Nat) (hn : n = L.length) (hm : n ≤ 512) (w : World) (hb : b < w.heap.size) (hc : TelsAt w b q L) :
    Calls Tryz.prog 101 #[.slice (some ⟨b, q, none⟩) n cp, .int .i64 512, .func (.func 96) #[] #[]] w fun e w' =>
      e = .returned (.int .i64 0) ∧ Below w.heap.size w w' := by
  have K1 := Lib.hid (mapped_tel L hg b q n cp hn hm w hb hc)
  have i1 : ((n : Int) ≤ 512) := by omega
  clear hg hc hn
  go_enter Tryz.func101, Tryz.ntmps101
  go_wp2_with (first
    | (go_at_call 149; refine K1.out.mono ?_; rintro e w1 ⟨rfl, hown1, hb1⟩
       have HZ : Hid (∀ j, j < n → w1.cell? ⟨w.heap.size, 0 + j, none⟩ = some (.int .i64 0)) := Lib.hid fun j hj => by
         rw [Nat.zero_add]
         refine owns_cell hown1 ?_
         simp [hj]
       have HB := Lib.hid hb1
       clear hown1 hb1)
    | (go_at_call 41; refine (first_zeros _ 0 _ _ (by omega) _ HZ.out).mono ?_; rintro e w' ⟨rfl, rfl⟩))
  go_ret
  exact ⟨rfl, HB.out⟩

set_option maxRecDepth 100000 in
set_option maxHeartbeats 3200000 in
theorem lost_any (L : List Tel) (hg : ∀ t ∈ L, t.Good) (b q n cp : Nat) (st : Int) (hs : 0 ≤ st ∧ st ≤ 255) (hn : n = L.length) (hm : n ≤ 512) (w : World) (hb : b < w.heap.size) (hc : TelsAt w b q L)
    (hA : Asc (countsOf L st) (countsOf L st).length) (hlen : (gapsTo (countsOf L st) ((countsOf L st).length - 1)).length ≤ 256) :
    Calls Tryz.prog 36 #[.slice (some ⟨b, q, none⟩) n cp, .int .i64 st] w fun e w' =>
      ∃ v, e = .returned (.tuple #[v, .int .i64 0]) ∧ w'.ownsRow w.heap.size 3 1 v (gapsTo (countsOf L st) ((countsOf L st).length - 1)).length ((gapsTo (countsOf L st) ((countsOf L st).length - 1)).map (Value.int .i64)) ∧ Below w.heap.size w w' := by
  have K1 := Lib.hid (checkList_tel L hg b q n cp hn hm w hb hc)
  have K2 := Lib.hid (fun (w' : World) (h1 : b < w'.heap.size) (h2 : TelsAt w' b q L) => countersOf_any L b q n cp st hn hm w' h1 h2)
  have hcl := counts_len L st
  have K3 := Lib.hid (fun (w' : World) (B : Nat) (v : Value) h => missing_own (countsOf L st) _ hA (by omega) w' B v h)
  have HC := Lib.hid hc
  have hst : rangeErr st 0 255 = 0 := rangeErr_in hs.1 hs.2
  have i1 : ((n : Int) ≤ 512) := by omega
  obtain ⟨R, hR⟩ : ∃ R, gapsTo (countsOf L st) ((countsOf L st).length - 1) = R := ⟨_, rfl⟩
  rw [hR] at K3 hlen ⊢
  have i2 : ((R.length : Int) ≤ 256) := by omega
  clear hg hc hA hn hR hcl hs
  go_enter Tryz.func36, Tryz.ntmps36
  go_wp2_with (first
    | (go_at_call 101; refine K1.out.mono ?_; rintro e w1 ⟨rfl, hb1⟩)
    | (go_at_call 89; refine (checkRange_any _ _ _ _).mono ?_; rintro e w' ⟨rfl, rfl⟩)
    | (go_at_call 41; refine (first_zeros _ 0 2 2 (by omega) _ (fun j hj => by match j, hj with | 0, _ => simp [go_sem] | 1, _ => simp [go_sem])).mono ?_; rintro e w' ⟨rfl, rfl⟩
       have hb3 : Below w.heap.size w (w1.alloc (.cells #[.int .i64 0, .int .i64 0] 27)) := hb1.alloc hb1.size _
       have hw3 := hb3.size
       have hc3 := HC.out.kept hb3 hb
       have K4 := Lib.hid (K2.out _ (by have := hb3.size; omega) hc3)
       clear hc3)
    | (go_at_call 103; refine K4.out.mono ?_; rintro e w4 ⟨v4, rfl, hown4, hb4⟩
       have K5 := Lib.hid (K3.out w4 _ _ hown4)
       have hb5 : Below w.heap.size w w4 := hb3.trans (hb4.mono hw3))
    | (go_at_call 102; refine K5.out.mono ?_; rintro e w6 ⟨v6, rfl, hown6, hb6⟩
       obtain ⟨ao, c6, rfl⟩ := owns_slice hown6
       have hb7 : Below w.heap.size w w6 := hb5.trans (hb6.mono hb5.size)))
  go_ret2
  exact ⟨_, rfl, owns_base hown6 hb5.size, hb7⟩
end Go.Proofs.YtfpagmalblmnkaaGreatDoor

/-
  Contract of painted with the literal of Added: the map whose integers the literal tells for each place.
-/
namespace Go.Proofs.YtfpagmalblmnkaaGreatDoor
open Go.RowKit Go.Shelf
set_option linter.unusedVariables false
attribute [local go_sem] Oper.semAt_some

theorem KeepsOthers.of_below {W W' : World} (h : Below W.heap.size W W') : KeepsOthers W W' :=
  ⟨h.size, fun k o hk _ => (h.block k (Array.getElem?_eq_some_iff.1 hk).1).trans hk⟩

theorem owns_room {w : World} {B T n N g : Nat} {xs : List Value} (h : w.ownsRow B T 1 (.slice (some ⟨g, 0, none⟩) n N) n xs) (hn : n < N) : ∃ u, w.cell? ⟨g, n, none⟩ = some u ∧ w.frozen? ⟨g, n, none⟩ = false ∧ g < w.heap.size := by
  rcases h.2 with ⟨h, _⟩ | ⟨g', cap, cur, e, _, hg, hnc, hcm, hcs, _⟩
  · cases h
  · simp at e
    obtain ⟨rfl, rfl⟩ := e
    refine ⟨cur[n]'(by omega), ?_, by simp [World.frozen?, hg], (Array.getElem?_eq_some_iff.1 hg).1⟩
    rw [cell_of_row w g n _ _ (0, 0) hg]
    exact Array.getElem?_eq_getElem _
theorem owns_put {w : World} {B T n N g : Nat} {xs : List Value} (h : w.ownsRow B T 1 (.slice (some ⟨g, 0, none⟩) n N) n xs) (hn : n < N) (v : Value) : (w.setCell ⟨g, n, none⟩ v).ownsRow B T 1 (.slice (some ⟨g, 0, none⟩) (n + 1) N) (n + 1) (xs ++ [v]) := by
  have hl := h.1
  refine ⟨by simp [hl], ?_⟩
  rcases h.2 with ⟨h, _⟩ | ⟨g', cap, cur, e, hB, hg, hnc, hcm, hcs, ht⟩
  · cases h
  · simp at e
    obtain ⟨rfl, rfl⟩ := e
    refine .inr ⟨g, N, cur.setIfInBounds n v, rfl, hB, ?_, hn, hcm, by simpa using hcs, ?_⟩
    · rw [setCell_eq_setRow w g n cur T (0, 0) v hg]
      exact setRow_heap w g cur _ T _ hg
    · have : n < cur.toList.length := by simp; omega
      simp only [Array.toList_setIfInBounds, Nat.mul_one] at ht ⊢
      rw [List.take_succ_eq_append_getElem (by simpa using this), List.take_set_of_le (Nat.le_refl _), ht]
      simp
theorem owns_room' {w : World} {B T n c g : Nat} {xs : List Value} (h : w.ownsRow B T 1 (.slice (some ⟨g, 0, none⟩) n c) n xs) : B ≤ g ∧ g < w.heap.size := by
  rcases h.2 with ⟨h, _⟩ | ⟨g', cap, cur, e, hB, hg, _⟩
  · cases h
  · simp at e
    obtain ⟨rfl, rfl⟩ := e
    exact ⟨hB, (Array.getElem?_eq_some_iff.1 hg).1⟩
theorem row_own {β : Type} (B : Nat) (cs : Array Value) (t : TypeId) : Own (fun (_ : β) W => W.heap[B]? = some (.cells cs t (0, 0))) := fun s X Y row h hg hr =>
  (hg.block B (Array.getElem?_eq_some_iff.1 h).1 (fun e => by obtain ⟨o, ho, hc⟩ := hr B e.symm; rw [h] at ho; cases ho; cases hc)).trans h

end Go.Proofs.YtfpagmalblmnkaaGreatDoor

/-
  Contract of Added's literal: the sum of the integers of two grids at a place.
-/
namespace Go.Proofs.YtfpagmalblmnkaaGreatDoor
open Go.RowKit
set_option linter.unusedVariables false

/-- A variable that holds a grid. -/
structure GridAt (w : World) (g7 : Nat) (W H : Int) (g n c : Nat) : Prop where
  c0 : w.cell? ⟨g7, 0, none⟩ = some (.int .i64 W)
  c1 : w.cell? ⟨g7, 1, none⟩ = some (.int .i64 H)
  c2 : w.cell? ⟨g7, 2, none⟩ = some (.slice (some ⟨g, 0, none⟩) n c)
theorem GridAt.below {B : Nat} {w w' : World} {g7 : Nat} {W H : Int} {g n c : Nat} (h : GridAt w g7 W H g n c) (hb : Below B w w') (hB : g7 < B) : GridAt w' g7 W H g n c :=
  ⟨(hb.cell (p := ⟨g7, 0, none⟩) hB).trans h.c0, (hb.cell (p := ⟨g7, 1, none⟩) hB).trans h.c1, (hb.cell (p := ⟨g7, 2, none⟩) hB).trans h.c2⟩

end Go.Proofs.YtfpagmalblmnkaaGreatDoor

/-
  Contract of Total for a right map: the sum of its integers.
-/
namespace Go.Proofs.YtfpagmalblmnkaaGreatDoor
open Go.RowKit
set_option linter.unusedVariables false

theorem sum_take_succ (ks : List Int) (k : Nat) (hk : k < ks.length) : (ks.take (k + 1)).sum = (ks.take k).sum + ks[k]?.getD 0 := by
  rw [List.take_succ_eq_append_getElem hk, List.sum_append, List.getElem?_eq_getElem hk]; simp
theorem sum_take_bd {ks : List Int} {M : Nat} {n : Nat} (hl : ks.length = n) (h : ∀ j, j < n → (ks[j]?.getD 0).natAbs ≤ M) : ∀ k, k ≤ n → -((M * k : Nat) : Int) ≤ (ks.take k).sum ∧ (ks.take k).sum ≤ ((M * k : Nat) : Int)
  | 0, _ => by simp
  | k + 1, hk => by
    have ih := sum_take_bd hl h k (by omega)
    have hb := h k (by omega)
    rw [sum_take_succ ks k (by omega)]
    rw [Nat.mul_succ]
    push_cast at ih ⊢
    omega

set_option maxRecDepth 100000 in
set_option maxHeartbeats 3200000 in
theorem total_any (W H : Int) (b o n c : Nat) (xs : List Nat) (ks : List Int) (w : World) (hw : RightMap w W H b o n xs ks) (hb : b < w.heap.size) :
    Calls Tryz.prog 24 #[.agg #[.int .i64 W, .int .i64 H, .slice (some ⟨b, o, none⟩) n c]] w fun e w' => e = .returned (.tuple #[.int .i64 ks.sum, .int .i64 0]) ∧ Below w.heap.size w w' := by
  have K1 : Hid (∀ w1 : World, Below w.heap.size w w1 → Calls Tryz.prog 65 #[.agg #[.int .i64 W, .int .i64 H, .slice (some ⟨b, o, none⟩) n c]] w1 fun e w' => e = .returned (.int .i64 0) ∧ Below w1.heap.size w1 w') :=
    Lib.hid fun w1 h => checkMap_any W H b o n c xs ks w1 (hw.below h hb) (by have := h.size; omega)
  have K2 : Hid (∀ w1 : World, Below w.heap.size w w1 → Calls Tryz.prog 69 #[.agg #[.int .i64 W, .int .i64 H, .slice (some ⟨b, o, none⟩) n c]] w1 fun e w' =>
      e = .returned (.agg #[.int .i64 W, .int .i64 H, .slice (some ⟨w1.heap.size + 2, 0, none⟩) n n]) ∧ w'.ownsRow (w1.heap.size + 2) 3 1 (.slice (some ⟨w1.heap.size + 2, 0, none⟩) n n) n (ks.map (Value.int .i64)) ∧ Below w1.heap.size w1 w') :=
    Lib.hid fun w1 h => gridOf_any W H b o n c xs ks w1 (hw.below h hb).toWords (by have := h.size; omega)
  have hfld : ∀ (g : Nat) (w : World), (Instr.field 141 (.agg #[.int .i64 W, .int .i64 H, .slice (some ⟨g, 0, none⟩) n n]) 2).run Tryz.prog w = .ok (.slice (some ⟨g, 0, none⟩) n n) w := fun _ _ => by kernel_rfl
  have hsm := hw.small
  have HW := Lib.hid hw
  have HBD := Lib.hid (sum_take_bd hw.lenk hw.sizes)
  clear hw
  go_enter Tryz.func24, Tryz.ntmps24
  go_wp2_with (first
    | (go_at_call 65; refine (K1.out _ ((Below.refl _ w).alloc (Nat.le_refl _) _)).mono ?_; rintro e w1 ⟨rfl, hb1⟩
       have hs1 : w.heap.size + 1 ≤ w1.heap.size := by have := hb1.size; simpa using this
       have hB1 : Below w.heap.size w w1 := ((Below.refl _ w).alloc (Nat.le_refl _) _).trans (hb1.mono (by simp))
       have c0 : w1.cell? ⟨w.heap.size, 0, none⟩ = some (.int .i64 W) := by rw [hb1.cell (by simp)]; simp [go_sem]
       have c1 : w1.cell? ⟨w.heap.size, 1, none⟩ = some (.int .i64 H) := by rw [hb1.cell (by simp)]; simp [go_sem]
       have c2 : w1.cell? ⟨w.heap.size, 2, none⟩ = some (.slice (some ⟨b, o, none⟩) n c) := by rw [hb1.cell (by simp)]; simp [go_sem]
       have HB1 := Lib.hid hB1
       clear hb1 hB1)
    | (go_at_call 69; refine (K2.out _ HB1.out).mono ?_; rintro e w2 ⟨rfl, hown2, hb2⟩
       have HB2 := Lib.hid (HB1.out.trans (hb2.mono HB1.out.size))
       have HO2 := Lib.hid hown2
       clear hb2 hown2 c0 c1 c2))
  go_loop [5, 17] (fun x i => ∃ k : Nat, k ≤ n ∧ i = .int .i64 k ∧ x = .int .i64 (ks.take k).sum) (fun _ i => n - (intOf i).toNat)
  case atStart => exact ⟨0, Nat.zero_le _, rfl, rfl⟩
  case round =>
    obtain ⟨k, hk, rfl, rfl⟩ := hrel
    have hbd := HBD.out k hk
    by_cases hlt : k < n
    · have hcell : w2.cell? ⟨w1.heap.size + 2, k, none⟩ = some (.int .i64 (ks[k]?.getD 0)) := owns_cell HO2.out (by
        rw [List.getElem?_map, List.getElem?_eq_getElem (by have := HW.out.lenk; omega)]; rfl)
      have hz := HW.out.sizes k hlt
      have hS := sum_take_succ ks k (by have := HW.out.lenk; omega)
      have HS := Lib.hid hS
      have hb3 : -67108864 ≤ (ks.take k).sum ∧ (ks.take k).sum ≤ 67108864 := by
        have : 16384 * k ≤ 67108864 := by omega
        omega
      clear hS hbd
      go_wp2
      go_round
      case rel => exact ⟨k + 1, by omega, by go_num, by rw [HS.out]⟩
      case measure => simp [intOf]; omega
    · go_wp2
      go_ret2
      obtain rfl : k = n := by omega
      exact ⟨by rw [List.take_of_length_le (by have := HW.out.lenk; omega)]; rfl, HB2.out⟩
end Go.Proofs.YtfpagmalblmnkaaGreatDoor

/-
  What stands behind the two grids of Added; blocks behind stores and new blocks.
-/
namespace Go.Proofs.YtfpagmalblmnkaaGreatDoor
open Go.RowKit
set_option linter.unusedVariables false
attribute [local go_sem ↓] Go.wp_at_zero Go.wp_at_succ

/-- Integers that lie in a block. -/
structure RowAt (w : World) (g n : Nat) (ks : List Int) : Prop where
  lt : g < w.heap.size
  cells : ∀ j, j < n → w.cell? ⟨g, j, none⟩ = some (.int .i64 (ks[j]?.getD 0))
theorem RowAt.below {B : Nat} {w w' : World} {g n : Nat} {ks : List Int} (h : RowAt w g n ks) (hb : Below B w w') (hB : g < B) : RowAt w' g n ks :=
  ⟨Nat.lt_of_lt_of_le h.lt hb.size, fun j hj => (hb.cell (p := ⟨g, j, none⟩) hB).trans (h.cells j hj)⟩
theorem grid_row (W H : Int) (b o n c : Nat) (xs : List Nat) (ks : List Int) (w : World) (hw : Words w b o n xs ks) (hb : b < w.heap.size) :
    Calls Tryz.prog 69 #[.agg #[.int .i64 W, .int .i64 H, .slice (some ⟨b, o, none⟩) n c]] w fun e w' =>
      ∃ g, e = .returned (.agg #[.int .i64 W, .int .i64 H, .slice (some ⟨g, 0, none⟩) n n]) ∧ w.heap.size ≤ g ∧ RowAt w' g n ks ∧ Below w.heap.size w w' :=
  (gridOf_any W H b o n c xs ks w hw hb).mono fun e w' ⟨he, ho, hB⟩ => ⟨_, he, by omega, ⟨(ho.lt _ rfl).2, fun j hj => owns_cell ho (by
    rw [List.getElem?_map, List.getElem?_eq_getElem (by rw [hw.lenk]; exact hj)]; rfl)⟩, hB⟩

theorem bcell {W w1 : World} (hb : Below W.heap.size W w1) : (∀ b o, b < W.heap.size → w1.cell? ⟨b, o, none⟩ = W.cell? ⟨b, o, none⟩) ∧ (∀ b o, b < W.heap.size → w1.frozen? ⟨b, o, none⟩ = W.frozen? ⟨b, o, none⟩) :=
  ⟨fun b o h => hb.cell (p := ⟨b, o, none⟩) h, fun b o h => hb.frozen (p := ⟨b, o, none⟩) h⟩
/-- Below, closed to what takes conjunctions apart. -/
def Blw (N : Nat) (w w' : World) : Prop := Below N w w'
/-- What stands behind the two grids. -/
def GridsMade (w W0 : World) (W H : Int) (n : Nat) (ks js : List Int) (s7 s8 : Value) (wx : World) : Prop :=
  ∃ g7 g8 ga gb : Nat, s7 = .pointer (some ⟨g7, 0, none⟩) ∧ s8 = .pointer (some ⟨g8, 0, none⟩) ∧ GridAt wx g7 W H ga n n ∧ GridAt wx g8 W H gb n n ∧ RowAt wx ga n ks ∧ RowAt wx gb n js ∧ g7 < wx.heap.size ∧ g8 < wx.heap.size ∧ Below (w.heap.size + 3) W0 wx
theorem placesTo_get (W k j : Nat) (h : j < k) : (placesTo W k)[j]? = some (j % W, j / W) := by
  rw [placesTo, List.getElem?_map, List.getElem?_range h]; rfl
theorem idx_lt {W H n : Nat} {p : Nat × Nat} (h1 : p.1 < W) (h2 : p.2 < H) (hn : W * H = n) : p.2 * W + p.1 < n := by
  have := Nat.mul_le_mul_right W (show p.2 + 1 ≤ H by omega)
  rw [Nat.add_mul, Nat.one_mul, Nat.mul_comm H W, hn] at this
  omega
theorem RowAt.set {w : World} {g n : Nat} {ks : List Int} (h : RowAt w g n ks) {p : Addr} (hp : p.block ≠ g) (v : Value) : RowAt (w.setCell p v) g n ks :=
  ⟨by simpa [World.setCell] using h.lt, fun j hj => (World.cell?_setCell_other w p ⟨g, j, none⟩ v (fun e => hp (by rw [e]))).trans (h.cells j hj)⟩
theorem RowAt.alloc {w : World} {g n : Nat} {ks : List Int} (h : RowAt w g n ks) (o : Obj) : RowAt (w.alloc o) g n ks := h.below ((Below.refl _ w).alloc (Nat.le_refl _) o) h.lt
theorem blk_set_other {w : World} {B : Nat} {o : Obj} (h : w.heap[B]? = some o) {p : Addr} (hp : p.block ≠ B) (v : Value) : (w.setCell p v).heap[B]? = some o := by
  rw [← h]; exact Below.heap_setCell _ _ _ _ (fun e => hp e.symm)
theorem blk_alloc_other {w : World} {B : Nat} {o : Obj} (h : w.heap[B]? = some o) (x : Obj) : (w.alloc x).heap[B]? = some o := (Below.heap_alloc _ _ _ (Array.getElem?_eq_some_iff.1 h).1).trans h
theorem blk_drew {w : World} {B : Nat} {o : Obj} (h : w.heap[B]? = some o) : w.drew.heap[B]? = some o := h
theorem blk_alloc_new (w : World) (o : Obj) : (w.alloc o).heap[w.heap.size]? = some o := heap_alloc_new w o
theorem blk_alloc_new1 (w : World) (o o' : Obj) : ((w.alloc o').alloc o).heap[w.heap.size + 1]? = some o := heap_alloc2_new w _ _
theorem blk_alloc_at (w : World) (o : Obj) {B : Nat} (h : w.heap.size = B) : (w.alloc o).heap[B]? = some o := by rw [← h]; exact blk_alloc_new w o
theorem blk_set3 {w : World} {B : Nat} {T : TypeId} {x y z : Value} (h : w.heap[B]? = some (.cells #[x, y, z] T (0, 0))) (a b c : Value) :
    (((w.setCell ⟨B, 0, none⟩ a).setCell ⟨B, 1, none⟩ b).setCell ⟨B, 2, none⟩ c).heap[B]? = some (.cells #[a, b, c] T (0, 0)) := by
  simp only [World.setCell, Array.getElem?_modify, if_true, h, Option.map_some]
  simp
theorem GridAt.of_blk {w : World} {B : Nat} {T : TypeId} {W H : Int} {g n c : Nat} (h : w.heap[B]? = some (.cells #[.int .i64 W, .int .i64 H, .slice (some ⟨g, 0, none⟩) n c] T (0, 0))) : GridAt w B W H g n c :=
  ⟨by rw [cell_of_row w B 0 _ _ (0, 0) h]; rfl, by rw [cell_of_row w B 1 _ _ (0, 0) h]; rfl, by rw [cell_of_row w B 2 _ _ (0, 0) h]; rfl⟩
theorem lt_of_blk {w : World} {B : Nat} {o : Obj} (h : w.heap[B]? = some o) : B < w.heap.size := (Array.getElem?_eq_some_iff.1 h).1
theorem below_alloc {N : Nat} {W0 W1 : World} (h : Below N W0 W1) (hN : N ≤ W0.heap.size) (o : Obj) : Below N W0 (W1.alloc o) := h.alloc (Nat.le_trans hN h.size) o

end Go.Proofs.YtfpagmalblmnkaaGreatDoor
