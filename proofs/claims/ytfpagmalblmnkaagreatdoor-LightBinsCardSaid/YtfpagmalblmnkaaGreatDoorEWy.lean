/-
  Contract of missing for ascending counters: the counters between each one and the next.
-/
import Derived.Test.YtfpagmalblmnkaaGreatDoorEWt
import Derived.WalkMore
import Derived.Test.YtfpagmalblmnkaaGreatDoorEZn
import Derived.Test.YtfpagmalblmnkaaGreatDoorEWi
import Derived.Test.YtfpagmalblmnkaaGreatDoorEWe
import Derived.Test.YtfpagmalblmnkaaGreatDoorEFlo
import Derived.Deep.DrawnRows
import Derived.Laws.ComplexArith
namespace Go.Proofs.YtfpagmalblmnkaaGreatDoor
open Go.RowKit
set_option linter.unusedVariables false

/-- The integers between two. -/
def gap (a b : Int) : List Int := (List.range (b - a - 1).toNat).map (fun j : Nat => a + 1 + (j : Int))
/-- The integers between each of the first k and the next one. -/
def gapsTo (xs : List Int) (k : Nat) : List Int := (List.range k).flatMap (fun i => gap (xs[i]?.getD 0) (xs[i + 1]?.getD 0))
theorem gapsTo_succ (xs : List Int) (k : Nat) : gapsTo xs (k + 1) = gapsTo xs k ++ gap (xs[k]?.getD 0) (xs[k + 1]?.getD 0) := by
  simp [gapsTo, List.range_succ]
theorem gap_len (a b : Int) : (gap a b).length = (b - a - 1).toNat := by simp [gap]

/-- Ascending counters from 0 to 200. -/
structure Asc (xs : List Int) (n : Nat) : Prop where
  len : xs.length = n
  bd : ∀ j, j < n → 0 ≤ xs[j]?.getD 0 ∧ xs[j]?.getD 0 ≤ 200
  up : ∀ j, j + 1 < n → xs[j]?.getD 0 < xs[j + 1]?.getD 0
theorem gapsTo_len {xs : List Int} {n : Nat} (h : Asc xs n) : ∀ k, k < n → ((gapsTo xs k).length : Int) ≤ xs[k]?.getD 0
  | 0, hk => by have := h.bd 0 hk; simp [gapsTo]; omega
  | k + 1, hk => by
    have ih := gapsTo_len h k (by omega)
    have hu := h.up k hk
    rw [gapsTo_succ, List.length_append, gap_len]
    omega

theorem owns_slice {w : World} {B T sz n : Nat} {v : Value} {xs : List Value} (h : w.ownsRow B T sz v n xs) : ∃ ao c, v = .slice ao n c := by
  rcases h.2 with ⟨h, h0⟩ | ⟨g, cap, cur, h, _⟩
  · exact ⟨none, 0, by rw [h, h0]⟩
  · exact ⟨_, _, h⟩

theorem missing_none (ao : Option Addr) (c : Nat) (w : World) :
    Calls Tryz.prog 102 #[.slice ao 0 c, .int .i64 257] w fun e w' => e = .returned (.slice none 0 0) ∧ w = w' := by
  go_enter Tryz.func102, Tryz.ntmps102
  go_wp2
  go_step3
  go_wp2
  go_step3
  go_wp2
  refine wp_loop_rounds 1 ?_
  rw [rounds_succ]
  go_wp2
  try rw [Exit.noGoto_ret]
  go_ret
  exact ⟨rfl, rfl⟩

set_option maxRecDepth 100000 in
set_option maxHeartbeats 3200000 in
theorem missing_any (xs : List Int) (n g c : Nat) (hA : Asc xs n) (hn1 : 1 ≤ n) (hm : n ≤ 512) (w : World) (hg : g < w.heap.size) (hc : ∀ j, j < n → w.cell? ⟨g, j, none⟩ = some (.int .i64 (xs[j]?.getD 0))) :
    Calls Tryz.prog 102 #[.slice (some ⟨g, 0, none⟩) n c, .int .i64 257] w fun e w' =>
      ∃ v, e = .returned v ∧ w'.ownsRow w.heap.size 3 1 v (gapsTo xs (n - 1)).length ((gapsTo xs (n - 1)).map (Value.int .i64)) ∧ Below w.heap.size w w' := by
  obtain ⟨i0, hi, hz0, hz1, hz2⟩ := info_parts Tryz.infoInt
  have HC := Lib.hid hc
  have HA := Lib.hid hA
  clear hc hA
  have j1 : ((1 : Int) ≤ (n : Int)) := by omega
  have j2 : ((n : Int) ≤ 512) := by omega
  go_enter Tryz.func102, Tryz.ntmps102
  go_wp2
  go_step3
  go_wp2
  go_step3
  go_wp2
  go_loopw [5, 13] (fun out i wr => ∃ k : Nat, k ≤ n - 1 ∧ i = .int .i64 k ∧ wr.ownsRow w.heap.size 3 1 out (gapsTo xs k).length ((gapsTo xs k).map (Value.int .i64)) ∧ Below w.heap.size w wr)
    (fun _ i _ => n - (intOf i).toNat)
  case atStart => exact ⟨0, Nat.zero_le _, rfl, World.ownsRow_nil _ _ _ _, Below.refl _ _⟩
  case round =>
    obtain ⟨k, hk, rfl, hown, hnx⟩ := hrel
    have hsz := hnx.size
    by_cases hlt : k + 1 < n
    · have c0 : wr.cell? ⟨g, k, none⟩ = some (.int .i64 (xs[k]?.getD 0)) := (hnx.cell (by exact hg)).trans (HC.out k (by omega))
      have c1 : wr.cell? ⟨g, k + 1, none⟩ = some (.int .i64 (xs[k + 1]?.getD 0)) := (hnx.cell (by exact hg)).trans (HC.out (k + 1) hlt)
      have hb0 := HA.out.bd k (by omega)
      have hb1 := HA.out.bd (k + 1) hlt
      have hup := HA.out.up k hlt
      have hlen := gapsTo_len HA.out k (by omega)
      have hS := gapsTo_succ xs k
      obtain ⟨a, ha⟩ : ∃ a, xs[k]?.getD 0 = a := ⟨_, rfl⟩
      obtain ⟨b, hb⟩ : ∃ b, xs[k + 1]?.getD 0 = b := ⟨_, rfl⟩
      obtain ⟨pre, hpre⟩ : ∃ pre, gapsTo xs k = pre := ⟨_, rfl⟩
      rw [ha] at c0 hb0 hup hlen hS
      rw [hb] at c1 hb1 hup hS
      rw [hpre] at hown hlen hS
      have HS := Lib.hid hS
      clear ha hb hpre hS
      have hltI : ((k : Int) < (n : Int) - 1) := by omega
      have k0 : ((k : Int) < (n : Int)) := by omega
      have k1 : ((k : Int) + 1 < (n : Int)) := by omega
      have k2 : ((0 : Int) ≤ (k : Int) + 1) := by omega
      have k3 : ((k : Int) + 1).toNat = k + 1 := by omega
      have k4 : IntKind.i64.wrap ((k : Int) + 1) = (k : Int) + 1 := IntWalk.i64_in _ ⟨by omega, by omega⟩
      go_wp2_with fail
      go_region_held3 (fun w' => w'.cell? ⟨g, k, none⟩ = some (.int .i64 a) ∧ w'.cell? ⟨g, k + 1, none⟩ = some (.int .i64 b)) (go_keep) (fail)
      have hf : (a + 1) % 65536 = a + 1 := by omega
      go_wp2_with (go_at_call 150; refine (following_any _ hb0.1 (by omega) _).mono ?_; rintro e w' ⟨rfl, rfl⟩)
      obtain ⟨Wd, hWd⟩ : ∃ Wd, wr.drew = Wd := ⟨_, rfl⟩
      have hownd : Wd.ownsRow w.heap.size 3 1 u5 pre.length (pre.map (Value.int .i64)) := by rw [← hWd]; exact hown
      have hBd : Below w.heap.size w Wd := by rw [← hWd]; exact hnx.drew
      rw [hWd]
      clear hWd hown c0 c1
      go_loopw [5, 9] (fun out i wi => ∃ j : Nat, (j : Int) ≤ b - a - 1 ∧ i = .int .i64 (a + 1 + j) ∧ wi.ownsRow w.heap.size 3 1 out (pre.length + j) ((pre ++ (List.range j).map (fun j : Nat => a + 1 + (j : Int))).map (Value.int .i64)) ∧ Below w.heap.size w wi)
        (fun _ i _ => (b - intOf i).toNat)
      case atStart => exact ⟨0, by omega, by simp, by simpa using hownd, hBd⟩
      case round =>
        obtain ⟨j, hj, rfl, hown, hnx2⟩ := hrel
        have hsz2 := hnx2.size
        by_cases hjl : (j : Int) < b - a - 1
        · have hne : ((a + 1 + (j : Int)) != b) = true := by simp; omega
          obtain ⟨ℓ, hℓ⟩ : ∃ ℓ, pre.length + j = ℓ := ⟨_, rfl⟩
          have hℓ2 : ℓ ≤ 200 := by omega
          have hℓ3 : ((ℓ : Int) == 257) = false := by simp; omega
          rw [hℓ] at hown
          obtain ⟨ao, cc, rfl⟩ := owns_slice hown
          have hf2 : (a + 1 + (j : Int) + 1) % 65536 = a + 1 + (j : Int) + 1 := by omega
          have hj1 : (((j + 1 : Nat)) : Int) ≤ b - a - 1 := by omega
          have HL := Lib.hid hℓ
          have HJ1 := Lib.hid hj1
          clear hℓ hjl hj1
          go_wp2_with (first
            | (go_at_call 150; refine (following_any _ (by omega) (by omega) _).mono ?_; rintro e w' ⟨rfl, rfl⟩)
            | (at_builtin; refine wpList_append_own _ rfl (.tmp 36) (.tmp 38) 91 rfl w.heap.size 3 i0 (.int .i64 0) 1 8 Tryz.underlying91 hi hz0 hz1 hz2 rfl (by decide) _ _ _ rfl (hown.alloc _) ⟨wr.heap.size, 0, none⟩ 1 1 [.int .i64 (a + 1 + (j : Int))] rfl rfl (cell_one_new _ _ _) (by intro u hu; simp at hu; subst hu; rfl) (by unfold maxLen; omega) (by omega) (by simp; omega) ?_; intro v' w3 hown3 hgrow3 _))
          have hlt' := hown.lt
          go_roundw
          case rel =>
            refine ⟨j + 1, HJ1.out, by push_cast; go_num, ?_, (hnx2.alloc hsz2 _).grown hgrow3 (by simp; omega) (fun q hq => (hlt' q hq).1)⟩
            have e : (pre ++ (List.range (j + 1)).map (fun j : Nat => a + 1 + (j : Int))).map (Value.int .i64) = (pre ++ (List.range j).map (fun j : Nat => a + 1 + (j : Int))).map (Value.int .i64) ++ [.int .i64 (a + 1 + (j : Int))] := by simp [List.range_succ]
            rw [e, show pre.length + (j + 1) = ℓ + 1 by have := HL.out; omega]
            exact hown3
          case measure => have := HJ1.out; simp [intOf]; omega
        · have hje : a + 1 + (j : Int) = b := by omega
          have hne : ((a + 1 + (j : Int)) != b) = false := by simp [hje]
          have HJ := Lib.hid hje
          clear hje hjl
          go_wp2
          go_roundw
          case rel =>
            refine ⟨k + 1, by omega, by go_num, ?_, hnx2⟩
            have e : (b - a - 1).toNat = j := by have := HJ.out; omega
            rw [HS.out, gap, e]
            simpa using hown
          case measure => simp [intOf]; omega
    · have hltI : ¬ ((k : Int) < (n : Int) - 1) := by omega
      go_wp2
      try rw [Exit.noGoto_ret]
      go_ret
      obtain rfl : k = n - 1 := by omega
      exact ⟨_, rfl, hown, hnx⟩
end Go.Proofs.YtfpagmalblmnkaaGreatDoor

/-
  Contract of Lost for telegrams whose numbers are in their ranges and a station whose counters ascend.
-/
namespace Go.Proofs.YtfpagmalblmnkaaGreatDoor
open Go.RowKit
set_option linter.unusedVariables false

theorem owns_some {w : World} {B T sz n : Nat} {v : Value} {xs : List Value} (h : w.ownsRow B T sz v n xs) (hn : 1 ≤ n) : ∃ g c, v = .slice (some ⟨g, 0, none⟩) n c ∧ g < w.heap.size ∧ B ≤ g := by
  rcases h.2 with ⟨_, h0⟩ | ⟨g, cap, cur, h, h2, h3, _⟩
  · omega
  · exact ⟨g, cap, h, (Array.getElem?_eq_some_iff.1 h3).1, h2⟩


/-- missing at a slice that owns ascending counters, or at none. -/
theorem missing_own (xs : List Int) (n : Nat) (hA : Asc xs n) (hm : n ≤ 512) (w : World) (B : Nat) (v : Value) (h : w.ownsRow B 3 1 v n (xs.map (Value.int .i64))) :
    Calls Tryz.prog 102 #[v, .int .i64 257] w fun e w' =>
      ∃ v', e = .returned v' ∧ w'.ownsRow w.heap.size 3 1 v' (gapsTo xs (n - 1)).length ((gapsTo xs (n - 1)).map (Value.int .i64)) ∧ Below w.heap.size w w' := by
  by_cases hn : 1 ≤ n
  · obtain ⟨g, c, rfl, hg, _⟩ := owns_some h hn
    exact missing_any xs n g c hA hn hm w hg (fun j hj => owns_cell h (by
      rw [List.getElem?_map, List.getElem?_eq_getElem (by rw [hA.len]; exact hj)]; rfl))
  · obtain rfl : n = 0 := by omega
    have hx : xs = [] := List.length_eq_zero_iff.1 hA.len
    subst hx
    obtain ⟨ao, c, rfl⟩ := owns_slice h
    exact (missing_none ao c w).mono fun e w' ⟨he, hw⟩ => ⟨_, he, by subst hw; exact World.ownsRow_nil _ _ _ _, by subst hw; exact Below.refl _ _⟩

set_option maxRecDepth 100000 in
set_option maxHeartbeats 3200000 in
theorem checkList_tel (L : List Tel) (hg : ∀ t ∈ L, t.Good) (b q n cp : Nat) (hn : n = L.length) (hm : n ≤ 512) (w : World) (hb : b < w.heap.size) (hc : TelsAt w b q L) :
    Calls Tryz.prog 101 #[.slice (some ⟨b, q, none⟩) n cp, .int .i64 512, .func (.func 96) #[] #[]] w fun e w' =>
      e = .returned (.int .i64 0) ∧ Below w.heap.size w w' := by
  have K1 := Lib.hid (mapped_tel L hg b q n cp hn hm w hb hc)
  have i1 : ((n : Int) ≤ 512) := by omega
  clear hg hc hn
  go_enter Tryz.func101, Tryz.ntmps101
  go_wp2_with (first
    | (go_at_call 149; refine K1.out.mono ?_; rintro e w1 ⟨rfl, hown1, hb1⟩
       have HZ : Hid (∀ j, j < n → w1.cell? ⟨w.heap.size, 0 + j, none⟩ = some (.int .i64 0)) := Lib.hid fun j hj => by
         rw [Nat.zero_add]
         refine owns_cell hown1 ?_
         simp [hj]
       have HB := Lib.hid hb1
       clear hown1 hb1)
    | (go_at_call 41; refine (first_zeros _ 0 _ _ (by omega) _ HZ.out).mono ?_; rintro e w' ⟨rfl, rfl⟩))
  go_ret
  exact ⟨rfl, HB.out⟩

set_option maxRecDepth 100000 in
set_option maxHeartbeats 3200000 in
theorem lost_any (L : List Tel) (hg : ∀ t ∈ L, t.Good) (b q n cp : Nat) (st : Int) (hs : 0 ≤ st ∧ st ≤ 255) (hn : n = L.length) (hm : n ≤ 512) (w : World) (hb : b < w.heap.size) (hc : TelsAt w b q L)
    (hA : Asc (countsOf L st) (countsOf L st).length) (hlen : (gapsTo (countsOf L st) ((countsOf L st).length - 1)).length ≤ 256) :
    Calls Tryz.prog 36 #[.slice (some ⟨b, q, none⟩) n cp, .int .i64 st] w fun e w' =>
      ∃ v, e = .returned (.tuple #[v, .int .i64 0]) ∧ w'.ownsRow w.heap.size 3 1 v (gapsTo (countsOf L st) ((countsOf L st).length - 1)).length ((gapsTo (countsOf L st) ((countsOf L st).length - 1)).map (Value.int .i64)) ∧ Below w.heap.size w w' := by
  have K1 := Lib.hid (checkList_tel L hg b q n cp hn hm w hb hc)
  have K2 := Lib.hid (fun (w' : World) (h1 : b < w'.heap.size) (h2 : TelsAt w' b q L) => countersOf_any L b q n cp st hn hm w' h1 h2)
  have hcl := counts_len L st
  have K3 := Lib.hid (fun (w' : World) (B : Nat) (v : Value) h => missing_own (countsOf L st) _ hA (by omega) w' B v h)
  have HC := Lib.hid hc
  have hst : rangeErr st 0 255 = 0 := rangeErr_in hs.1 hs.2
  have i1 : ((n : Int) ≤ 512) := by omega
  obtain ⟨R, hR⟩ : ∃ R, gapsTo (countsOf L st) ((countsOf L st).length - 1) = R := ⟨_, rfl⟩
  rw [hR] at K3 hlen ⊢
  have i2 : ((R.length : Int) ≤ 256) := by omega
  clear hg hc hA hn hR hcl hs
  go_enter Tryz.func36, Tryz.ntmps36
  go_wp2_with (first
    | (go_at_call 101; refine K1.out.mono ?_; rintro e w1 ⟨rfl, hb1⟩)
    | (go_at_call 89; refine (checkRange_any _ _ _ _).mono ?_; rintro e w' ⟨rfl, rfl⟩)
    | (go_at_call 41; refine (first_zeros _ 0 2 2 (by omega) _ (fun j hj => by match j, hj with | 0, _ => simp [go_sem] | 1, _ => simp [go_sem])).mono ?_; rintro e w' ⟨rfl, rfl⟩
       have hb3 : Below w.heap.size w (w1.alloc (.cells #[.int .i64 0, .int .i64 0] 27)) := hb1.alloc hb1.size _
       have hw3 := hb3.size
       have hc3 := HC.out.kept hb3 hb
       have K4 := Lib.hid (K2.out _ (by have := hb3.size; omega) hc3)
       clear hc3)
    | (go_at_call 103; refine K4.out.mono ?_; rintro e w4 ⟨v4, rfl, hown4, hb4⟩
       have K5 := Lib.hid (K3.out w4 _ _ hown4)
       have hb5 : Below w.heap.size w w4 := hb3.trans (hb4.mono hw3))
    | (go_at_call 102; refine K5.out.mono ?_; rintro e w6 ⟨v6, rfl, hown6, hb6⟩
       obtain ⟨ao, c6, rfl⟩ := owns_slice hown6
       have hb7 : Below w.heap.size w w6 := hb5.trans (hb6.mono hb5.size)))
  go_ret2
  exact ⟨_, rfl, owns_base hown6 hb5.size, hb7⟩
end Go.Proofs.YtfpagmalblmnkaaGreatDoor

/-
  Contract of painted with the literal of Added: the map whose integers the literal tells for each place.
-/
namespace Go.Proofs.YtfpagmalblmnkaaGreatDoor
open Go.RowKit Go.Shelf
set_option linter.unusedVariables false
attribute [local go_sem] Oper.semAt_some

theorem KeepsOthers.of_below {W W' : World} (h : Below W.heap.size W W') : KeepsOthers W W' :=
  ⟨h.size, fun k o hk _ => (h.block k (Array.getElem?_eq_some_iff.1 hk).1).trans hk⟩

theorem owns_room {w : World} {B T n N g : Nat} {xs : List Value} (h : w.ownsRow B T 1 (.slice (some ⟨g, 0, none⟩) n N) n xs) (hn : n < N) : ∃ u, w.cell? ⟨g, n, none⟩ = some u ∧ w.frozen? ⟨g, n, none⟩ = false ∧ g < w.heap.size := by
  rcases h.2 with ⟨h, _⟩ | ⟨g', cap, cur, e, _, hg, hnc, hcm, hcs, _⟩
  · cases h
  · simp at e
    obtain ⟨rfl, rfl⟩ := e
    refine ⟨cur[n]'(by omega), ?_, by simp [World.frozen?, hg], (Array.getElem?_eq_some_iff.1 hg).1⟩
    rw [cell_of_row w g n _ _ (0, 0) hg]
    exact Array.getElem?_eq_getElem _
theorem owns_put {w : World} {B T n N g : Nat} {xs : List Value} (h : w.ownsRow B T 1 (.slice (some ⟨g, 0, none⟩) n N) n xs) (hn : n < N) (v : Value) : (w.setCell ⟨g, n, none⟩ v).ownsRow B T 1 (.slice (some ⟨g, 0, none⟩) (n + 1) N) (n + 1) (xs ++ [v]) := by
  have hl := h.1
  refine ⟨by simp [hl], ?_⟩
  rcases h.2 with ⟨h, _⟩ | ⟨g', cap, cur, e, hB, hg, hnc, hcm, hcs, ht⟩
  · cases h
  · simp at e
    obtain ⟨rfl, rfl⟩ := e
    refine .inr ⟨g, N, cur.setIfInBounds n v, rfl, hB, ?_, hn, hcm, by simpa using hcs, ?_⟩
    · rw [setCell_eq_setRow w g n cur T (0, 0) v hg]
      exact setRow_heap w g cur _ T _ hg
    · have : n < cur.toList.length := by simp; omega
      simp only [Array.toList_setIfInBounds, Nat.mul_one] at ht ⊢
      rw [List.take_succ_eq_append_getElem (by simpa using this), List.take_set_of_le (Nat.le_refl _), ht]
      simp
theorem owns_room' {w : World} {B T n c g : Nat} {xs : List Value} (h : w.ownsRow B T 1 (.slice (some ⟨g, 0, none⟩) n c) n xs) : B ≤ g ∧ g < w.heap.size := by
  rcases h.2 with ⟨h, _⟩ | ⟨g', cap, cur, e, hB, hg, _⟩
  · cases h
  · simp at e
    obtain ⟨rfl, rfl⟩ := e
    exact ⟨hB, (Array.getElem?_eq_some_iff.1 hg).1⟩
theorem row_own {β : Type} (B : Nat) (cs : Array Value) (t : TypeId) : Own (fun (_ : β) W => W.heap[B]? = some (.cells cs t (0, 0))) := fun s X Y row h hg hr =>
  (hg.block B (Array.getElem?_eq_some_iff.1 h).1 (fun e => by obtain ⟨o, ho, hc⟩ := hr B e.symm; rw [h] at ho; cases ho; cases hc)).trans h

end Go.Proofs.YtfpagmalblmnkaaGreatDoor

/-
  Contract of Added's literal: the sum of the integers of two grids at a place.
-/
namespace Go.Proofs.YtfpagmalblmnkaaGreatDoor
open Go.RowKit
set_option linter.unusedVariables false

/-- A variable that holds a grid. -/
structure GridAt (w : World) (g7 : Nat) (W H : Int) (g n c : Nat) : Prop where
  c0 : w.cell? ⟨g7, 0, none⟩ = some (.int .i64 W)
  c1 : w.cell? ⟨g7, 1, none⟩ = some (.int .i64 H)
  c2 : w.cell? ⟨g7, 2, none⟩ = some (.slice (some ⟨g, 0, none⟩) n c)
theorem GridAt.below {B : Nat} {w w' : World} {g7 : Nat} {W H : Int} {g n c : Nat} (h : GridAt w g7 W H g n c) (hb : Below B w w') (hB : g7 < B) : GridAt w' g7 W H g n c :=
  ⟨(hb.cell (p := ⟨g7, 0, none⟩) hB).trans h.c0, (hb.cell (p := ⟨g7, 1, none⟩) hB).trans h.c1, (hb.cell (p := ⟨g7, 2, none⟩) hB).trans h.c2⟩

end Go.Proofs.YtfpagmalblmnkaaGreatDoor

/-
  Contract of Total for a right map: the sum of its integers.
-/
namespace Go.Proofs.YtfpagmalblmnkaaGreatDoor
open Go.RowKit
set_option linter.unusedVariables false

theorem sum_take_succ (ks : List Int) (k : Nat) (hk : k < ks.length) : (ks.take (k + 1)).sum = (ks.take k).sum + ks[k]?.getD 0 := by
  rw [List.take_succ_eq_append_getElem hk, List.sum_append, List.getElem?_eq_getElem hk]; simp
theorem sum_take_bd {ks : List Int} {M : Nat} {n : Nat} (hl : ks.length = n) (h : ∀ j, j < n → (ks[j]?.getD 0).natAbs ≤ M) : ∀ k, k ≤ n → -((M * k : Nat) : Int) ≤ (ks.take k).sum ∧ (ks.take k).sum ≤ ((M * k : Nat) : Int)
  | 0, _ => by simp
  | k + 1, hk => by
    have ih := sum_take_bd hl h k (by omega)
    have hb := h k (by omega)
    rw [sum_take_succ ks k (by omega)]
    rw [Nat.mul_succ]
    push_cast at ih ⊢
    omega

set_option maxRecDepth 100000 in
set_option maxHeartbeats 3200000 in
theorem total_any (W H : Int) (b o n c : Nat) (xs : List Nat) (ks : List Int) (w : World) (hw : RightMap w W H b o n xs ks) (hb : b < w.heap.size) :
    Calls Tryz.prog 24 #[.agg #[.int .i64 W, .int .i64 H, .slice (some ⟨b, o, none⟩) n c]] w fun e w' => e = .returned (.tuple #[.int .i64 ks.sum, .int .i64 0]) ∧ Below w.heap.size w w' := by
  have K1 : Hid (∀ w1 : World, Below w.heap.size w w1 → Calls Tryz.prog 65 #[.agg #[.int .i64 W, .int .i64 H, .slice (some ⟨b, o, none⟩) n c]] w1 fun e w' => e = .returned (.int .i64 0) ∧ Below w1.heap.size w1 w') :=
    Lib.hid fun w1 h => checkMap_any W H b o n c xs ks w1 (hw.below h hb) (by have := h.size; omega)
  have K2 : Hid (∀ w1 : World, Below w.heap.size w w1 → Calls Tryz.prog 69 #[.agg #[.int .i64 W, .int .i64 H, .slice (some ⟨b, o, none⟩) n c]] w1 fun e w' =>
      e = .returned (.agg #[.int .i64 W, .int .i64 H, .slice (some ⟨w1.heap.size + 2, 0, none⟩) n n]) ∧ w'.ownsRow (w1.heap.size + 2) 3 1 (.slice (some ⟨w1.heap.size + 2, 0, none⟩) n n) n (ks.map (Value.int .i64)) ∧ Below w1.heap.size w1 w') :=
    Lib.hid fun w1 h => gridOf_any W H b o n c xs ks w1 (hw.below h hb).toWords (by have := h.size; omega)
  have hfld : ∀ (g : Nat) (w : World), (Instr.field 141 (.agg #[.int .i64 W, .int .i64 H, .slice (some ⟨g, 0, none⟩) n n]) 2).run Tryz.prog w = .ok (.slice (some ⟨g, 0, none⟩) n n) w := fun _ _ => by kernel_rfl
  have hsm := hw.small
  have HW := Lib.hid hw
  have HBD := Lib.hid (sum_take_bd hw.lenk hw.sizes)
  clear hw
  go_enter Tryz.func24, Tryz.ntmps24
  go_wp2_with (first
    | (go_at_call 65; refine (K1.out _ ((Below.refl _ w).alloc (Nat.le_refl _) _)).mono ?_; rintro e w1 ⟨rfl, hb1⟩
       have hs1 : w.heap.size + 1 ≤ w1.heap.size := by have := hb1.size; simpa using this
       have hB1 : Below w.heap.size w w1 := ((Below.refl _ w).alloc (Nat.le_refl _) _).trans (hb1.mono (by simp))
       have c0 : w1.cell? ⟨w.heap.size, 0, none⟩ = some (.int .i64 W) := by rw [hb1.cell (by simp)]; simp [go_sem]
       have c1 : w1.cell? ⟨w.heap.size, 1, none⟩ = some (.int .i64 H) := by rw [hb1.cell (by simp)]; simp [go_sem]
       have c2 : w1.cell? ⟨w.heap.size, 2, none⟩ = some (.slice (some ⟨b, o, none⟩) n c) := by rw [hb1.cell (by simp)]; simp [go_sem]
       have HB1 := Lib.hid hB1
       clear hb1 hB1)
    | (go_at_call 69; refine (K2.out _ HB1.out).mono ?_; rintro e w2 ⟨rfl, hown2, hb2⟩
       have HB2 := Lib.hid (HB1.out.trans (hb2.mono HB1.out.size))
       have HO2 := Lib.hid hown2
       clear hb2 hown2 c0 c1 c2))
  go_loop [5, 17] (fun x i => ∃ k : Nat, k ≤ n ∧ i = .int .i64 k ∧ x = .int .i64 (ks.take k).sum) (fun _ i => n - (intOf i).toNat)
  case atStart => exact ⟨0, Nat.zero_le _, rfl, rfl⟩
  case round =>
    obtain ⟨k, hk, rfl, rfl⟩ := hrel
    have hbd := HBD.out k hk
    by_cases hlt : k < n
    · have hcell : w2.cell? ⟨w1.heap.size + 2, k, none⟩ = some (.int .i64 (ks[k]?.getD 0)) := owns_cell HO2.out (by
        rw [List.getElem?_map, List.getElem?_eq_getElem (by have := HW.out.lenk; omega)]; rfl)
      have hz := HW.out.sizes k hlt
      have hS := sum_take_succ ks k (by have := HW.out.lenk; omega)
      have HS := Lib.hid hS
      have hb3 : -67108864 ≤ (ks.take k).sum ∧ (ks.take k).sum ≤ 67108864 := by
        have : 16384 * k ≤ 67108864 := by omega
        omega
      clear hS hbd
      go_wp2
      go_round
      case rel => exact ⟨k + 1, by omega, by go_num, by rw [HS.out]⟩
      case measure => simp [intOf]; omega
    · go_wp2
      go_ret2
      obtain rfl : k = n := by omega
      exact ⟨by rw [List.take_of_length_le (by have := HW.out.lenk; omega)]; rfl, HB2.out⟩
end Go.Proofs.YtfpagmalblmnkaaGreatDoor

/-
  What stands behind the two grids of Added; blocks behind stores and new blocks.
-/
namespace Go.Proofs.YtfpagmalblmnkaaGreatDoor
open Go.RowKit
set_option linter.unusedVariables false
attribute [local go_sem ↓] Go.wp_at_zero Go.wp_at_succ

/-- Integers that lie in a block. -/
structure RowAt (w : World) (g n : Nat) (ks : List Int) : Prop where
  lt : g < w.heap.size
  cells : ∀ j, j < n → w.cell? ⟨g, j, none⟩ = some (.int .i64 (ks[j]?.getD 0))
theorem RowAt.below {B : Nat} {w w' : World} {g n : Nat} {ks : List Int} (h : RowAt w g n ks) (hb : Below B w w') (hB : g < B) : RowAt w' g n ks :=
  ⟨Nat.lt_of_lt_of_le h.lt hb.size, fun j hj => (hb.cell (p := ⟨g, j, none⟩) hB).trans (h.cells j hj)⟩
theorem grid_row (W H : Int) (b o n c : Nat) (xs : List Nat) (ks : List Int) (w : World) (hw : Words w b o n xs ks) (hb : b < w.heap.size) :
    Calls Tryz.prog 69 #[.agg #[.int .i64 W, .int .i64 H, .slice (some ⟨b, o, none⟩) n c]] w fun e w' =>
      ∃ g, e = .returned (.agg #[.int .i64 W, .int .i64 H, .slice (some ⟨g, 0, none⟩) n n]) ∧ w.heap.size ≤ g ∧ RowAt w' g n ks ∧ Below w.heap.size w w' :=
  (gridOf_any W H b o n c xs ks w hw hb).mono fun e w' ⟨he, ho, hB⟩ => ⟨_, he, by omega, ⟨(ho.lt _ rfl).2, fun j hj => owns_cell ho (by
    rw [List.getElem?_map, List.getElem?_eq_getElem (by rw [hw.lenk]; exact hj)]; rfl)⟩, hB⟩

theorem bcell {W w1 : World} (hb : Below W.heap.size W w1) : (∀ b o, b < W.heap.size → w1.cell? ⟨b, o, none⟩ = W.cell? ⟨b, o, none⟩) ∧ (∀ b o, b < W.heap.size → w1.frozen? ⟨b, o, none⟩ = W.frozen? ⟨b, o, none⟩) :=
  ⟨fun b o h => hb.cell (p := ⟨b, o, none⟩) h, fun b o h => hb.frozen (p := ⟨b, o, none⟩) h⟩
/-- Below, closed to what takes conjunctions apart. -/
def Blw (N : Nat) (w w' : World) : Prop := Below N w w'
/-- What stands behind the two grids. -/
def GridsMade (w W0 : World) (W H : Int) (n : Nat) (ks js : List Int) (s7 s8 : Value) (wx : World) : Prop :=
  ∃ g7 g8 ga gb : Nat, s7 = .pointer (some ⟨g7, 0, none⟩) ∧ s8 = .pointer (some ⟨g8, 0, none⟩) ∧ GridAt wx g7 W H ga n n ∧ GridAt wx g8 W H gb n n ∧ RowAt wx ga n ks ∧ RowAt wx gb n js ∧ g7 < wx.heap.size ∧ g8 < wx.heap.size ∧ Below (w.heap.size + 3) W0 wx
theorem placesTo_get (W k j : Nat) (h : j < k) : (placesTo W k)[j]? = some (j % W, j / W) := by
  rw [placesTo, List.getElem?_map, List.getElem?_range h]; rfl
theorem idx_lt {W H n : Nat} {p : Nat × Nat} (h1 : p.1 < W) (h2 : p.2 < H) (hn : W * H = n) : p.2 * W + p.1 < n := by
  have := Nat.mul_le_mul_right W (show p.2 + 1 ≤ H by omega)
  rw [Nat.add_mul, Nat.one_mul, Nat.mul_comm H W, hn] at this
  omega
theorem RowAt.set {w : World} {g n : Nat} {ks : List Int} (h : RowAt w g n ks) {p : Addr} (hp : p.block ≠ g) (v : Value) : RowAt (w.setCell p v) g n ks :=
  ⟨by simpa [World.setCell] using h.lt, fun j hj => (World.cell?_setCell_other w p ⟨g, j, none⟩ v (fun e => hp (by rw [e]))).trans (h.cells j hj)⟩
theorem RowAt.alloc {w : World} {g n : Nat} {ks : List Int} (h : RowAt w g n ks) (o : Obj) : RowAt (w.alloc o) g n ks := h.below ((Below.refl _ w).alloc (Nat.le_refl _) o) h.lt
theorem blk_set_other {w : World} {B : Nat} {o : Obj} (h : w.heap[B]? = some o) {p : Addr} (hp : p.block ≠ B) (v : Value) : (w.setCell p v).heap[B]? = some o := by
  rw [← h]; exact Below.heap_setCell _ _ _ _ (fun e => hp e.symm)
theorem blk_alloc_other {w : World} {B : Nat} {o : Obj} (h : w.heap[B]? = some o) (x : Obj) : (w.alloc x).heap[B]? = some o := (Below.heap_alloc _ _ _ (Array.getElem?_eq_some_iff.1 h).1).trans h
theorem blk_drew {w : World} {B : Nat} {o : Obj} (h : w.heap[B]? = some o) : w.drew.heap[B]? = some o := h
theorem blk_alloc_new (w : World) (o : Obj) : (w.alloc o).heap[w.heap.size]? = some o := heap_alloc_new w o
theorem blk_alloc_new1 (w : World) (o o' : Obj) : ((w.alloc o').alloc o).heap[w.heap.size + 1]? = some o := heap_alloc2_new w _ _
theorem blk_alloc_at (w : World) (o : Obj) {B : Nat} (h : w.heap.size = B) : (w.alloc o).heap[B]? = some o := by rw [← h]; exact blk_alloc_new w o
theorem blk_set3 {w : World} {B : Nat} {T : TypeId} {x y z : Value} (h : w.heap[B]? = some (.cells #[x, y, z] T (0, 0))) (a b c : Value) :
    (((w.setCell ⟨B, 0, none⟩ a).setCell ⟨B, 1, none⟩ b).setCell ⟨B, 2, none⟩ c).heap[B]? = some (.cells #[a, b, c] T (0, 0)) := by
  simp only [World.setCell, Array.getElem?_modify, if_true, h, Option.map_some]
  simp
theorem GridAt.of_blk {w : World} {B : Nat} {T : TypeId} {W H : Int} {g n c : Nat} (h : w.heap[B]? = some (.cells #[.int .i64 W, .int .i64 H, .slice (some ⟨g, 0, none⟩) n c] T (0, 0))) : GridAt w B W H g n c :=
  ⟨by rw [cell_of_row w B 0 _ _ (0, 0) h]; rfl, by rw [cell_of_row w B 1 _ _ (0, 0) h]; rfl, by rw [cell_of_row w B 2 _ _ (0, 0) h]; rfl⟩
theorem lt_of_blk {w : World} {B : Nat} {o : Obj} (h : w.heap[B]? = some o) : B < w.heap.size := (Array.getElem?_eq_some_iff.1 h).1
theorem below_alloc {N : Nat} {W0 W1 : World} (h : Below N W0 W1) (hN : N ≤ W0.heap.size) (o : Obj) : Below N W0 (W1.alloc o) := h.alloc (Nat.le_trans hN h.size) o

end Go.Proofs.YtfpagmalblmnkaaGreatDoor

/-
  Contract of power: the powers of -i.
-/
namespace Go.Proofs.YtfpagmalblmnkaaGreatDoor
open Go.RowKit
set_option linter.unusedVariables false
set_option linter.unusedSimpArgs false

theorem store_complex (P : Program) (w : World) (a : Addr) (m : Mode) (k : FloatKind) (x y : Nat) : (store a (.complex k x y) m).run P w = stored P w a (.complex k x y) m := run_store P w a _ m rfl

/-- The powers of -i, by the exponent modulo 4. -/
def powL : List Value := [.complex .f32 1065353216 0, .complex .f32 0 3212836864, .complex .f32 3212836864 0, .complex .f32 0 1065353216]
theorem powL_at (k : Nat) (hk : k < 4) : ∃ x y, powL[k]? = some (.complex .f32 x y) := by
  match k, hk with
  | 0, _ => exact ⟨_, _, rfl⟩
  | 1, _ => exact ⟨_, _, rfl⟩
  | 2, _ => exact ⟨_, _, rfl⟩
  | 3, _ => exact ⟨_, _, rfl⟩

attribute [local go_sem] store_complex
set_option maxRecDepth 100000 in
set_option maxHeartbeats 3200000 in
theorem power_any (n k : Nat) (v : Value) (hk : n % 4 = k) (hv : powL[k]? = some v) (w : World) :
    Calls Tryz.prog 44 #[.int .i64 n] w fun e w' => e = .returned v ∧ Below w.heap.size w w' := by
  have hk4 : k < 4 := by omega
  have hm : ((n : Int)).tmod 4 = (k : Int) := by rw [Int.tmod_eq_emod_of_nonneg (by omega)]; omega
  obtain ⟨W1, hW1⟩ : ∃ W1, w.alloc (.cells #[.complex .f32 1065353216 0, .complex .f32 0 3212836864, .complex .f32 3212836864 0, .complex .f32 0 1065353216] 26) = W1 := ⟨_, rfl⟩
  have hB : Below w.heap.size w W1 := by rw [← hW1]; exact (Below.refl _ w).alloc (Nat.le_refl _) _
  have hc : W1.cell? ⟨w.heap.size, k, none⟩ = some v := by
    rw [← hW1, cell_of_row _ _ k _ _ (0, 0) (blk_alloc_new _ _)]
    simpa [powL] using hv
  have HB := Lib.hid hB
  go_enter Tryz.func44, Tryz.ntmps44
  go_upto_region 2 with fail
  clear hW1
  go_wp2_with fail
  go_ret
  exact ⟨rfl, HB.out⟩
end Go.Proofs.YtfpagmalblmnkaaGreatDoor

/-
  Sums of complex numbers, and their products with the powers of -i, where the parts are multiples of 1/16: exact.
-/
namespace Go.Proofs.YtfpagmalblmnkaaGreatDoor
open Go.RowKit
open Ieee (Format single double Datum signed)
set_option linter.unusedVariables false
set_option linter.unusedSimpArgs false

theorem run_conv {P : Program} (w : World) {src dst : FloatKind} {x d : Nat} (hne : ¬ src = dst) (h : floatToFloatBits src x dst = some d) : (Op.Complex.conv src x dst).run P w = .ok d w := by
  unfold floatToFloatBits at h
  rw [if_neg hne] at h
  unfold Op.Complex.conv
  rw [if_neg hne]
  unfold Conv.floatToFloat
  rw [if_neg hne]
  split at h
  · cases h
  · rename_i s hs
    cases h
    simp [hs]
  · rename_i s m e hs
    split at h
    · cases h
    · rename_i hi
      cases h
      simp [hs, hi]

/-- What -i to the power of n is. -/
def powRe (n : Nat) : Int := match n with | 0 => 1 | 1 => 0 | 2 => -1 | _ => 0
def powIm (n : Nat) : Int := match n with | 0 => 0 | 1 => -1 | 2 => 0 | _ => 1
/-- The words of the powers of -i. -/
def powWR (n : Nat) : Nat := match n with | 0 => 1065353216 | 1 => 0 | 2 => 3212836864 | _ => 0
def powWI (n : Nat) : Nat := match n with | 0 => 0 | 1 => 3212836864 | 2 => 0 | _ => 1065353216
theorem powL_words {n : Nat} (hn : n < 4) : powL[n]? = some (.complex .f32 (powWR n) (powWI n)) := by
  match n, hn with
  | 0, _ => rfl
  | 1, _ => rfl
  | 2, _ => rfl
  | 3, _ => rfl
theorem unit_one : UnitW double 4607182418800017408 1 := .inl ⟨false, by decide +kernel, rfl⟩
theorem unit_neg : UnitW double 13830554455654793216 (-1) := .inl ⟨true, by decide +kernel, rfl⟩
theorem unit_zero : UnitW double 0 0 := .inr ⟨false, -1074, by decide +kernel, rfl⟩
theorem conv_one : floatToFloatBits .f32 1065353216 .f64 = some 4607182418800017408 := by decide +kernel
theorem conv_neg : floatToFloatBits .f32 3212836864 .f64 = some 13830554455654793216 := by decide +kernel
theorem conv_zero : floatToFloatBits .f32 0 .f64 = some 0 := by decide +kernel
theorem pow_conv {n : Nat} (hn : n < 4) : ∃ c d, floatToFloatBits .f32 (powWR n) .f64 = some c ∧ floatToFloatBits .f32 (powWI n) .f64 = some d ∧ UnitW double c (powRe n) ∧ UnitW double d (powIm n) := by
  match n, hn with
  | 0, _ => exact ⟨_, _, conv_one, conv_zero, unit_one, unit_zero⟩
  | 1, _ => exact ⟨_, _, conv_zero, conv_neg, unit_zero, unit_neg⟩
  | 2, _ => exact ⟨_, _, conv_neg, conv_zero, unit_neg, unit_zero⟩
  | 3, _ => exact ⟨_, _, conv_zero, conv_one, unit_zero, unit_one⟩
theorem pow_small {n : Nat} (hn : n < 4) : (powRe n = 0 ∨ powRe n = 1 ∨ powRe n = -1) ∧ (powIm n = 0 ∨ powIm n = 1 ∨ powIm n = -1) := by
  match n, hn with
  | 0, _ => decide
  | 1, _ => decide
  | 2, _ => decide
  | 3, _ => decide
theorem mul_small {k q : Int} {M : Nat} (hk : k.natAbs ≤ M) (hq : q = 0 ∨ q = 1 ∨ q = -1) : (k * q).natAbs ≤ M := by
  rcases hq with rfl | rfl | rfl
  · simp
  · simpa using hk
  · simpa using hk

/-- The product with a power of -i. -/
theorem cmul_pow (P : Program) (t : TypeId) {x y : Nat} {k l : Int} (hx : Smp x k) (hy : Smp y l) (hk : k.natAbs ≤ 4194304) (hl : l.natAbs ≤ 4194304) {n : Nat} (hn : n < 4) :
    ∃ e f, (∀ w : World, (binOp .mul t (.complex .f32 x y) (.complex .f32 (powWR n) (powWI n))).run P w = .ok (.complex .f32 e f) w) ∧ Smp e (k * powRe n - l * powIm n) ∧ Smp f (k * powIm n + l * powRe n) := by
  obtain ⟨c, d, hc, hd, uc, ud⟩ := pow_conv hn
  obtain ⟨p1, p2⟩ := pow_small hn
  have hw : (4194304 : Nat) < 2 ^ 24 := by decide
  obtain ⟨a, ha, va⟩ := Val.to64 hx (Nat.lt_of_le_of_lt hk hw)
  obtain ⟨b, hb, vb⟩ := Val.to64 hy (Nat.lt_of_le_of_lt hl hw)
  have hU : double.fractionBits + 1 + 1070 ≤ double.fractionBits + 2 ^ double.exponentBits - 2 := by decide
  have h53 : (8388608 : Nat) < 2 ^ (double.fractionBits + 1) := by decide
  have q1 := mul_small hk p1
  have q2 := mul_small hl p2
  have q3 := mul_small hk p2
  have q4 := mul_small hl p1
  obtain ⟨ac, h1, v1⟩ := va.mulU two64 uc (Nat.lt_of_le_of_lt hk (by omega)) hU
  obtain ⟨bd, h2, v2⟩ := vb.mulU two64 ud (Nat.lt_of_le_of_lt hl (by omega)) hU
  obtain ⟨re, h3, v3⟩ := Val.sub two64 v1 v2 (Nat.lt_of_le_of_lt (show _ ≤ 8388608 by omega) h53) hU
  obtain ⟨ad, h4, v4⟩ := va.mulU two64 ud (Nat.lt_of_le_of_lt hk (by omega)) hU
  obtain ⟨bc, h5, v5⟩ := vb.mulU two64 uc (Nat.lt_of_le_of_lt hl (by omega)) hU
  obtain ⟨im, h6, v6⟩ := Val.add two64 v4 v5 (Nat.lt_of_le_of_lt (show _ ≤ 8388608 by omega) h53) hU
  obtain ⟨e, h7, v7⟩ := Val.to32 v3 (Nat.lt_of_le_of_lt (show _ ≤ 8388608 by omega) (by decide))
  obtain ⟨f, h8, v8⟩ := Val.to32 v6 (Nat.lt_of_le_of_lt (show _ ≤ 8388608 by omega) (by decide))
  have g1 : floatBits .mul .f64 a c = some ac := h1
  have g2 : floatBits .mul .f64 b d = some bd := h2
  have g3 : floatBits .sub .f64 ac bd = some re := h3
  have g4 : floatBits .mul .f64 a d = some ad := h4
  have g5 : floatBits .mul .f64 b c = some bc := h5
  have g6 : floatBits .add .f64 ad bc = some im := h6
  have n1 : ¬ FloatKind.f32 = FloatKind.f64 := by decide
  have n2 : ¬ FloatKind.f64 = FloatKind.f32 := by decide
  refine ⟨e, f, fun w => ?_, v7, v8⟩
  simp [binOp, Op.complexOp, Op.Complex.product, Op.Complex.mul, Op.Complex.sub, Op.Complex.add, run_carith w g1, run_carith w g2, run_carith w g3, run_carith w g4, run_carith w g5, run_carith w g6, run_conv w n1 ha, run_conv w n1 hb, run_conv w n1 hc, run_conv w n1 hd, run_conv w n2 h7, run_conv w n2 h8]
/-- The sum. -/
theorem cadd_smp (P : Program) (t : TypeId) {x y x' y' : Nat} {k l k' l' : Int} (hx : Smp x k) (hy : Smp y l) (hx' : Smp x' k') (hy' : Smp y' l') (h1 : (k + k').natAbs < 2 ^ 24) (h2 : (l + l').natAbs < 2 ^ 24) :
    ∃ e f, (∀ w : World, (binOp .add t (.complex .f32 x y) (.complex .f32 x' y')).run P w = .ok (.complex .f32 e f) w) ∧ Smp e (k + k') ∧ Smp f (l + l') ∧ e < 2 ^ 32 ∧ f < 2 ^ 32 := by
  have hU : single.fractionBits + 1 + 145 ≤ single.fractionBits + 2 ^ single.exponentBits - 2 := by decide
  obtain ⟨e, g1, v1⟩ := Val.add two32 (Val.smp hx) (Val.smp hx') h1 hU
  obtain ⟨f, g2, v2⟩ := Val.add two32 (Val.smp hy) (Val.smp hy') h2 hU
  refine ⟨e, f, fun w => run_complex_sum w .add (.inl rfl) t .f32 x y x' y' e f ?_, v1, v2, by simpa [Lit.wf] using floatBits_wf (show floatBits .add .f32 x x' = some e from g1), by simpa [Lit.wf] using floatBits_wf (show floatBits .add .f32 y y' = some f from g2)⟩
  have k1 : floatBits .add .f32 x x' = some e := g1
  have k2 : floatBits .add .f32 y y' = some f := g2
  simp [cSumBits, k1, k2]
end Go.Proofs.YtfpagmalblmnkaaGreatDoor

/-
  Plain facts on any word of float32: the error that a sample's check answers for it (smpErr), and what the steps of the program's check make of the number that it stands for.
-/
namespace Go.Proofs.YtfpagmalblmnkaaGreatDoor
open Ieee

/-- The error of a word as a sample: 1 for what is no number, 3 for no multiple of 1/16 up to 1024, otherwise 0. -/
def smpErr (x : Nat) : Int :=
  match single.read x with
  | .number _ m e => if m * 2 ^ (e - single.leastPlace).toNat ≤ 1024 * 2 ^ 149 ∧ m * 2 ^ (e - single.leastPlace).toNat % 2 ^ 145 = 0 then 0 else 3
  | _ => 1

theorem smpErr_num {x : Nat} {s : Bool} {v : Nat} (h : IsNum single x s v) : smpErr x = if v ≤ 1024 * 2 ^ 149 ∧ v % 2 ^ 145 = 0 then 0 else 3 := by
  obtain ⟨m, e, h1, _, _, rfl⟩ := h
  unfold smpErr
  rw [h1]

theorem smpErr_ok {x : Nat} {s : Bool} {v : Nat} (h : IsNum single x s v) (h1 : v ≤ 1024 * 2 ^ 149) (h2 : v % 2 ^ 145 = 0) : smpErr x = 0 := by
  rw [smpErr_num h, if_pos ⟨h1, h2⟩]
theorem smpErr_large {x : Nat} {s : Bool} {v : Nat} (h : IsNum single x s v) (h1 : ¬ v ≤ 1024 * 2 ^ 149) : smpErr x = 3 := by
  rw [smpErr_num h, if_neg fun hh => h1 hh.1]
theorem smpErr_fine {x : Nat} {s : Bool} {v : Nat} (h : IsNum single x s v) (h1 : ¬ v % 2 ^ 145 = 0) : smpErr x = 3 := by
  rw [smpErr_num h, if_neg fun hh => h1 hh.2]
theorem smpErr_nan {x : Nat} {a : Bool} {b : Nat} (h : single.read x = .nan a b) : smpErr x = 1 := by unfold smpErr; rw [h]
theorem smpErr_inf {x : Nat} {s : Bool} (h : single.read x = .infinity s) : smpErr x = 1 := by unfold smpErr; rw [h]

/-- A finite word of float32 stands for at most the greatest one. -/
theorem num_bound {x : Nat} {s : Bool} {m : Nat} {e : Int} (h : single.read x = .number s m e) : m * 2 ^ (e - single.leastPlace).toNat ≤ 16777215 * 2 ^ 253 := by
  have hm : m < 2 ^ 24 := by
    obtain ⟨m', e', k1, _, k3, _⟩ := isNum_of_read h
    rw [h] at k1
    simp only [Datum.number.injEq] at k1
    rw [k1.2.1]; exact k3
  have he : (e - single.leastPlace).toNat ≤ 253 := by
    have hi : single.infRung = 255 * single.binade := by decide
    have hbp : 0 < single.binade := Nat.two_pow_pos _
    unfold Format.read at h
    dsimp only at h
    split at h
    · simp only [Datum.number.injEq] at h; omega
    · split at h
      · rename_i hlt
        simp only [Datum.number.injEq] at h
        rw [hi] at hlt
        have := Nat.div_lt_of_lt_mul (show x % single.signWeight < single.binade * 255 by rw [Nat.mul_comm]; exact hlt)
        omega
      · split at h <;> cases h
  exact Nat.mul_le_mul (by omega) (Nat.pow_le_pow_right (by omega) he)

/-- Every word is no number, or stands for one up to the greatest. -/
theorem smp_class (x : Nat) : (∃ a b, single.read x = .nan a b) ∨ (∃ s, single.read x = .infinity s) ∨ ∃ s v, IsNum single x s v ∧ v ≤ 16777215 * 2 ^ 253 := by
  cases hd : single.read x with
  | nan a b => exact .inl ⟨a, b, rfl⟩
  | infinity s => exact .inr (.inl ⟨s, rfl⟩)
  | number s m e => exact .inr (.inr ⟨s, _, isNum_of_read hd, num_bound hd⟩)

theorem smpErr_zero {x : Nat} (h : smpErr x = 0) : ∃ k, Smp x k ∧ k.natAbs ≤ 16384 := by
  rcases smp_class x with ⟨a, b, hd⟩ | ⟨s, hd⟩ | ⟨s, v, hn, _⟩
  · rw [smpErr_nan hd] at h; cases h
  · rw [smpErr_inf hd] at h; cases h
  · rw [smpErr_num hn] at h
    split at h
    · rename_i hh
      obtain ⟨h1, h2⟩ := hh
      have e : v = v / 2 ^ 145 * 2 ^ 145 := by
        have := Nat.div_add_mod v (2 ^ 145)
        rw [h2, Nat.add_zero, Nat.mul_comm] at this; exact this.symm
      have hq : v / 2 ^ 145 ≤ 16384 := by
        have := Nat.div_le_div_right (c := 2 ^ 145) h1
        have e2 : 1024 * 2 ^ 149 = 16384 * 2 ^ 145 := by decide +kernel
        rwa [e2, Nat.mul_div_cancel _ (Nat.two_pow_pos _)] at this
      generalize v / 2 ^ 145 = p at e hq
      have hpa : (sgn s p).natAbs = p := by unfold sgn; cases s <;> simp
      refine ⟨sgn s p, ⟨s, ?_, ?_, ?_⟩, by rw [hpa]; exact hq⟩
      · rw [hpa, ← e]; exact hn
      · intro hs; unfold sgn at hs; cases s
        · simp only [Bool.false_eq_true, if_false] at hs; omega
        · rfl
      · intro hs; unfold sgn at hs; cases s
        · rfl
        · simp only [if_true] at hs; omega
    · cases h

theorem IsNum.lt_false {f : Format} {x y : Nat} {s t : Bool} {v u : Nat} (h : IsNum f x s v) (g : IsNum f y t u) (hle : sgn t u ≤ sgn s v) : (f.order x y == some .lt) = false := by
  rw [h.order g]
  have : compare (sgn s v) (sgn t u) ≠ .lt := by
    show compareOfLessAndEq _ _ ≠ _
    unfold compareOfLessAndEq
    rw [if_neg (by omega)]
    split <;> simp
  cases hc : compare (sgn s v) (sgn t u) <;> simp_all

theorem sgn_ge_neg {s : Bool} {v u : Nat} (h : v ≤ u) : sgn true u ≤ sgn s v := by unfold sgn; cases s <;> simp <;> omega
theorem sgn_le_pos {s : Bool} {v u : Nat} (h : v ≤ u) : sgn s v ≤ sgn false u := by unfold sgn; cases s <;> simp <;> omega

theorem max32p : IsNum single 2139095039 false (16777215 * 2 ^ 253) := ⟨16777215, 104, by decide +kernel, by decide, by decide, by decide +kernel⟩
theorem max32n : IsNum single 4286578687 true (16777215 * 2 ^ 253) := ⟨16777215, 104, by decide +kernel, by decide, by decide, by decide +kernel⟩

theorem smp_t1 {x : Nat} (t1 : (single.order x x != some .eq) = true) : smpErr x = 1 := by
  rcases smp_class x with ⟨a, b, hd⟩ | ⟨s, hd⟩ | ⟨s, v, hn, _⟩
  · exact smpErr_nan hd
  · exact smpErr_inf hd
  · rw [hn.self] at t1; cases t1
theorem smp_t2 {x : Nat} (t2 : (single.order x 2139095039 == some .gt) = true) : smpErr x = 1 := by
  rcases smp_class x with ⟨a, b, hd⟩ | ⟨s, hd⟩ | ⟨s, v, hn, hv⟩
  · exact smpErr_nan hd
  · exact smpErr_inf hd
  · rw [hn.gt_false max32p (sgn_le_pos hv)] at t2; cases t2
theorem smp_t3 {x : Nat} (t3 : (single.order x 4286578687 == some .lt) = true) : smpErr x = 1 := by
  rcases smp_class x with ⟨a, b, hd⟩ | ⟨s, hd⟩ | ⟨s, v, hn, hv⟩
  · exact smpErr_nan hd
  · exact smpErr_inf hd
  · rw [hn.lt_false max32n (sgn_ge_neg hv)] at t3; cases t3

theorem smp_num {x : Nat} (t1 : (single.order x x != some .eq) = false) (t2 : (single.order x 2139095039 == some .gt) = false) (t3 : (single.order x 4286578687 == some .lt) = false) :
    ∃ s v, IsNum single x s v := by
  rcases smp_class x with ⟨a, b, hd⟩ | ⟨s, hd⟩ | ⟨s, v, hn, hv⟩
  · exfalso
    have : single.order x x = none := by unfold Format.order; rw [hd]; rfl
    rw [this] at t1; cases t1
  · exfalso
    cases s with
    | false =>
      have hm : single.read 2139095039 = .number false 16777215 104 := by decide +kernel
      have : single.order x 2139095039 = some .gt := by unfold Format.order; rw [hd, hm]; rfl
      rw [this] at t2; cases t2
    | true =>
      have hm : single.read 4286578687 = .number true 16777215 104 := by decide +kernel
      have : single.order x 4286578687 = some .lt := by unfold Format.order; rw [hd, hm]; rfl
      rw [this] at t3; cases t3
  · exact ⟨s, v, hn⟩

theorem smp_t4 {x : Nat} (t1 : (single.order x x != some .eq) = false) (t2 : (single.order x 2139095039 == some .gt) = false) (t3 : (single.order x 4286578687 == some .lt) = false)
    (t4 : (single.order x 1149239296 == some .gt) = true) : smpErr x = 3 := by
  obtain ⟨s, v, hn⟩ := smp_num t1 t2 t3
  refine smpErr_large hn fun hv => ?_
  rw [hn.gt_false isNum1024 (sgn_le_pos hv)] at t4; cases t4
theorem smp_t5 {x : Nat} (t1 : (single.order x x != some .eq) = false) (t2 : (single.order x 2139095039 == some .gt) = false) (t3 : (single.order x 4286578687 == some .lt) = false)
    (t5 : (single.order x 3296722944 == some .lt) = true) : smpErr x = 3 := by
  obtain ⟨s, v, hn⟩ := smp_num t1 t2 t3
  refine smpErr_large hn fun hv => ?_
  rw [hn.lt_false isNum1024n (sgn_ge_neg hv)] at t5; cases t5

theorem compare_self (a : Int) : compare a a = .eq := by
  show compareOfLessAndEq _ _ = _
  unfold compareOfLessAndEq; simp

/-- The reference's last test, exactly. -/
theorem checkPart_exact {x : Nat} {s : Bool} {v : Nat} (h : IsNum single x s v) (hv : v ≤ 1024 * 2 ^ 149) :
    ∃ r q, floatBits .mul .f32 1098907648 x = some r ∧ floatToIntVal .f32 r .i64 = some q ∧ ((single.order (floatOfInt .f32 q) r != some .eq) = false → smpErr x = 0) ∧ ((single.order (floatOfInt .f32 q) r != some .eq) = true → smpErr x = 3) := by
  obtain ⟨r, q, h1, h2, h3⟩ := checkPart_fin h hv
  refine ⟨r, q, h1, h2, fun hh => ?_, fun hh => smpErr_fine h fun hm => ?_⟩
  · obtain ⟨⟨t, hn, _, _⟩, _⟩ := h3 hh
    have e : q.natAbs * 2 ^ 145 % 2 ^ 145 = 0 := Nat.mul_mod_left _ _
    rw [smpErr_num hn]
    refine if_pos ⟨?_, e⟩
    have hq : q.natAbs ≤ 16384 := (h3 hh).2
    have := Nat.mul_le_mul_right (2 ^ 145) hq
    have e2 : 1024 * 2 ^ 149 = 16384 * 2 ^ 145 := by decide +kernel
    rw [e2]; exact this
  · have e : v = v / 2 ^ 145 * 2 ^ 145 := by
      have := Nat.div_add_mod v (2 ^ 145)
      rw [hm, Nat.add_zero, Nat.mul_comm] at this; exact this.symm
    have hq : v / 2 ^ 145 ≤ 16384 := by
      have := Nat.div_le_div_right (c := 2 ^ 145) hv
      have e2 : 1024 * 2 ^ 149 = 16384 * 2 ^ 145 := by decide +kernel
      rwa [e2, Nat.mul_div_cancel _ (Nat.two_pow_pos _)] at this
    generalize hp : v / 2 ^ 145 = p at e hq
    have hpa : (sgn s p).natAbs = p := by unfold sgn; cases s <;> simp
    have hc : single.read 1098907648 = .number false (2 ^ single.fractionBits) (((4 : Nat) : Int) - single.fractionBits) := by decide +kernel
    have hmax : v * 2 ^ 4 < 2 ^ (single.fractionBits + 2 ^ single.exponentBits - 2) := by
      have h1 : v < 2 ^ 160 := Nat.lt_of_le_of_lt hv (by decide)
      exact pow_split_lt h1 (by decide)
    obtain ⟨r', _, m2, m3⟩ := h.mul_pow two32 hc hmax
    have er : r = r' := by
      have := h1.symm.trans (show floatBits .mul .f32 1098907648 x = some r' from m2)
      simpa using this
    subst er
    have ht := m3.toInt (by decide)
    have eL : (-single.leastPlace).toNat = 149 := by decide
    have ev : v * 2 ^ 4 = p * 2 ^ 149 := by rw [e, Nat.mul_assoc]
    rw [eL, ev, Nat.mul_div_cancel _ (Nat.two_pow_pos _)] at ht
    have eq : q = sgn s p := by
      unfold floatToIntVal at h2
      have ht' : (FloatKind.f32.decode r).toInt .zero = some (sgn s p) := ht
      rw [ht'] at h2
      have : IntKind.i64.min ≤ sgn s p ∧ sgn s p ≤ IntKind.i64.max := by
        have e1 : IntKind.i64.min = -9223372036854775808 := by decide
        have e2 : IntKind.i64.max = 9223372036854775807 := by decide
        rw [e1, e2]; omega
      simp only [this, and_self, if_true, Option.some.injEq] at h2
      exact h2.symm
    have hy := isNum_ofInt (sgn s p) (by rw [hpa]; exact Nat.lt_of_le_of_lt hq (by decide))
    rw [eq, hy.order m3, hpa, ev] at hh
    have hs : sgn (decide (sgn s p < 0)) (p * 2 ^ 149) = sgn s (p * 2 ^ 149) := by
      cases s with
      | false =>
        have : decide (sgn false p < 0) = false := by unfold sgn; simp
        rw [this]
      | true =>
        by_cases hp0 : p = 0
        · subst hp0; rw [Nat.zero_mul]; decide
        · have : decide (sgn true p < 0) = true := by unfold sgn; simp; omega
          rw [this]
    rw [hs, compare_self] at hh
    cases hh

/-- math.Trunc of a number. -/
theorem trunc_num {d : Nat} {s : Bool} {v : Nat} (h : IsNum double d s v) (hv : v < 2 ^ 2097) :
    ∃ t, (FloatKind.f64.decode d).integral .zero = .number s (v / 2 ^ 1074) 0 ∧ FloatKind.f64.encode (.number s (v / 2 ^ 1074) 0) = t ∧ IsNum double t s (v / 2 ^ 1074 * 2 ^ 1074) := by
  have e0 : ((0 : Int) - double.leastPlace).toNat = 1074 := by decide
  have hD : double.leastPlace = -1074 := by decide
  have hB : double.fractionBits + 2 ^ double.exponentBits - 2 = 2098 := by decide
  generalize hu : (1074 : Nat) = u at *
  generalize hb : (2098 : Nat) = B at *
  generalize hb' : (2097 : Nat) = B' at *
  have hvB : v < 2 ^ B := Nat.lt_trans hv ((Nat.pow_lt_pow_iff_right (by omega)).2 (by omega))
  obtain ⟨m, i, h1, h2, h3, h4⟩ := h
  rw [hD] at h2 h4
  have h1' : FloatKind.f64.decode d = .number s m i := h1
  rw [h1']
  simp only [Datum.integral, cut_zero]
  rw [Nat.shiftLeft_eq]
  by_cases hi : 0 ≤ i
  · have e1 : (-i).toNat = 0 := by omega
    have e2 : m * 2 ^ i.toNat * 2 ^ u = m * 2 ^ (i - -1074).toNat := mul_pow_join m _ u _ (by omega)
    have ek : v / 2 ^ u = m * 2 ^ i.toNat := by rw [← h4, ← e2]; exact Nat.mul_div_cancel _ (Nat.two_pow_pos _)
    have hmax : m * 2 ^ (i - double.leastPlace).toNat < 2 ^ (double.fractionBits + 2 ^ double.exponentBits - 2) := by
      rw [hB, hD, h4]; exact hvB
    have hg := isNum_nearest two64 s m i.toNat i h3 (by rw [hD]; exact h2) hmax
    have e3 : i - (i.toNat : Int) = 0 := by omega
    rw [e3, hD, ← e2] at hg
    rw [e1, Nat.pow_zero, Nat.div_one, ek]
    exact ⟨_, rfl, rfl, hg⟩
  · have e1 : i.toNat = 0 := by omega
    have e2 : (2 : Nat) ^ u = 2 ^ (i - -1074).toNat * 2 ^ (-i).toNat := by rw [← Nat.pow_add]; congr 1; omega
    have ek : v / 2 ^ u = m / 2 ^ (-i).toNat := by
      rw [← h4, e2, ← Nat.div_div_eq_div_mul, Nat.mul_div_cancel _ (Nat.two_pow_pos _)]
    have hk : m / 2 ^ (-i).toNat < 2 ^ (double.fractionBits + 1) := Nat.lt_of_le_of_lt (Nat.div_le_self _ _) h3
    have hmax : m / 2 ^ (-i).toNat * 2 ^ ((0 : Int) - double.leastPlace).toNat < 2 ^ (double.fractionBits + 2 ^ double.exponentBits - 2) := by
      rw [e0, hB, ← ek]
      exact Nat.lt_of_le_of_lt (Nat.div_mul_le_self _ _) hvB
    have hg := isNum_nearest two64 s (m / 2 ^ (-i).toNat) 0 0 hk (by decide) hmax
    rw [e0, Nat.pow_zero, Nat.mul_one] at hg
    rw [e1, Nat.pow_zero, Nat.mul_one, ek]
    exact ⟨_, rfl, rfl, hg⟩

theorem IsNum.eq_decide {f : Format} {x y : Nat} {s : Bool} {v u : Nat} (h : IsNum f x s v) (g : IsNum f y s u) : (f.order x y == some .eq) = decide (v = u) := by
  rw [h.order g]
  by_cases e : v = u
  · subst e; rw [compare_self]; simp
  · rw [decide_eq_false e]
    have : compare (sgn s v) (sgn s u) ≠ .eq := by
      intro hh
      have := cmp_eq_of hh
      unfold sgn at this
      cases s <;> simp at this <;> omega
    cases hc : compare (sgn s v) (sgn s u) <;> simp_all
theorem IsNum.le_decide {f : Format} {x y : Nat} {v u : Nat} (h : IsNum f x false v) (g : IsNum f y false u) : (f.order x y == some .lt || f.order x y == some .eq) = decide (v ≤ u) := by
  by_cases e : v ≤ u
  · rw [decide_eq_true e, h.le_true g (sgn_le' e)]
  · rw [decide_eq_false e, h.order g, cmp_gt_of (show sgn false u < sgn false v by unfold sgn; simp; omega)]
    rfl

theorem fine_iff (v : Nat) : v * 2 ^ 925 * 2 ^ 4 = v * 2 ^ 925 * 2 ^ 4 / 2 ^ 1074 * 2 ^ 1074 ↔ v % 2 ^ 145 = 0 := by
  generalize hu : (925 : Nat) = u
  generalize hw : (1074 : Nat) = w
  rw [mul_pow_join v u 4 (u + 4) rfl]
  have e : (2 : Nat) ^ w = 2 ^ 145 * 2 ^ (u + 4) := by rw [← Nat.pow_add]; congr 1; omega
  have hp : 0 < 2 ^ (u + 4) := Nat.two_pow_pos _
  rw [e, Nat.mul_div_mul_right _ _ hp, ← Nat.mul_assoc]
  constructor
  · intro h
    have := Nat.eq_of_mul_eq_mul_right hp h
    have h2 := Nat.div_add_mod v (2 ^ 145)
    rw [Nat.mul_comm, ← this] at h2
    omega
  · intro h
    have h2 := Nat.div_add_mod v (2 ^ 145)
    rw [h, Nat.add_zero, Nat.mul_comm] at h2
    rw [h2]
theorem large_iff (v : Nat) : v * 2 ^ 925 * 2 ^ 4 ≤ 16384 * 2 ^ 1074 ↔ v ≤ 1024 * 2 ^ 149 := by
  generalize hu : (925 : Nat) = u
  generalize hw : (1074 : Nat) = w
  rw [mul_pow_join v u 4 (u + 4) rfl]
  have e : 16384 * (2 : Nat) ^ w = 1024 * 2 ^ 149 * 2 ^ (u + 4) := by
    rw [show (1024 : Nat) = 2 ^ 10 from rfl, show (16384 : Nat) = 2 ^ 14 from rfl, ← Nat.pow_add, ← Nat.pow_add, ← Nat.pow_add]
    congr 1; omega
  rw [e]
  exact Nat.mul_le_mul_right_iff (Nat.two_pow_pos _)

/-- What the program's test computes for a number of float32: all its words and comparisons. -/
theorem multiple_words {x : Nat} {s : Bool} {v : Nat} (h : IsNum single x s v) (hv : v ≤ 16777215 * 2 ^ 253) :
    ∃ d n t, floatToFloatBits .f32 x .f64 = some d ∧ IsNum double d s (v * 2 ^ 925) ∧ floatBits .mul .f64 d 4625196817309499392 = some n ∧
      (FloatKind.f64.decode n).integral .zero = .number s (v * 2 ^ 925 * 2 ^ 4 / 2 ^ 1074) 0 ∧ FloatKind.f64.encode (.number s (v * 2 ^ 925 * 2 ^ 4 / 2 ^ 1074) 0) = t ∧
      (double.order n t == some .eq) = decide (v % 2 ^ 145 = 0) ∧
      (double.order (n % 9223372036854775808) 4670232813583204352 == some .lt || double.order (n % 9223372036854775808) 4670232813583204352 == some .eq) = decide (v ≤ 1024 * 2 ^ 149) := by
  have hv2 : v < 2 ^ 277 := Nat.lt_of_le_of_lt hv (by decide +kernel)
  obtain ⟨d, h1, h2⟩ := toF64 277 h hv2 (by omega)
  have hb : v * 2 ^ 925 < 2 ^ (277 + 925) := by
    generalize hu : (925 : Nat) = u
    exact pow_split hv2
  obtain ⟨n, n1, n2⟩ := mul16_64 (277 + 925) h2 hb (by omega)
  have hb2 : v * 2 ^ 925 * 2 ^ 4 < 2 ^ 2097 := by
    generalize hu : (925 : Nat) = u at *
    generalize hw : (2097 : Nat) = w
    exact pow_split_lt hb (by omega)
  obtain ⟨t, t1, t2, t3⟩ := trunc_num n2 hb2
  refine ⟨d, n, t, h1, h2, n1, t1, t2, ?_, ?_⟩
  · rw [n2.eq_decide t3]
    exact decide_eq_decide.2 (fine_iff v)
  · rw [n2.abs64.le_decide max16384]
    exact decide_eq_decide.2 (large_iff v)
end Go.Proofs.YtfpagmalblmnkaaGreatDoor

/-
  Contracts of the check of a sample, of the program and of the reference, for every word: both answer smpErr.
-/
namespace Go.Proofs.YtfpagmalblmnkaaGreatDoor
open Go.RowKit
set_option linter.unusedVariables false

set_option maxHeartbeats 1600000 in
theorem checkPart_all (x : Nat) (w : World) :
    Calls Tryz.prog 48 #[.float .f32 x, .int .i64 1024] w fun e w' => e = .returned (.int .i64 (smpErr x)) ∧ w = w' := by
  have c0 := run_ofInt 1024
  rw [float1024] at c0
  have c1 := run_sub 22 sub1024
  by_cases t1 : (FloatKind.f32.format.order x x != some .eq) = true
  · rw [smp_t1 t1]
    go_enter Tryz.func48, Tryz.ntmps48
    go_wp2
    go_ret
    exact ⟨rfl, rfl⟩
  have t1 := Bool.eq_false_iff.2 t1
  by_cases t2 : (FloatKind.f32.format.order x 2139095039 == some .gt) = true
  · rw [smp_t2 t2]
    go_enter Tryz.func48, Tryz.ntmps48
    go_wp2
    go_ret
    exact ⟨rfl, rfl⟩
  have t2 := Bool.eq_false_iff.2 t2
  by_cases t3 : (FloatKind.f32.format.order x 4286578687 == some .lt) = true
  · rw [smp_t3 t3]
    go_enter Tryz.func48, Tryz.ntmps48
    go_wp2
    go_ret
    exact ⟨rfl, rfl⟩
  have t3 := Bool.eq_false_iff.2 t3
  by_cases t4 : (FloatKind.f32.format.order x 1149239296 == some .gt) = true
  · rw [smp_t4 t1 t2 t3 t4]
    go_enter Tryz.func48, Tryz.ntmps48
    go_wp2
    go_ret
    exact ⟨rfl, rfl⟩
  have t4 := Bool.eq_false_iff.2 t4
  by_cases t5 : (FloatKind.f32.format.order x 3296722944 == some .lt) = true
  · rw [smp_t5 t1 t2 t3 t5]
    go_enter Tryz.func48, Tryz.ntmps48
    go_wp2
    go_ret
    exact ⟨rfl, rfl⟩
  have t5 := Bool.eq_false_iff.2 t5
  obtain ⟨s, v, hn, hv⟩ := checkPart_num t1 t2 t3 t4 t5
  obtain ⟨r, q, m1, m2, m3, m4⟩ := checkPart_exact hn hv
  have c2 := run_mul 22 m1
  have c3 := run_toInt m2
  have c4 := run_ofInt q
  clear hn hv m1 m2
  by_cases t6 : (FloatKind.f32.format.order (floatOfInt .f32 q) r != some .eq) = true
  · rw [m4 t6]
    clear m3 m4
    go_enter Tryz.func48, Tryz.ntmps48
    go_wp2_with (go_at_call 115; refine (when_any true 3 _).mono ?_; rintro e w' ⟨rfl, rfl⟩)
    go_ret
    exact ⟨rfl, rfl⟩
  have t6 := Bool.eq_false_iff.2 t6
  rw [m3 t6]
  clear m3 m4
  go_enter Tryz.func48, Tryz.ntmps48
  go_wp2_with (go_at_call 115; refine (when_any false 3 _).mono ?_; rintro e w' ⟨rfl, rfl⟩)
  go_ret
  exact ⟨rfl, rfl⟩

set_option maxHeartbeats 400000 in
theorem refCheckSample_all (x : Nat) (w : World) :
    Calls Tryz.prog 47 #[.float .f32 x] w fun e w' => e = .returned (.int .i64 (smpErr x)) ∧ w = w' := by
  go_enter Tryz.func47, Tryz.ntmps47
  go_wp2_with (go_at_call 48; refine (checkPart_all x _).mono ?_; rintro e w' ⟨rfl, rfl⟩)
  go_ret
  exact ⟨rfl, rfl⟩

/-! ### The program's -/

/-- What is no number is converted to some such word of float64. -/
theorem run_nan64 {x : Nat} {a : Bool} {b : Nat} (h : Ieee.single.read x = .nan a b) (w : World) :
    ∃ d, (convert 22 191 (.float .f32 x)).run Tryz.prog w = .ok (.float .f64 d) w.drew ∧ ∃ a b, Ieee.double.read d = .nan a b := by
  have hs : Tryz.prog.underlying 22 = some (.float .f32) := Tryz.underlying22
  have hd : Tryz.prog.underlying 191 = some (.float .f64) := Tryz.underlying191
  have hx : FloatKind.f32.decode x = .nan a b := h
  refine ⟨(Question.nanConv .f64 x).cut (w.tape w.drawn (.nanConv .f64 x)), ?_, ?_⟩
  · simp [convert, run_underlying hs, run_underlying hd, Conv.floatToFloat, hx, Question.forced]
  · generalize w.tape w.drawn (.nanConv .f64 x) = t
    show ∃ a b, Ieee.double.read ((t % 2) * 2 ^ 63 + 0x7ff0000000000000 + 1 + (t / 2) % (2 ^ 52 - 1)) = .nan a b
    have e1 : Ieee.double.signWeight = 9223372036854775808 := by decide +kernel
    have e2 : Ieee.double.infRung = 9218868437227405312 := by decide +kernel
    unfold Ieee.Format.read
    have e3 : Ieee.double.binade = 4503599627370496 := by decide +kernel
    simp only [e1, e2, e3]
    have h1 := Nat.mod_lt (t / 2) (show 0 < 2 ^ 52 - 1 by decide)
    have h2 := Nat.mod_lt t (show 0 < 2 by decide)
    generalize t / 2 % (2 ^ 52 - 1) = p at h1
    generalize t % 2 = q at h2
    have h3 : (q * 2 ^ 63 + 9218868437227405312 + 1 + p) % 9223372036854775808 = 9218868437227405312 + 1 + p := by omega
    rw [h3, if_neg (by omega), if_neg (by omega), if_neg (by omega)]
    exact ⟨_, _, rfl⟩

theorem run_inf64 {x : Nat} {s : Bool} (h : Ieee.single.read x = .infinity s) :
    ∃ d, (∀ w : World, (convert 22 191 (.float .f32 x)).run Tryz.prog w = .ok (.float .f64 d) w) ∧ d < 18446744073709551616 ∧ Ieee.double.order d d = some .eq ∧
      (Ieee.double.order (d % 9223372036854775808) 9218868437227405311 == some .gt) = true := by
  have hx : FloatKind.f32.decode x = .infinity s := h
  have hf : floatToFloatBits .f32 x .f64 = some (FloatKind.f64.encode (.infinity s)) := by
    unfold floatToFloatBits
    have hne : ¬ FloatKind.f32 = FloatKind.f64 := by decide
    simp only [hne, if_false, hx]
  refine ⟨_, run_to64 hf, ?_, ?_, ?_⟩ <;> cases s <;> decide +kernel

set_option maxHeartbeats 1000000 in
theorem isNaN_nan (d : Nat) (h : ∃ a b, Ieee.double.read d = .nan a b) (w : World) :
    Calls Tryz.prog 153 #[.float .f64 d] w fun e w' => e = .returned (.bool true) ∧ w = w' := by
  have h1 : FloatKind.f64.format.order d d = none := by
    obtain ⟨a, b, h⟩ := h
    show Ieee.double.order d d = none
    unfold Ieee.Format.order; rw [h]; rfl
  clear h
  go_enter Tryz.func153, Tryz.ntmps153
  go_wp2
  go_ret
  exact ⟨rfl, rfl⟩

set_option maxHeartbeats 1000000 in
theorem isNaN_no (d : Nat) (h : Ieee.double.order d d = some .eq) (w : World) :
    Calls Tryz.prog 153 #[.float .f64 d] w fun e w' => e = .returned (.bool false) ∧ w = w' := by
  have h1 : FloatKind.f64.format.order d d = some .eq := h
  clear h
  go_enter Tryz.func153, Tryz.ntmps153
  go_wp2
  go_ret
  exact ⟨rfl, rfl⟩

set_option maxHeartbeats 800000 in
theorem isInf_yes (d : Nat) (hd : d < 18446744073709551616) (h : (Ieee.double.order (d % 9223372036854775808) 9218868437227405311 == some .gt) = true) (w : World) :
    Calls Tryz.prog 154 #[.float .f64 d, .int .i64 0] w fun e w' => e = .returned (.bool true) ∧ w = w' := by
  have h1 : (FloatKind.f64.format.order (d % 9223372036854775808) 9218868437227405311 == some .gt) = true := h
  clear h
  go_enter Tryz.func154, Tryz.ntmps154
  go_wp2_with (go_at_call 156; refine (abs_any d hd _).mono ?_; rintro e w' ⟨rfl, rfl⟩)
  go_ret
  exact ⟨rfl, rfl⟩

set_option maxHeartbeats 1000000 in
theorem isFinite_nan {x : Nat} {a : Bool} {b : Nat} (h : Ieee.single.read x = .nan a b) (w : World) :
    Calls Tryz.prog 113 #[.float .f32 x] w fun e w' => e = .returned (.bool false) ∧ w' = w.drew := by
  obtain ⟨d, c1, hd⟩ := run_nan64 h w
  have K1 := Lib.hid (isNaN_nan d hd)
  clear h hd
  go_enter Tryz.func113, Tryz.ntmps113
  go_wp2_with (go_at_call 153; refine (K1.out _).mono ?_; rintro e w' ⟨rfl, rfl⟩)
  go_ret
  exact ⟨rfl, rfl⟩

set_option maxHeartbeats 1000000 in
theorem isFinite_inf {x : Nat} {s : Bool} (h : Ieee.single.read x = .infinity s) (w : World) :
    Calls Tryz.prog 113 #[.float .f32 x] w fun e w' => e = .returned (.bool false) ∧ w' = w := by
  obtain ⟨d, c1, hd, h1, h2⟩ := run_inf64 h
  have K1 := Lib.hid (isNaN_no d h1)
  have K2 := Lib.hid (isInf_yes d hd h2)
  clear h hd h1 h2
  go_enter Tryz.func113, Tryz.ntmps113
  go_wp2_with (first | (go_at_call 153; refine (K1.out _).mono ?_; rintro e w' ⟨rfl, rfl⟩) | (go_at_call 154; refine (K2.out _).mono ?_; rintro e w' ⟨rfl, rfl⟩))
  go_ret
  exact ⟨rfl, rfl⟩

set_option maxHeartbeats 1000000 in
theorem isFinite_num {x : Nat} {s : Bool} {v : Nat} (hx : x < 2 ^ 32) (h : IsNum Ieee.single x s v) (hv : v ≤ 16777215 * 2 ^ 253) (w : World) :
    Calls Tryz.prog 113 #[.float .f32 x] w fun e w' => e = .returned (.bool true) ∧ w' = w := by
  have hv2 : v < 2 ^ 277 := Nat.lt_of_le_of_lt hv (by decide +kernel)
  obtain ⟨d, h1, h2⟩ := toF64 277 h hv2 (by omega)
  have hd := isNum_lt (s := s) (v := 0) h1 hx
  have hb : v * 2 ^ 925 ≤ (2 ^ 53 - 1) * 2 ^ 2045 := by
    generalize hu : (925 : Nat) = u
    exact max64_ge (pow_split hv2) (by omega)
  have c1 := run_to64 h1
  have K1 := Lib.hid (isNaN_any d s _ h2)
  have K2 := Lib.hid (isInf_any d s _ h2 hd hb)
  clear h h1 h2 hd hv hx hb hv2
  go_enter Tryz.func113, Tryz.ntmps113
  go_wp2_with (first | (go_at_call 153; refine (K1.out _).mono ?_; rintro e w' ⟨rfl, rfl⟩) | (go_at_call 154; refine (K2.out _).mono ?_; rintro e w' ⟨rfl, rfl⟩))
  go_ret
  exact ⟨rfl, rfl⟩

set_option maxHeartbeats 1000000 in
theorem isMultiple_num {x : Nat} {s : Bool} {v : Nat} (h : IsNum Ieee.single x s v) (hv : v ≤ 16777215 * 2 ^ 253) (w : World) :
    Calls Tryz.prog 114 #[.float .f32 x, .float .f64 4652218415073722368] w fun e w' => e = .returned (.bool (decide (v ≤ 1024 * 2 ^ 149 ∧ v % 2 ^ 145 = 0))) ∧ w' = w := by
  obtain ⟨d, n, t, h1, h2, n1, t1, t2, q1, q2⟩ := multiple_words h hv
  have hn := floatBits_lt n1
  have c1 := run_to64 h1
  have c2 := run_mul 191 n1
  have c3 := run_trunc t1 t2
  have hm : floatBits .mul .f64 4652218415073722368 4625196817309499392 = some 4670232813583204352 := by decide +kernel
  have c5 := run_mul 191 hm
  have K1 := Lib.hid (trunc_any n t c3)
  have K2 := Lib.hid (abs_any n hn)
  clear h h1 h2 n1 t1 t2 hm hn c3 hv
  by_cases f1 : v % 2 ^ 145 = 0
  · rw [decide_eq_true f1] at q1
    by_cases f2 : v ≤ 1024 * 2 ^ 149
    · rw [decide_eq_true f2] at q2
      rw [decide_eq_true (show v ≤ 1024 * 2 ^ 149 ∧ v % 2 ^ 145 = 0 from ⟨f2, f1⟩)]
      have c4 : (FloatKind.f64.format.order n t == some .eq) = true := q1
      have c6 : (FloatKind.f64.format.order (n % 9223372036854775808) 4670232813583204352 == some .lt || FloatKind.f64.format.order (n % 9223372036854775808) 4670232813583204352 == some .eq) = true := q2
      clear f1 f2 q1 q2
      go_enter Tryz.func114, Tryz.ntmps114
      go_wp2_with (first | (go_at_call 155; refine (K1.out _).mono ?_; rintro e w' ⟨rfl, rfl⟩) | (go_at_call 156; refine (K2.out _).mono ?_; rintro e w' ⟨rfl, rfl⟩))
      go_ret
      exact ⟨rfl, rfl⟩
    · rw [decide_eq_false f2] at q2
      rw [decide_eq_false (show ¬ (v ≤ 1024 * 2 ^ 149 ∧ v % 2 ^ 145 = 0) from fun hh => f2 hh.1)]
      have c4 : (FloatKind.f64.format.order n t == some .eq) = true := q1
      have c6 : (FloatKind.f64.format.order (n % 9223372036854775808) 4670232813583204352 == some .lt || FloatKind.f64.format.order (n % 9223372036854775808) 4670232813583204352 == some .eq) = false := q2
      clear f1 f2 q1 q2
      go_enter Tryz.func114, Tryz.ntmps114
      go_wp2_with (first | (go_at_call 155; refine (K1.out _).mono ?_; rintro e w' ⟨rfl, rfl⟩) | (go_at_call 156; refine (K2.out _).mono ?_; rintro e w' ⟨rfl, rfl⟩))
      go_ret
      exact ⟨rfl, rfl⟩
  · rw [decide_eq_false f1] at q1
    rw [decide_eq_false (show ¬ (v ≤ 1024 * 2 ^ 149 ∧ v % 2 ^ 145 = 0) from fun hh => f1 hh.2)]
    have c4 : (FloatKind.f64.format.order n t == some .eq) = false := q1
    clear f1 q1 q2
    go_enter Tryz.func114, Tryz.ntmps114
    go_wp2_with (first | (go_at_call 155; refine (K1.out _).mono ?_; rintro e w' ⟨rfl, rfl⟩) | (go_at_call 156; refine (K2.out _).mono ?_; rintro e w' ⟨rfl, rfl⟩))
    go_ret
    exact ⟨rfl, rfl⟩

set_option maxHeartbeats 800000 in
theorem checkSample_all (x : Nat) (hx : x < 2 ^ 32) (w : World) :
    Calls Tryz.prog 43 #[.float .f32 x] w fun e w' => e = .returned (.int .i64 (smpErr x)) ∧ (w = w' ∨ w.drew = w') := by
  rcases smp_class x with ⟨a, b, hd⟩ | ⟨s, hd⟩ | ⟨s, v, hn, hv⟩
  · rw [smpErr_nan hd]
    have K1 := Lib.hid (isFinite_nan hd)
    clear hd hx
    go_enter Tryz.func43, Tryz.ntmps43
    go_wp2_with (go_at_call 113; refine (K1.out _).mono ?_; rintro e w' ⟨rfl, rfl⟩)
    go_ret
    exact ⟨rfl, .inr rfl⟩
  · rw [smpErr_inf hd]
    have K1 := Lib.hid (isFinite_inf hd)
    clear hd hx
    go_enter Tryz.func43, Tryz.ntmps43
    go_wp2_with (go_at_call 113; refine (K1.out _).mono ?_; rintro e w' ⟨rfl, rfl⟩)
    go_ret
    exact ⟨rfl, .inl rfl⟩
  · rw [smpErr_num hn]
    have K1 := Lib.hid (isFinite_num hx hn hv)
    have K2 := Lib.hid (isMultiple_num hn hv)
    clear hn hx hv
    by_cases f : v ≤ 1024 * 2 ^ 149 ∧ v % 2 ^ 145 = 0
    · rw [decide_eq_true f] at K2
      rw [if_pos f]
      clear f
      go_enter Tryz.func43, Tryz.ntmps43
      go_wp2_with (first | (go_at_call 113; refine (K1.out _).mono ?_; rintro e w' ⟨rfl, rfl⟩) | (go_at_call 114; refine (K2.out _).mono ?_; rintro e w' ⟨rfl, rfl⟩))
      go_ret
      exact ⟨rfl, .inl rfl⟩
    · rw [decide_eq_false f] at K2
      rw [if_neg f]
      clear f
      go_enter Tryz.func43, Tryz.ntmps43
      go_wp2_with (first | (go_at_call 113; refine (K1.out _).mono ?_; rintro e w' ⟨rfl, rfl⟩) | (go_at_call 114; refine (K2.out _).mono ?_; rintro e w' ⟨rfl, rfl⟩))
      go_ret
      exact ⟨rfl, .inl rfl⟩
end Go.Proofs.YtfpagmalblmnkaaGreatDoor
