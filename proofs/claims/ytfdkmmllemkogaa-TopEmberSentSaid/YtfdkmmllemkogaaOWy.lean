/-
  Contract of missing for ascending counters: the counters between each one and the next.
-/
import Derived.Test.YtfdkmmllemkogaaOWx
import Derived.WalkMore
namespace Go.Proofs.Ytfdkmmllemkogaa
open Go.RowKit
set_option linter.unusedVariables false

/-- The integers between two. -/
def gap (a b : Int) : List Int := (List.range (b - a - 1).toNat).map (fun j : Nat => a + 1 + (j : Int))
/-- The integers between each of the first k and the next one. -/
def gapsTo (xs : List Int) (k : Nat) : List Int := (List.range k).flatMap (fun i => gap (xs[i]?.getD 0) (xs[i + 1]?.getD 0))
theorem gapsTo_succ (xs : List Int) (k : Nat) : gapsTo xs (k + 1) = gapsTo xs k ++ gap (xs[k]?.getD 0) (xs[k + 1]?.getD 0) := by
  simp [gapsTo, List.range_succ]
theorem gap_len (a b : Int) : (gap a b).length = (b - a - 1).toNat := by simp [gap]

/-- Ascending counters from 0 to 200. -/
structure Asc (xs : List Int) (n : Nat) : Prop where
  len : xs.length = n
  bd : ∀ j, j < n → 0 ≤ xs[j]?.getD 0 ∧ xs[j]?.getD 0 ≤ 200
  up : ∀ j, j + 1 < n → xs[j]?.getD 0 < xs[j + 1]?.getD 0
theorem gapsTo_len {xs : List Int} {n : Nat} (h : Asc xs n) : ∀ k, k < n → ((gapsTo xs k).length : Int) ≤ xs[k]?.getD 0
  | 0, hk => by have := h.bd 0 hk; simp [gapsTo]; omega
  | k + 1, hk => by
    have ih := gapsTo_len h k (by omega)
    have hu := h.up k hk
    rw [gapsTo_succ, List.length_append, gap_len]
    omega

theorem owns_slice {w : World} {B T sz n : Nat} {v : Value} {xs : List Value} (h : w.ownsRow B T sz v n xs) : ∃ ao c, v = .slice ao n c := by
  rcases h.2 with ⟨h, h0⟩ | ⟨g, cap, cur, h, _⟩
  · exact ⟨none, 0, by rw [h, h0]⟩
  · exact ⟨_, _, h⟩

theorem missing_none (ao : Option Addr) (c : Nat) (w : World) :
    Calls Try.prog 29 #[.slice ao 0 c, .int .i64 257] w fun e w' => e = .returned (.slice none 0 0) ∧ w = w' := by
  go_enter Try.func29, Try.ntmps29
  go_wp2
  go_step3
  go_wp2
  go_step3
  go_wp2
  refine wp_loop_rounds 1 ?_
  rw [rounds_succ]
  go_wp2
  try rw [Exit.noGoto_ret]
  go_ret
  exact ⟨rfl, rfl⟩

set_option maxRecDepth 100000 in
set_option maxHeartbeats 3200000 in
theorem missing_any (xs : List Int) (n g c : Nat) (hA : Asc xs n) (hn1 : 1 ≤ n) (hm : n ≤ 512) (w : World) (hg : g < w.heap.size) (hc : ∀ j, j < n → w.cell? ⟨g, j, none⟩ = some (.int .i64 (xs[j]?.getD 0))) :
    Calls Try.prog 29 #[.slice (some ⟨g, 0, none⟩) n c, .int .i64 257] w fun e w' =>
      ∃ v, e = .returned v ∧ w'.ownsRow w.heap.size 3 1 v (gapsTo xs (n - 1)).length ((gapsTo xs (n - 1)).map (Value.int .i64)) ∧ Below w.heap.size w w' := by
  obtain ⟨i0, hi, hz0, hz1, hz2⟩ := info_parts Try.infoInt
  have HC := Lib.hid hc
  have HA := Lib.hid hA
  clear hc hA
  have j1 : ((1 : Int) ≤ (n : Int)) := by omega
  have j2 : ((n : Int) ≤ 512) := by omega
  go_enter Try.func29, Try.ntmps29
  go_wp2
  go_step3
  go_wp2
  go_step3
  go_wp2
  go_loopw [5, 13] (fun out i wr => ∃ k : Nat, k ≤ n - 1 ∧ i = .int .i64 k ∧ wr.ownsRow w.heap.size 3 1 out (gapsTo xs k).length ((gapsTo xs k).map (Value.int .i64)) ∧ Below w.heap.size w wr)
    (fun _ i _ => n - (intOf i).toNat)
  case atStart => exact ⟨0, Nat.zero_le _, rfl, World.ownsRow_nil _ _ _ _, Below.refl _ _⟩
  case round =>
    obtain ⟨k, hk, rfl, hown, hnx⟩ := hrel
    have hsz := hnx.size
    by_cases hlt : k + 1 < n
    · have c0 : wr.cell? ⟨g, k, none⟩ = some (.int .i64 (xs[k]?.getD 0)) := (hnx.cell (by exact hg)).trans (HC.out k (by omega))
      have c1 : wr.cell? ⟨g, k + 1, none⟩ = some (.int .i64 (xs[k + 1]?.getD 0)) := (hnx.cell (by exact hg)).trans (HC.out (k + 1) hlt)
      have hb0 := HA.out.bd k (by omega)
      have hb1 := HA.out.bd (k + 1) hlt
      have hup := HA.out.up k hlt
      have hlen := gapsTo_len HA.out k (by omega)
      have hS := gapsTo_succ xs k
      obtain ⟨a, ha⟩ : ∃ a, xs[k]?.getD 0 = a := ⟨_, rfl⟩
      obtain ⟨b, hb⟩ : ∃ b, xs[k + 1]?.getD 0 = b := ⟨_, rfl⟩
      obtain ⟨pre, hpre⟩ : ∃ pre, gapsTo xs k = pre := ⟨_, rfl⟩
      rw [ha] at c0 hb0 hup hlen hS
      rw [hb] at c1 hb1 hup hS
      rw [hpre] at hown hlen hS
      have HS := Lib.hid hS
      clear ha hb hpre hS
      have hltI : ((k : Int) < (n : Int) - 1) := by omega
      have k0 : ((k : Int) < (n : Int)) := by omega
      have k1 : ((k : Int) + 1 < (n : Int)) := by omega
      have k2 : ((0 : Int) ≤ (k : Int) + 1) := by omega
      have k3 : ((k : Int) + 1).toNat = k + 1 := by omega
      have k4 : IntKind.i64.wrap ((k : Int) + 1) = (k : Int) + 1 := IntWalk.i64_in _ ⟨by omega, by omega⟩
      go_wp2_with fail
      go_region_held3 (fun w' => w'.cell? ⟨g, k, none⟩ = some (.int .i64 a) ∧ w'.cell? ⟨g, k + 1, none⟩ = some (.int .i64 b)) (go_keep) (fail)
      have hf : (a + 1) % 65536 = a + 1 := by omega
      go_wp2_with (go_at_call 53; refine (following_any _ hb0.1 (by omega) _).mono ?_; rintro e w' ⟨rfl, rfl⟩)
      obtain ⟨Wd, hWd⟩ : ∃ Wd, wr.drew = Wd := ⟨_, rfl⟩
      have hownd : Wd.ownsRow w.heap.size 3 1 u5 pre.length (pre.map (Value.int .i64)) := by rw [← hWd]; exact hown
      have hBd : Below w.heap.size w Wd := by rw [← hWd]; exact hnx.drew
      rw [hWd]
      clear hWd hown c0 c1
      go_loopw [5, 9] (fun out i wi => ∃ j : Nat, (j : Int) ≤ b - a - 1 ∧ i = .int .i64 (a + 1 + j) ∧ wi.ownsRow w.heap.size 3 1 out (pre.length + j) ((pre ++ (List.range j).map (fun j : Nat => a + 1 + (j : Int))).map (Value.int .i64)) ∧ Below w.heap.size w wi)
        (fun _ i _ => (b - intOf i).toNat)
      case atStart => exact ⟨0, by omega, by simp, by simpa using hownd, hBd⟩
      case round =>
        obtain ⟨j, hj, rfl, hown, hnx2⟩ := hrel
        have hsz2 := hnx2.size
        by_cases hjl : (j : Int) < b - a - 1
        · have hne : ((a + 1 + (j : Int)) != b) = true := by simp; omega
          obtain ⟨ℓ, hℓ⟩ : ∃ ℓ, pre.length + j = ℓ := ⟨_, rfl⟩
          have hℓ2 : ℓ ≤ 200 := by omega
          have hℓ3 : ((ℓ : Int) == 257) = false := by simp; omega
          rw [hℓ] at hown
          obtain ⟨ao, cc, rfl⟩ := owns_slice hown
          have hf2 : (a + 1 + (j : Int) + 1) % 65536 = a + 1 + (j : Int) + 1 := by omega
          have hj1 : (((j + 1 : Nat)) : Int) ≤ b - a - 1 := by omega
          have HL := Lib.hid hℓ
          have HJ1 := Lib.hid hj1
          clear hℓ hjl hj1
          go_wp2_with (first
            | (go_at_call 53; refine (following_any _ (by omega) (by omega) _).mono ?_; rintro e w' ⟨rfl, rfl⟩)
            | (at_builtin; refine wpList_append_own _ rfl (.tmp 36) (.tmp 38) 29 rfl w.heap.size 3 i0 (.int .i64 0) 1 8 Try.underlying29 hi hz0 hz1 hz2 rfl (by decide) _ _ _ rfl (hown.alloc _) ⟨wr.heap.size, 0, none⟩ 1 1 [.int .i64 (a + 1 + (j : Int))] rfl rfl (cell_one_new _ _ _) (by intro u hu; simp at hu; subst hu; rfl) (by unfold maxLen; omega) (by omega) (by simp; omega) ?_; intro v' w3 hown3 hgrow3 _))
          have hlt' := hown.lt
          go_roundw
          case rel =>
            refine ⟨j + 1, HJ1.out, by push_cast; go_num, ?_, (hnx2.alloc hsz2 _).grown hgrow3 (by simp; omega) (fun q hq => (hlt' q hq).1)⟩
            have e : (pre ++ (List.range (j + 1)).map (fun j : Nat => a + 1 + (j : Int))).map (Value.int .i64) = (pre ++ (List.range j).map (fun j : Nat => a + 1 + (j : Int))).map (Value.int .i64) ++ [.int .i64 (a + 1 + (j : Int))] := by simp [List.range_succ]
            rw [e, show pre.length + (j + 1) = ℓ + 1 by have := HL.out; omega]
            exact hown3
          case measure => have := HJ1.out; simp [intOf]; omega
        · have hje : a + 1 + (j : Int) = b := by omega
          have hne : ((a + 1 + (j : Int)) != b) = false := by simp [hje]
          have HJ := Lib.hid hje
          clear hje hjl
          go_wp2
          go_roundw
          case rel =>
            refine ⟨k + 1, by omega, by go_num, ?_, hnx2⟩
            have e : (b - a - 1).toNat = j := by have := HJ.out; omega
            rw [HS.out, gap, e]
            simpa using hown
          case measure => simp [intOf]; omega
    · have hltI : ¬ ((k : Int) < (n : Int) - 1) := by omega
      go_wp2
      try rw [Exit.noGoto_ret]
      go_ret
      obtain rfl : k = n - 1 := by omega
      exact ⟨_, rfl, hown, hnx⟩
end Go.Proofs.Ytfdkmmllemkogaa
