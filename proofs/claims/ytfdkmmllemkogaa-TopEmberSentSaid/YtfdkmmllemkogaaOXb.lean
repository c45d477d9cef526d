/-
  Contract of grid.toMap where the integers are those of samples: the map.
-/
import Derived.Test.YtfdkmmllemkogaaOWe
import Derived.Test.YtfdkmmllemkogaaOWf
import Derived.Test.YtfdkmmllemkogaaOWd
namespace Go.Proofs.Ytfdkmmllemkogaa
open Go.RowKit
set_option linter.unusedVariables false

set_option maxRecDepth 100000 in
set_option maxHeartbeats 3200000 in
theorem toMap_any (W H : Int) (g o n c : Nat) (ks : List Int) (hk : ks.length = n) (hn : n ≤ 4096) (w : World) (hg : g < w.heap.size) (hc : ∀ j, j < n → w.cell? ⟨g, o + j, none⟩ = some (.int .i64 (ks[j]?.getD 0))) (hs : ∀ j, j < n → (ks[j]?.getD 0).natAbs ≤ 16384) :
    Calls Try.prog 46 #[.agg #[.int .i64 W, .int .i64 H, .slice (some ⟨g, o, none⟩) n c]] w fun e w' =>
      e = .returned (.tuple #[.agg #[.int .i64 W, .int .i64 H, .slice (some ⟨w.heap.size + 2, 0, none⟩) n n], .int .i64 0]) ∧ w'.ownsRow (w.heap.size + 2) 27 1 (.slice (some ⟨w.heap.size + 2, 0, none⟩) n n) n (ks.map (fun n : Int => Value.float .f32 (smpOf n))) ∧ Below w.heap.size w w' := by
  have K : ∀ w1 : World, Below w.heap.size w w1 → w1.heap.size = w.heap.size + 2 → Calls Try.prog 64 #[.slice (some ⟨g, o, none⟩) n c, .func (.func 65) #[] #[]] w1 fun e w' =>
      e = .returned (.slice (some ⟨w.heap.size + 2, 0, none⟩) n n) ∧ w'.ownsRow (w.heap.size + 2) 27 1 (.slice (some ⟨w.heap.size + 2, 0, none⟩) n n) n (ks.map (fun n : Int => Value.float .f32 (smpOf n))) ∧ Below (w.heap.size + 2) w1 w' := by
    intro w1 h1 hs1
    rw [← hs1]
    exact mapped_sample g o n c ks ks hk hk hn (by omega) (fun j hj => (h1.cell (by exact hg)).trans (hc j hj)) (fun j hj => ⟨rfl, Nat.lt_of_le_of_lt (hs j hj) (by decide)⟩)
  have HK := Lib.hid K
  have HC := Lib.hid hc
  have HS := Lib.hid hs
  clear K hc hs hk
  go_enter Try.func46, Try.ntmps46
  go_wp2_with fail
  obtain ⟨W0, hW0⟩ : ∃ W0, ((w.alloc (.cells #[.int .i64 W, .int .i64 H, .slice (some ⟨g, o, none⟩) n c] 76)).alloc (.cells #[.int .i64 0, .int .i64 0, .slice none 0 0] 50)) = W0 := ⟨_, rfl⟩
  have hB0 : Below w.heap.size w W0 := by rw [← hW0]; exact ((Below.refl _ w).alloc (Nat.le_refl _) _).alloc (by simp) _
  have hz0 : W0.heap.size = w.heap.size + 2 := by rw [← hW0]; simp
  have c0 : W0.cell? ⟨w.heap.size, 0, none⟩ = some (.int .i64 W) := by rw [← hW0]; simp [go_sem]
  have c1 : W0.cell? ⟨w.heap.size, 1, none⟩ = some (.int .i64 H) := by rw [← hW0]; simp [go_sem]
  have c2 : W0.cell? ⟨w.heap.size, 2, none⟩ = some (.slice (some ⟨g, o, none⟩) n c) := by rw [← hW0]; simp [go_sem]
  have t0 : W0.cell? ⟨w.heap.size + 1, 0, none⟩ = some (.int .i64 0) := by rw [← hW0]; simp [go_sem]
  have t1 : W0.cell? ⟨w.heap.size + 1, 1, none⟩ = some (.int .i64 0) := by rw [← hW0]; simp [go_sem]
  have t2 : W0.cell? ⟨w.heap.size + 1, 2, none⟩ = some (.slice none 0 0) := by rw [← hW0]; simp [go_sem]
  have fz : ∀ j, W0.frozen? ⟨w.heap.size + 1, j, none⟩ = false := fun j => by rw [← hW0]; simp [go_sem]
  rw [hW0]
  have HB0 := Lib.hid hB0
  have HZ0 := Lib.hid hz0
  clear hW0 hB0 hz0
  go_loop [9] (fun i => ∃ k : Nat, k ≤ n ∧ i = .int .i64 k) (fun i => n - (intOf i).toNat)
  case atStart => exact ⟨0, Nat.zero_le _, rfl⟩
  case round =>
    obtain ⟨k, hkn, rfl⟩ := hrel
    by_cases hlt : k < n
    · have hcell : W0.cell? ⟨g, o + k, none⟩ = some (.int .i64 (ks[k]?.getD 0)) := (HB0.out.cell (by exact hg)).trans (HC.out k hlt)
      have hs := HS.out k hlt
      obtain ⟨v, hv⟩ : ∃ v, ks[k]?.getD 0 = v := ⟨_, rfl⟩
      rw [hv] at hcell hs
      have h1 : ¬ (v < -16384) := by omega
      have h2 : ¬ (16384 < v) := by omega
      clear hs hv
      go_wp2
      go_round
      case rel => exact ⟨k + 1, by omega, by go_num⟩
      case measure => simp [intOf]; omega
    · go_wp2_with fail
      go_region_held3 (fun w' => w'.cell? ⟨w.heap.size, 0, none⟩ = some (.int .i64 W) ∧ w'.cell? ⟨w.heap.size, 1, none⟩ = some (.int .i64 H) ∧ w'.cell? ⟨w.heap.size, 2, none⟩ = some (.slice (some ⟨g, o, none⟩) n c))
        (first | go_keep | (go_split_ands; refine ⟨?_, ?_, ?_⟩ <;> rw [hb1.cell (by simp; try omega)] <;> assumption))
        ((go_at_call 64; refine (HK.out _ HB0.out.drew (by show W0.heap.size = _; exact HZ0.out)).mono ?_; rintro e w' ⟨rfl, hown, hb1⟩
          have s0 : w'.cell? ⟨w.heap.size + 1, 0, none⟩ = some (.int .i64 0) := by rw [hb1.cell (by simp)]; assumption
          have s1 : w'.cell? ⟨w.heap.size + 1, 1, none⟩ = some (.int .i64 0) := by rw [hb1.cell (by simp)]; assumption
          have s2 : w'.cell? ⟨w.heap.size + 1, 2, none⟩ = some (.slice none 0 0) := by rw [hb1.cell (by simp)]; assumption
          have f0 : w'.frozen? ⟨w.heap.size + 1, 0, none⟩ = false := by rw [hb1.frozen (by simp)]; exact fz 0
          have f1 : w'.frozen? ⟨w.heap.size + 1, 1, none⟩ = false := by rw [hb1.frozen (by simp)]; exact fz 1
          have f2 : w'.frozen? ⟨w.heap.size + 1, 2, none⟩ = false := by rw [hb1.frozen (by simp)]; exact fz 2))
      all_goals
        go_wp2
        refine bodyPost_ret (v := .tuple #[.agg #[.int .i64 W, .int .i64 H, .slice (some ⟨w.heap.size + 2, 0, none⟩) n n], .int .i64 0]) (by simp [results, Try.results46, go_sem, s0, s1, s2]) rfl ⟨rfl, ?_, ?_⟩
        · exact ownsRow_setCell_below (ownsRow_setCell_below (ownsRow_setCell_below hown (by simp) _) (by simp) _) (by simp) _
        · exact (((HB0.out.drew.trans (hb1.mono (by omega))).setCell (p := ⟨w.heap.size + 1, 0, none⟩) (by simp) _).setCell (p := ⟨w.heap.size + 1, 1, none⟩) (by simp) _).setCell (p := ⟨w.heap.size + 1, 2, none⟩) (by simp) _
end Go.Proofs.Ytfdkmmllemkogaa
