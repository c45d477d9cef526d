/-
  Contracts of the sums and products of the parts of vectors: what each returns, for all parts whose sums and products are integers of 64 bits.
-/
import Derived.Test.YtggffhmdgceljaaGreatDoorRows
import Derived.WalkKit
import Derived.WalkSpells
import Derived.WalkLawsBesides
import Derived.Lib.Hide
import Derived.BigQuiet
import Derived.Deep.QuietTactic
import Derived.Laws.FloatArith
import Derived.Laws.BitsAllLaws
import Derived.Deep.RegionHeld3
import Derived.Handy
import Derived.Deep.CutBlock
import Derived.Deep.DeepCutAuto
import Derived.StillTailTactics
import Derived.LoopTactic
import Derived.Laws.StructEq
import Derived.Deep.RegionLaw
namespace Go.Proofs.YtggffhmdgceljaaGreatDoor
open Go.RowKit
set_option linter.unusedVariables false
set_option linter.unusedSimpArgs false

set_option maxRecDepth 100000 in
set_option maxHeartbeats 1600000 in
theorem vector_any (x y z : Int) (w : World) :
    Calls Tryz.prog 73 #[.agg #[.int .i64 x, .int .i64 y, .int .i64 z]] w fun e w' => e = .returned (.agg #[.int .i64 x, .int .i64 y, .int .i64 z]) ∧ Below w.heap.size w w' := by
  go_enter Tryz.func73, Tryz.ntmps73
  go_wp2
  refine bodyPost_ret (v := .agg #[.int .i64 x, .int .i64 y, .int .i64 z]) (by simp [results, Tryz.results73, go_sem]) rfl ⟨rfl, ?_⟩
  first
    | exact ((Below.refl _ w).alloc (Nat.le_refl _) _).alloc (by simp) _
    | exact (((((Below.refl _ w).alloc (Nat.le_refl _) _).alloc (by simp) _).setCell (by simp) _).setCell (by simp) _).setCell (by simp) _

/-- An integer three of which add up to one of 64 bits. -/
def Fit (n : Int) : Prop := -3000000000000000000 ≤ n ∧ n ≤ 3000000000000000000
theorem Fit.out {n : Int} (h : Fit n) : -3000000000000000000 ≤ n ∧ n ≤ 3000000000000000000 := h
theorem Fit.wrap {n : Int} (h : Fit n) : IntKind.i64.wrap n = n := by
  have h := h.out
  exact IntWalk.i64_in _ ⟨by omega, by omega⟩
theorem wrap_fit2 {m n : Int} (h : Fit m) (k : Fit n) : IntKind.i64.wrap (m + n) = m + n := by
  have h := h.out
  have k := k.out
  exact IntWalk.i64_in _ ⟨by omega, by omega⟩
theorem wrap_sub2 {m n : Int} (h : Fit m) (k : Fit n) : IntKind.i64.wrap (m - n) = m - n := by
  have h := h.out
  have k := k.out
  exact IntWalk.i64_in _ ⟨by omega, by omega⟩
theorem wrap_fit3 {m n o : Int} (h : Fit m) (k : Fit n) (l : Fit o) : IntKind.i64.wrap (m + n + o) = m + n + o := by
  have h := h.out
  have k := k.out
  have l := l.out
  exact IntWalk.i64_in _ ⟨by omega, by omega⟩

set_option maxRecDepth 100000 in
set_option maxHeartbeats 3200000 in
theorem dot_any (x y z a b c : Int) (h1 : Fit (x * a)) (h2 : Fit (y * b)) (h3 : Fit (z * c)) (w : World) :
    Calls Tryz.prog 74 #[.agg #[.int .i64 x, .int .i64 y, .int .i64 z], .agg #[.int .i64 a, .int .i64 b, .int .i64 c]] w fun e w' => e = .returned (.int .i64 (x * a + y * b + z * c)) ∧ Below w.heap.size w w' := by
  obtain ⟨m1, e1⟩ : ∃ m1, x * a = m1 := ⟨_, rfl⟩
  obtain ⟨m2, e2⟩ : ∃ m2, y * b = m2 := ⟨_, rfl⟩
  obtain ⟨m3, e3⟩ : ∃ m3, z * c = m3 := ⟨_, rfl⟩
  rw [e1] at h1 ⊢
  rw [e2] at h2 ⊢
  rw [e3] at h3 ⊢
  have w1 := h1.wrap
  have w2 := h2.wrap
  have w3 := h3.wrap
  have s2 := wrap_fit2 h1 h2
  have s3 := wrap_fit3 h1 h2 h3
  clear h1 h2 h3
  go_enter Tryz.func74, Tryz.ntmps74
  go_wp2_with fail
  refine wp_loop_rounds 4 ?_
  rw [rounds_succ]
  go_wp2_with fail
  go_quiet (fail)
  go_wp2_with fail
  rw [rounds_succ]
  go_wp2_with fail
  go_quiet (fail)
  go_wp2_with fail
  rw [rounds_succ]
  go_wp2_with fail
  go_quiet (fail)
  go_wp2_with fail
  rw [rounds_succ]
  go_wp2_with fail
  go_ret
  exact ⟨rfl, below_drewN (((Below.refl _ w).alloc (Nat.le_refl _) _).alloc (by simp) _) _⟩

set_option maxRecDepth 100000 in
set_option maxHeartbeats 3200000 in
theorem times_any (x y z n : Int) (h1 : Fit (x * n)) (h2 : Fit (y * n)) (h3 : Fit (z * n)) (w : World) :
    Calls Tryz.prog 69 #[.agg #[.int .i64 x, .int .i64 y, .int .i64 z], .int .i64 n] w fun e w' => e = .returned (.agg #[.int .i64 (x * n), .int .i64 (y * n), .int .i64 (z * n)]) ∧ Below w.heap.size w w' := by
  obtain ⟨m1, e1⟩ : ∃ m1, x * n = m1 := ⟨_, rfl⟩
  obtain ⟨m2, e2⟩ : ∃ m2, y * n = m2 := ⟨_, rfl⟩
  obtain ⟨m3, e3⟩ : ∃ m3, z * n = m3 := ⟨_, rfl⟩
  rw [e1] at h1 ⊢
  rw [e2] at h2 ⊢
  rw [e3] at h3 ⊢
  have w1 := h1.wrap
  have w2 := h2.wrap
  have w3 := h3.wrap
  clear h1 h2 h3
  go_enter Tryz.func69, Tryz.ntmps69
  go_wp2_with fail
  refine wp_loop_rounds 4 ?_
  rw [rounds_succ]
  go_wp2_with fail
  rw [rounds_succ]
  go_wp2_with fail
  rw [rounds_succ]
  go_wp2_with fail
  rw [rounds_succ]
  go_wp2_with fail
  refine bodyPost_ret (v := .agg #[.int .i64 m1, .int .i64 m2, .int .i64 m3]) (by simp [results, Tryz.results69, go_sem]) rfl ⟨rfl, (by repeat (first | exact Below.refl _ _ | refine Below.drew ?_ | refine below_drewN ?_ _ | refine Below.setCell ?_ (by simp) _ | refine Below.alloc ?_ (by simp; omega) _ | refine Below.alloc ?_ (by simp) _))⟩

set_option maxRecDepth 100000 in
set_option maxHeartbeats 3200000 in
theorem partsPlus_any (x y z a b c : Int) (h1 : Fit (x + a)) (h2 : Fit (y + b)) (h3 : Fit (z + c)) (w : World) :
    Calls Tryz.prog 70 #[.agg #[.int .i64 x, .int .i64 y, .int .i64 z], .agg #[.int .i64 a, .int .i64 b, .int .i64 c]] w fun e w' => e = .returned (.agg #[.int .i64 (x + a), .int .i64 (y + b), .int .i64 (z + c)]) ∧ Below w.heap.size w w' := by
  have w1 := h1.wrap
  have w2 := h2.wrap
  have w3 := h3.wrap
  clear h1 h2 h3
  go_enter Tryz.func70, Tryz.ntmps70
  go_wp2_with fail
  refine wp_loop_rounds 4 ?_
  rw [rounds_succ]
  go_wp2_with fail
  go_region_law (fail)
  all_goals
    go_wp2_with fail
    rw [rounds_succ]
    go_wp2_with fail
    go_region_law (fail)
    all_goals
      go_wp2_with fail
      rw [rounds_succ]
      go_wp2_with fail
      go_region_law (fail)
      all_goals
        go_wp2_with fail
        rw [rounds_succ]
        go_wp2_with fail
        refine bodyPost_ret (v := .agg #[.int .i64 (x + a), .int .i64 (y + b), .int .i64 (z + c)]) (by simp [results, Tryz.results70, go_sem]) rfl ⟨rfl, (by repeat (first | exact Below.refl _ _ | refine Below.drew ?_ | refine below_drewN ?_ _ | refine Below.setCell ?_ (by simp) _ | refine Below.alloc ?_ (by simp; omega) _ | refine Below.alloc ?_ (by simp) _))⟩

set_option maxRecDepth 100000 in
set_option maxHeartbeats 6400000 in
theorem cross_any (x y z a b c : Int) (h1 : Fit (y * c)) (h2 : Fit (z * b)) (h3 : Fit (z * a)) (h4 : Fit (x * c)) (h5 : Fit (x * b)) (h6 : Fit (y * a)) (w : World) :
    Calls Tryz.prog 78 #[.agg #[.int .i64 x, .int .i64 y, .int .i64 z], .agg #[.int .i64 a, .int .i64 b, .int .i64 c]] w fun e w' => e = .returned (.agg #[.int .i64 (y * c - z * b), .int .i64 (z * a - x * c), .int .i64 (x * b - y * a)]) ∧ Below w.heap.size w w' := by
  obtain ⟨m1, e1⟩ : ∃ m1, y * c = m1 := ⟨_, rfl⟩
  obtain ⟨m2, e2⟩ : ∃ m2, z * b = m2 := ⟨_, rfl⟩
  obtain ⟨m3, e3⟩ : ∃ m3, z * a = m3 := ⟨_, rfl⟩
  obtain ⟨m4, e4⟩ : ∃ m4, x * c = m4 := ⟨_, rfl⟩
  obtain ⟨m5, e5⟩ : ∃ m5, x * b = m5 := ⟨_, rfl⟩
  obtain ⟨m6, e6⟩ : ∃ m6, y * a = m6 := ⟨_, rfl⟩
  rw [e1] at h1 ⊢
  rw [e2] at h2 ⊢
  rw [e3] at h3 ⊢
  rw [e4] at h4 ⊢
  rw [e5] at h5 ⊢
  rw [e6] at h6 ⊢
  have w1 := h1.wrap
  have w2 := h2.wrap
  have w3 := h3.wrap
  have w4 := h4.wrap
  have w5 := h5.wrap
  have w6 := h6.wrap
  have w7 := wrap_sub2 h1 h2
  have w8 := wrap_sub2 h3 h4
  have w9 := wrap_sub2 h5 h6
  clear h1 h2 h3 h4 h5 h6
  go_enter Tryz.func78, Tryz.ntmps78
  go_wp2_with fail
  refine wp_loop_rounds 4 ?_
  rw [rounds_succ]
  go_wp2_with fail
  go_region_held3 (fun w' => w'.cell? ⟨w.heap.size, 1, none⟩ = some (.int .i64 y) ∧ w'.cell? ⟨w.heap.size + 1, 2, none⟩ = some (.int .i64 c) ∧ w'.cell? ⟨w.heap.size, 2, none⟩ = some (.int .i64 z) ∧ w'.cell? ⟨w.heap.size + 1, 1, none⟩ = some (.int .i64 b)) (go_keep) (fail)
  go_wp2_with fail
  rw [rounds_succ]
  go_wp2_with fail
  go_region_held3 (fun w' => w'.cell? ⟨w.heap.size, 2, none⟩ = some (.int .i64 z) ∧ w'.cell? ⟨w.heap.size + 1, 0, none⟩ = some (.int .i64 a) ∧ w'.cell? ⟨w.heap.size, 0, none⟩ = some (.int .i64 x) ∧ w'.cell? ⟨w.heap.size + 1, 2, none⟩ = some (.int .i64 c)) (go_keep) (fail)
  go_wp2_with fail
  rw [rounds_succ]
  go_wp2_with fail
  go_region_held3 (fun w' => w'.cell? ⟨w.heap.size, 0, none⟩ = some (.int .i64 x) ∧ w'.cell? ⟨w.heap.size + 1, 1, none⟩ = some (.int .i64 b) ∧ w'.cell? ⟨w.heap.size, 1, none⟩ = some (.int .i64 y) ∧ w'.cell? ⟨w.heap.size + 1, 0, none⟩ = some (.int .i64 a)) (go_keep) (fail)
  go_wp2_with fail
  rw [rounds_succ]
  go_wp2_with fail
  refine bodyPost_ret (v := .agg #[.int .i64 (m1 - m2), .int .i64 (m3 - m4), .int .i64 (m5 - m6)]) (by simp [results, Tryz.results78, go_sem]) rfl ⟨rfl, (by repeat (first | exact Below.refl _ _ | refine Below.drew ?_ | refine below_drewN ?_ _ | refine Below.setCell ?_ (by simp) _ | refine Below.alloc ?_ (by simp; omega) _ | refine Below.alloc ?_ (by simp) _))⟩
end Go.Proofs.YtggffhmdgceljaaGreatDoor
