/-
  Contracts of has, neighbours and slices.Clone at integers.
-/
import Derived.Test.YtpmjiifdnnhecaaGreatDoorOaaMb
import Derived.Test.YtpmjiifdnnhecaaGreatDoorOaaWk
import Derived.Test.YtpmjiifdnnhecaaGreatDoorOaaWy
namespace Go.Proofs.YtpmjiifdnnhecaaGreatDoor
open Go.RowKit
set_option linter.unusedVariables false

set_option maxHeartbeats 1600000 in
theorem isPlace_any (W H : Nat) (X Y : Int) (w : World) :
    Calls Tryz.prog 199 #[.agg #[.int .i64 X, .int .i64 Y], .int .i64 W, .int .i64 H] w fun e w' => e = .returned (.bool (insideB W H (X, Y))) ∧ Below w.heap.size w w' := by
  by_cases h1 : 0 ≤ X
  · by_cases h2 : X < W
    · by_cases h3 : 0 ≤ Y
      · by_cases h4 : Y < H
        · have e : insideB W H (X, Y) = true := by simp [insideB, h1, h2, h3, h4]
          rw [e]; clear e
          go_enter Tryz.func199, Tryz.ntmps199
          go_wp2
          go_ret
          exact ⟨rfl, (Below.refl _ _).alloc (Nat.le_refl _) _⟩
        · have e : insideB W H (X, Y) = false := by simp [insideB, h1, h2, h3, h4]
          rw [e]; clear e
          have d4 : decide (Y < H) = false := by simpa using h4
          go_enter Tryz.func199, Tryz.ntmps199
          go_wp2
          go_ret
          exact ⟨rfl, (Below.refl _ _).alloc (Nat.le_refl _) _⟩
      · have e : insideB W H (X, Y) = false := by simp [insideB, h1, h2, h3]
        rw [e]; clear e
        have d3 : decide (0 ≤ Y) = false := by simpa using h3
        go_enter Tryz.func199, Tryz.ntmps199
        go_wp2
        go_ret
        exact ⟨rfl, (Below.refl _ _).alloc (Nat.le_refl _) _⟩
    · have e : insideB W H (X, Y) = false := by simp [insideB, h1, h2]
      rw [e]; clear e
      have d2 : decide (X < W) = false := by simpa using h2
      go_enter Tryz.func199, Tryz.ntmps199
      go_wp2
      go_ret
      exact ⟨rfl, (Below.refl _ _).alloc (Nat.le_refl _) _⟩
  · have e : insideB W H (X, Y) = false := by simp [insideB, h1]
    rw [e]; clear e
    have d1 : decide (0 ≤ X) = false := by simpa using h1
    go_enter Tryz.func199, Tryz.ntmps199
    go_wp2
    go_ret
    exact ⟨rfl, (Below.refl _ _).alloc (Nat.le_refl _) _⟩

set_option maxHeartbeats 1600000 in
theorem has_any (W H : Nat) (X Y : Int) (a : Option Addr) (n c : Nat) (w : World) :
    Calls Tryz.prog 141 #[.agg #[.int .i64 W, .int .i64 H, .slice a n c], .agg #[.int .i64 X, .int .i64 Y]] w fun e w' => e = .returned (.bool (insideB W H (X, Y))) ∧ Below w.heap.size w w' := by
  have K := Lib.hid (fun w1 => isPlace_any W H X Y w1)
  generalize insideB W H (X, Y) = r at K ⊢
  go_enter Tryz.func141, Tryz.ntmps141
  go_wp2_with (go_at_call 199; refine (K.out _).mono ?_; rintro e w' ⟨rfl, hb⟩)
  go_ret
  exact ⟨rfl, (((Below.refl _ _).alloc (Nat.le_refl _) _).alloc (by simp) _).trans (hb.mono (by simp; omega))⟩

/-! ### Points -/
def Far (a : Int) : Prop := -1099511627776 ≤ a ∧ a ≤ 1099511627776
set_option maxHeartbeats 1600000 in
theorem minus_any (a b c d : Int) (ha : Far a) (hb : Far b) (hc : Far c) (hd : Far d) (w : World) :
    Calls Tryz.prog 140 #[.agg #[.int .i64 a, .int .i64 b], .agg #[.int .i64 c, .int .i64 d]] w fun e w' => e = .returned (.agg #[.int .i64 (a - c), .int .i64 (b - d)]) ∧ Below w.heap.size w w' := by
  unfold Far at ha hb hc hd
  have i1 : IntKind.i64.wrap (a - c) = a - c := IntWalk.i64_in _ ⟨by omega, by omega⟩
  have i2 : IntKind.i64.wrap (b - d) = b - d := IntWalk.i64_in _ ⟨by omega, by omega⟩
  clear ha hb hc hd
  go_enter Tryz.func140, Tryz.ntmps140
  go_wp2
  refine bodyPost_ret (v := .agg #[.int .i64 (a - c), .int .i64 (b - d)]) (by simp [results, Tryz.results140, go_sem]) rfl ⟨rfl, ?_⟩
  exact (((Below.refl _ w).alloc (Nat.le_refl _) _).alloc (by simp) _).alloc (by simp; omega) _
/-- The four points beside a point. -/
def besideV (X Y : Int) : Value := .agg #[.int .i64 (X - 1), .int .i64 Y, .int .i64 (X + 1), .int .i64 Y, .int .i64 X, .int .i64 (Y - 1), .int .i64 X, .int .i64 (Y + 1)]
set_option maxHeartbeats 1600000 in
theorem beside_any (X Y : Int) (hX : Far X) (hY : Far Y) (w : World) :
    Calls Tryz.prog 202 #[.agg #[.int .i64 X, .int .i64 Y]] w fun e w' => e = .returned (besideV X Y) ∧ Below w.heap.size w w' := by
  unfold Far at hX hY
  unfold besideV
  have i1 : IntKind.i64.wrap (X - 1) = X - 1 := IntWalk.i64_in _ ⟨by omega, by omega⟩
  have i2 : IntKind.i64.wrap (X + 1) = X + 1 := IntWalk.i64_in _ ⟨by omega, by omega⟩
  have i3 : IntKind.i64.wrap (Y - 1) = Y - 1 := IntWalk.i64_in _ ⟨by omega, by omega⟩
  have i4 : IntKind.i64.wrap (Y + 1) = Y + 1 := IntWalk.i64_in _ ⟨by omega, by omega⟩
  clear hX hY
  go_enter Tryz.func202, Tryz.ntmps202
  go_wp2
  refine bodyPost_ret (v := .agg #[.int .i64 (X - 1), .int .i64 Y, .int .i64 (X + 1), .int .i64 Y, .int .i64 X, .int .i64 (Y - 1), .int .i64 X, .int .i64 (Y + 1)]) (by simp [results, Tryz.results202, go_sem]) rfl ⟨rfl, ?_⟩
  exact ((Below.refl _ w).alloc (Nat.le_refl _) _).alloc (by simp) _

/-- A place's cells. -/
def qval (q : Int × Int) : List Value := [.int .i64 q.1, .int .i64 q.2]
theorem Tryz.infoPt : (Tryz.prog.info? 124).map (fun i => (i.zero, i.size, i.bytes)) = some (some (.agg #[.int .i64 0, .int .i64 0]), 2, 16) := by kernel_rfl
theorem cells_new2 (w : World) (T : TypeId) (a b : Value) : ∀ j u, [a, b][j]? = some u → (w.alloc (.cells #[a, b] T)).cell? ((⟨w.heap.size, 0, none⟩ : Addr).add j) = some u := fun j u h => by
  rw [Addr.add_mid, cell_of_row _ w.heap.size (0 + j) _ _ (0, 0) (heap_alloc_new w _)]
  simpa using h
theorem dirs_index (X Y : Int) (k : Nat) (hk : k < 4) : ∃ dx dy : Int, dirsL[k]?.getD (0, 0) = (dx, dy) ∧ (-1 ≤ dx ∧ dx ≤ 1) ∧ (-1 ≤ dy ∧ dy ≤ 1) ∧
    ∀ w : World, (Instr.index 125 (besideV X Y) (.int .i64 k)).run Tryz.prog w = .ok (.agg #[.int .i64 (X + dx), .int .i64 (Y + dy)]) w := by
  match k, hk with
  | 0, _ => exact ⟨-1, 0, rfl, by omega, by omega, fun w => by rw [show X + -1 = X - 1 by omega, Int.add_zero]; kernel_rfl⟩
  | 1, _ => exact ⟨1, 0, rfl, by omega, by omega, fun w => by rw [Int.add_zero]; kernel_rfl⟩
  | 2, _ => exact ⟨0, -1, rfl, by omega, by omega, fun w => by rw [show Y + -1 = Y - 1 by omega, Int.add_zero]; kernel_rfl⟩
  | 3, _ => exact ⟨0, 1, rfl, by omega, by omega, fun w => by rw [Int.add_zero]; kernel_rfl⟩

set_option maxRecDepth 100000 in
set_option maxHeartbeats 3200000 in
theorem neighbours_any (W H : Nat) (X Y : Int) (hX : 0 ≤ X ∧ X ≤ 1048576) (hY : 0 ≤ Y ∧ Y ≤ 1048576) (a : Option Addr) (n c : Nat) (w : World) :
    Calls Tryz.prog 151 #[.agg #[.int .i64 W, .int .i64 H, .slice a n c], .agg #[.int .i64 X, .int .i64 Y]] w fun e w' =>
      ∃ v, e = .returned v ∧ w'.ownsRow w.heap.size 124 2 v (nbrsTo W H X Y 4).length ((nbrsTo W H X Y 4).flatMap qval) ∧ Below w.heap.size w w' := by
  obtain ⟨i0, hi, hz0, hz1, hz2⟩ := info_parts Tryz.infoPt
  have KB := Lib.hid (fun w1 => beside_any X Y (by unfold Far; omega) (by unfold Far; omega) w1)
  go_enter Tryz.func151, Tryz.ntmps151
  go_wp2_with (go_at_call 202; refine (KB.out _).mono ?_; rintro e W0 ⟨rfl, hbb⟩)
  have hB0 : Below w.heap.size w W0 := (((Below.refl _ w).alloc (Nat.le_refl _) _).alloc (by simp) _).trans (hbb.mono (by simp; omega))
  have hz : w.heap.size + 2 ≤ W0.heap.size := by have := hbb.size; simpa using this
  have g0 : W0.cell? ⟨w.heap.size, 0, none⟩ = some (.int .i64 W) := (hbb.cell (by first | (simp; done) | (simp; omega))).trans (by simp [go_sem])
  have g1 : W0.cell? ⟨w.heap.size, 1, none⟩ = some (.int .i64 H) := (hbb.cell (by first | (simp; done) | (simp; omega))).trans (by simp [go_sem])
  have g2 : W0.cell? ⟨w.heap.size, 2, none⟩ = some (.slice a n c) := (hbb.cell (by first | (simp; done) | (simp; omega))).trans (by simp [go_sem])
  have HZ := Lib.hid hz
  have HB0 := Lib.hid hB0
  clear hbb hz hB0
  go_loopw [5, 10] (fun out i wr => ∃ k : Nat, k ≤ 4 ∧ i = .int .i64 k ∧ wr.ownsRow (w.heap.size + 2) 124 2 out (nbrsTo W H X Y k).length ((nbrsTo W H X Y k).flatMap qval) ∧ Below (w.heap.size + 2) W0 wr)
    (fun _ i _ => 4 - (intOf i).toNat)
  case atStart => exact ⟨0, Nat.zero_le _, rfl, World.ownsRow_nil _ _ _ _, Below.refl _ _⟩
  case round =>
    obtain ⟨k, hk, rfl, hown, hnx⟩ := hrel
    have hsz : w.heap.size + 2 ≤ wr.heap.size := by have := hnx.size; have := HZ.out; omega
    by_cases hlt : k < 4
    · obtain ⟨dx, dy, hd, hdx, hdy, hix⟩ := dirs_index X Y k hlt
      have hS := nbrsTo_succ W H X Y k hlt
      rw [hd] at hS
      have HS := Lib.hid hS
      have hl4 := nbrsTo_len W H X Y k
      replace g0 := (hnx.cell (p := ⟨w.heap.size, 0, none⟩) (by show w.heap.size < _; omega)).trans g0
      replace g1 := (hnx.cell (p := ⟨w.heap.size, 1, none⟩) (by show w.heap.size < _; omega)).trans g1
      replace g2 := (hnx.cell (p := ⟨w.heap.size, 2, none⟩) (by show w.heap.size < _; omega)).trans g2
      have hltI : (k : Int) < 4 := by omega
      have n0 := World.new_ne wr _ g0
      have l0 : w.heap.size < wr.heap.size := by omega
      clear hd hS
      by_cases hin : insideB W H (X + dx, Y + dy) = true
      · have K := Lib.hid (fun w1 => hin ▸ has_any W H (X + dx) (Y + dy) a n c w1)
        have HIN := Lib.hid hin
        clear hin
        go_wp2_with (first
          | (go_at_call 141; refine (K.out _).mono ?_; rintro e w1 ⟨rfl, hb1⟩
             have hs1 := hb1.size
             simp at hs1
             have q0 : w1.cell? ⟨wr.heap.size, 0, none⟩ = some (.int .i64 (X + dx)) := by rw [hb1.cell (by simp)]; simp [go_sem]
             have q1 : w1.cell? ⟨wr.heap.size, 1, none⟩ = some (.int .i64 (Y + dy)) := by rw [hb1.cell (by simp)]; simp [go_sem]
             have hb2 : Below (w.heap.size + 2) W0 w1 := (hnx.alloc hsz _).trans (hb1.mono (by simp; omega))
             have hown1 : w1.ownsRow (w.heap.size + 2) 124 2 _ _ _ := owns_kept (hown.alloc _) hb1 (by simp)
             clear hb1 hown)
          | (at_builtin; refine wpList_append_own _ rfl (.tmp 16) (.tmp 18) 237 rfl (w.heap.size + 2) 124 i0 (.agg #[.int .i64 0, .int .i64 0]) 2 16 Tryz.underlying237 hi hz0 hz1 hz2 rfl (by decide) _ _ _ rfl (hown1.alloc _) ⟨w1.heap.size, 0, none⟩ 1 1 [.int .i64 (X + dx), .int .i64 (Y + dy)] rfl rfl (cells_new2 _ _ _ _) (by intro u hu; simp at hu; rcases hu with rfl | rfl <;> rfl) (by unfold maxLen; omega) (by omega) (by simp; omega) ?_; intro v' w3 hown3 hgrow3 _))
        have hlt' := hown1.lt
        go_roundw
        case rel => exact ⟨k + 1, by omega, by go_num, by rw [HS.out, if_pos HIN.out, List.flatMap_append, List.length_append]; exact hown3, (hb2.alloc (by omega) _).grown hgrow3 (by simp; omega) (fun j hj => (hlt' j hj).1)⟩
        case measure => simp [intOf]; omega
      · have hin' : insideB W H (X + dx, Y + dy) = false := by simpa using hin
        have K := Lib.hid (fun w1 => hin' ▸ has_any W H (X + dx) (Y + dy) a n c w1)
        have HIN := Lib.hid hin
        clear hin hin'
        go_wp2_with (go_at_call 141; refine (K.out _).mono ?_; rintro e w1 ⟨rfl, hb1⟩)
        go_roundw
        case rel => exact ⟨k + 1, by omega, by go_num, by rw [HS.out, if_neg HIN.out]; exact owns_kept (hown.alloc _) hb1 (by simp), (hnx.alloc hsz _).trans (hb1.mono (by simp; omega))⟩
        case measure => simp [intOf]; omega
    · go_wp2
      go_ret
      obtain rfl : k = 4 := by omega
      exact ⟨_, rfl, owns_base hown (by omega), HB0.out.trans (hnx.mono (by omega))⟩
end Go.Proofs.YtpmjiifdnnhecaaGreatDoor
