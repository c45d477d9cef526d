/-
  Contracts of has, neighbours and slices.Clone at integers.
-/
import Derived.Test.YtfpagmalblmnkaaGreatDoorGGb
import Derived.Test.YtfpagmalblmnkaaGreatDoorGFd
import Derived.Test.YtfpagmalblmnkaaGreatDoorGWx
namespace Go.Proofs.YtfpagmalblmnkaaGreatDoor
open Go.RowKit
set_option linter.unusedVariables false

set_option maxHeartbeats 1600000 in
theorem isPlace_any (W H : Nat) (X Y : Int) (w : World) :
    Calls Tryz.prog 157 #[.agg #[.int .i64 X, .int .i64 Y], .int .i64 W, .int .i64 H] w fun e w' => e = .returned (.bool (insideB W H (X, Y))) ∧ Below w.heap.size w w' := by
  by_cases h1 : 0 ≤ X
  · by_cases h2 : X < W
    · by_cases h3 : 0 ≤ Y
      · by_cases h4 : Y < H
        · have e : insideB W H (X, Y) = true := by simp [insideB, h1, h2, h3, h4]
          rw [e]; clear e
          go_enter Tryz.func157, Tryz.ntmps157
          go_wp2
          go_ret
          exact ⟨rfl, (Below.refl _ _).alloc (Nat.le_refl _) _⟩
        · have e : insideB W H (X, Y) = false := by simp [insideB, h1, h2, h3, h4]
          rw [e]; clear e
          have d4 : decide (Y < H) = false := by simpa using h4
          go_enter Tryz.func157, Tryz.ntmps157
          go_wp2
          go_ret
          exact ⟨rfl, (Below.refl _ _).alloc (Nat.le_refl _) _⟩
      · have e : insideB W H (X, Y) = false := by simp [insideB, h1, h2, h3]
        rw [e]; clear e
        have d3 : decide (0 ≤ Y) = false := by simpa using h3
        go_enter Tryz.func157, Tryz.ntmps157
        go_wp2
        go_ret
        exact ⟨rfl, (Below.refl _ _).alloc (Nat.le_refl _) _⟩
    · have e : insideB W H (X, Y) = false := by simp [insideB, h1, h2]
      rw [e]; clear e
      have d2 : decide (X < W) = false := by simpa using h2
      go_enter Tryz.func157, Tryz.ntmps157
      go_wp2
      go_ret
      exact ⟨rfl, (Below.refl _ _).alloc (Nat.le_refl _) _⟩
  · have e : insideB W H (X, Y) = false := by simp [insideB, h1]
    rw [e]; clear e
    have d1 : decide (0 ≤ X) = false := by simpa using h1
    go_enter Tryz.func157, Tryz.ntmps157
    go_wp2
    go_ret
    exact ⟨rfl, (Below.refl _ _).alloc (Nat.le_refl _) _⟩

set_option maxHeartbeats 1600000 in
theorem has_any (W H : Nat) (X Y : Int) (a : Option Addr) (n c : Nat) (w : World) :
    Calls Tryz.prog 116 #[.agg #[.int .i64 W, .int .i64 H, .slice a n c], .agg #[.int .i64 X, .int .i64 Y]] w fun e w' => e = .returned (.bool (insideB W H (X, Y))) ∧ Below w.heap.size w w' := by
  have K := Lib.hid (fun w1 => isPlace_any W H X Y w1)
  generalize insideB W H (X, Y) = r at K ⊢
  go_enter Tryz.func116, Tryz.ntmps116
  go_wp2_with (go_at_call 157; refine (K.out _).mono ?_; rintro e w' ⟨rfl, hb⟩)
  go_ret
  exact ⟨rfl, (((Below.refl _ _).alloc (Nat.le_refl _) _).alloc (by simp) _).trans (hb.mono (by simp; omega))⟩

/-! ### Points -/
def Far (a : Int) : Prop := -1099511627776 ≤ a ∧ a ≤ 1099511627776
set_option maxHeartbeats 1600000 in
theorem plus_any (a b c d : Int) (ha : Far a) (hb : Far b) (hc : Far c) (hd : Far d) (w : World) :
    Calls Tryz.prog 119 #[.agg #[.int .i64 a, .int .i64 b], .agg #[.int .i64 c, .int .i64 d]] w fun e w' => e = .returned (.agg #[.int .i64 (a + c), .int .i64 (b + d)]) ∧ Below w.heap.size w w' := by
  unfold Far at ha hb hc hd
  have i1 : IntKind.i64.wrap (a + c) = a + c := IntWalk.i64_in _ ⟨by omega, by omega⟩
  have i2 : IntKind.i64.wrap (b + d) = b + d := IntWalk.i64_in _ ⟨by omega, by omega⟩
  clear ha hb hc hd
  go_enter Tryz.func119, Tryz.ntmps119
  go_wp2
  refine bodyPost_ret (v := .agg #[.int .i64 (a + c), .int .i64 (b + d)]) (by simp [results, Tryz.results119, go_sem]) rfl ⟨rfl, ?_⟩
  exact (((Below.refl _ w).alloc (Nat.le_refl _) _).alloc (by simp) _).alloc (by simp; omega) _
set_option maxHeartbeats 1600000 in
theorem minus_any (a b c d : Int) (ha : Far a) (hb : Far b) (hc : Far c) (hd : Far d) (w : World) :
    Calls Tryz.prog 121 #[.agg #[.int .i64 a, .int .i64 b], .agg #[.int .i64 c, .int .i64 d]] w fun e w' => e = .returned (.agg #[.int .i64 (a - c), .int .i64 (b - d)]) ∧ Below w.heap.size w w' := by
  unfold Far at ha hb hc hd
  have i1 : IntKind.i64.wrap (a - c) = a - c := IntWalk.i64_in _ ⟨by omega, by omega⟩
  have i2 : IntKind.i64.wrap (b - d) = b - d := IntWalk.i64_in _ ⟨by omega, by omega⟩
  clear ha hb hc hd
  go_enter Tryz.func121, Tryz.ntmps121
  go_wp2
  refine bodyPost_ret (v := .agg #[.int .i64 (a - c), .int .i64 (b - d)]) (by simp [results, Tryz.results121, go_sem]) rfl ⟨rfl, ?_⟩
  exact (((Below.refl _ w).alloc (Nat.le_refl _) _).alloc (by simp) _).alloc (by simp; omega) _
/-- The four points beside a point. -/
def besideV (X Y : Int) : Value := .agg #[.int .i64 (X - 1), .int .i64 Y, .int .i64 (X + 1), .int .i64 Y, .int .i64 X, .int .i64 (Y - 1), .int .i64 X, .int .i64 (Y + 1)]
set_option maxHeartbeats 1600000 in
theorem beside_any (X Y : Int) (hX : Far X) (hY : Far Y) (w : World) :
    Calls Tryz.prog 158 #[.agg #[.int .i64 X, .int .i64 Y]] w fun e w' => e = .returned (besideV X Y) ∧ Below w.heap.size w w' := by
  unfold Far at hX hY
  unfold besideV
  have i1 : IntKind.i64.wrap (X - 1) = X - 1 := IntWalk.i64_in _ ⟨by omega, by omega⟩
  have i2 : IntKind.i64.wrap (X + 1) = X + 1 := IntWalk.i64_in _ ⟨by omega, by omega⟩
  have i3 : IntKind.i64.wrap (Y - 1) = Y - 1 := IntWalk.i64_in _ ⟨by omega, by omega⟩
  have i4 : IntKind.i64.wrap (Y + 1) = Y + 1 := IntWalk.i64_in _ ⟨by omega, by omega⟩
  clear hX hY
  go_enter Tryz.func158, Tryz.ntmps158
  go_wp2
  refine bodyPost_ret (v := .agg #[.int .i64 (X - 1), .int .i64 Y, .int .i64 (X + 1), .int .i64 Y, .int .i64 X, .int .i64 (Y - 1), .int .i64 X, .int .i64 (Y + 1)]) (by simp [results, Tryz.results158, go_sem]) rfl ⟨rfl, ?_⟩
  exact ((Below.refl _ w).alloc (Nat.le_refl _) _).alloc (by simp) _

/-- A place's cells. -/
def qval (q : Int × Int) : List Value := [.int .i64 q.1, .int .i64 q.2]
theorem Tryz.infoPt : (Tryz.prog.info? 117).map (fun i => (i.zero, i.size, i.bytes)) = some (some (.agg #[.int .i64 0, .int .i64 0]), 2, 16) := by kernel_rfl
theorem cells_new2 (w : World) (T : TypeId) (a b : Value) : ∀ j u, [a, b][j]? = some u → (w.alloc (.cells #[a, b] T)).cell? ((⟨w.heap.size, 0, none⟩ : Addr).add j) = some u := fun j u h => by
  rw [Addr.add_mid, cell_of_row _ w.heap.size (0 + j) _ _ (0, 0) (heap_alloc_new w _)]
  simpa using h
theorem dirs_index (X Y : Int) (k : Nat) (hk : k < 4) : ∃ dx dy : Int, dirsL[k]?.getD (0, 0) = (dx, dy) ∧ (-1 ≤ dx ∧ dx ≤ 1) ∧ (-1 ≤ dy ∧ dy ≤ 1) ∧
    ∀ w : World, (Instr.index 226 (besideV X Y) (.int .i64 k)).run Tryz.prog w = .ok (.agg #[.int .i64 (X + dx), .int .i64 (Y + dy)]) w := by
  match k, hk with
  | 0, _ => exact ⟨-1, 0, rfl, by omega, by omega, fun w => by rw [show X + -1 = X - 1 by omega, Int.add_zero]; kernel_rfl⟩
  | 1, _ => exact ⟨1, 0, rfl, by omega, by omega, fun w => by rw [Int.add_zero]; kernel_rfl⟩
  | 2, _ => exact ⟨0, -1, rfl, by omega, by omega, fun w => by rw [show Y + -1 = Y - 1 by omega, Int.add_zero]; kernel_rfl⟩
  | 3, _ => exact ⟨0, 1, rfl, by omega, by omega, fun w => by rw [Int.add_zero]; kernel_rfl⟩

set_option maxRecDepth 100000 in
set_option maxHeartbeats 3200000 in
theorem neighbours_any (W H : Nat) (X Y : Int) (hX : 0 ≤ X ∧ X ≤ 1048576) (hY : 0 ≤ Y ∧ Y ≤ 1048576) (a : Option Addr) (n c : Nat) (w : World) :
    Calls Tryz.prog 126 #[.agg #[.int .i64 W, .int .i64 H, .slice a n c], .agg #[.int .i64 X, .int .i64 Y]] w fun e w' =>
      ∃ v, e = .returned v ∧ w'.ownsRow w.heap.size 117 2 v (nbrsTo W H X Y 4).length ((nbrsTo W H X Y 4).flatMap qval) ∧ Below w.heap.size w w' := by
  obtain ⟨i0, hi, hz0, hz1, hz2⟩ := info_parts Tryz.infoPt
  have KB := Lib.hid (fun w1 => beside_any X Y (by unfold Far; omega) (by unfold Far; omega) w1)
  go_enter Tryz.func126, Tryz.ntmps126
  go_wp2_with (go_at_call 158; refine (KB.out _).mono ?_; rintro e W0 ⟨rfl, hbb⟩)
  have hB0 : Below w.heap.size w W0 := (((Below.refl _ w).alloc (Nat.le_refl _) _).alloc (by simp) _).trans (hbb.mono (by simp; omega))
  have hz : w.heap.size + 2 ≤ W0.heap.size := by have := hbb.size; simpa using this
  have g0 : W0.cell? ⟨w.heap.size, 0, none⟩ = some (.int .i64 W) := (hbb.cell (by first | (simp; done) | (simp; omega))).trans (by simp [go_sem])
  have g1 : W0.cell? ⟨w.heap.size, 1, none⟩ = some (.int .i64 H) := (hbb.cell (by first | (simp; done) | (simp; omega))).trans (by simp [go_sem])
  have g2 : W0.cell? ⟨w.heap.size, 2, none⟩ = some (.slice a n c) := (hbb.cell (by first | (simp; done) | (simp; omega))).trans (by simp [go_sem])
  have HZ := Lib.hid hz
  have HB0 := Lib.hid hB0
  clear hbb hz hB0
  go_loopw [5, 10] (fun out i wr => ∃ k : Nat, k ≤ 4 ∧ i = .int .i64 k ∧ wr.ownsRow (w.heap.size + 2) 117 2 out (nbrsTo W H X Y k).length ((nbrsTo W H X Y k).flatMap qval) ∧ Below (w.heap.size + 2) W0 wr)
    (fun _ i _ => 4 - (intOf i).toNat)
  case atStart => exact ⟨0, Nat.zero_le _, rfl, World.ownsRow_nil _ _ _ _, Below.refl _ _⟩
  case round =>
    obtain ⟨k, hk, rfl, hown, hnx⟩ := hrel
    have hsz : w.heap.size + 2 ≤ wr.heap.size := by have := hnx.size; have := HZ.out; omega
    by_cases hlt : k < 4
    · obtain ⟨dx, dy, hd, hdx, hdy, hix⟩ := dirs_index X Y k hlt
      have hS := nbrsTo_succ W H X Y k hlt
      rw [hd] at hS
      have HS := Lib.hid hS
      have hl4 := nbrsTo_len W H X Y k
      replace g0 := (hnx.cell (p := ⟨w.heap.size, 0, none⟩) (by show w.heap.size < _; omega)).trans g0
      replace g1 := (hnx.cell (p := ⟨w.heap.size, 1, none⟩) (by show w.heap.size < _; omega)).trans g1
      replace g2 := (hnx.cell (p := ⟨w.heap.size, 2, none⟩) (by show w.heap.size < _; omega)).trans g2
      have hltI : (k : Int) < 4 := by omega
      have n0 := World.new_ne wr _ g0
      have l0 : w.heap.size < wr.heap.size := by omega
      clear hd hS
      by_cases hin : insideB W H (X + dx, Y + dy) = true
      · have K := Lib.hid (fun w1 => hin ▸ has_any W H (X + dx) (Y + dy) a n c w1)
        have HIN := Lib.hid hin
        clear hin
        go_wp2_with (first
          | (go_at_call 116; refine (K.out _).mono ?_; rintro e w1 ⟨rfl, hb1⟩
             have hs1 := hb1.size
             simp at hs1
             have q0 : w1.cell? ⟨wr.heap.size, 0, none⟩ = some (.int .i64 (X + dx)) := by rw [hb1.cell (by simp)]; simp [go_sem]
             have q1 : w1.cell? ⟨wr.heap.size, 1, none⟩ = some (.int .i64 (Y + dy)) := by rw [hb1.cell (by simp)]; simp [go_sem]
             have hb2 : Below (w.heap.size + 2) W0 w1 := (hnx.alloc hsz _).trans (hb1.mono (by simp; omega))
             have hown1 : w1.ownsRow (w.heap.size + 2) 117 2 _ _ _ := owns_kept (hown.alloc _) hb1 (by simp)
             clear hb1 hown)
          | (at_builtin; refine wpList_append_own _ rfl (.tmp 16) (.tmp 18) 197 rfl (w.heap.size + 2) 117 i0 (.agg #[.int .i64 0, .int .i64 0]) 2 16 Tryz.underlying197 hi hz0 hz1 hz2 rfl (by decide) _ _ _ rfl (hown1.alloc _) ⟨w1.heap.size, 0, none⟩ 1 1 [.int .i64 (X + dx), .int .i64 (Y + dy)] rfl rfl (cells_new2 _ _ _ _) (by intro u hu; simp at hu; rcases hu with rfl | rfl <;> rfl) (by unfold maxLen; omega) (by omega) (by simp; omega) ?_; intro v' w3 hown3 hgrow3 _))
        have hlt' := hown1.lt
        go_roundw
        case rel => exact ⟨k + 1, by omega, by go_num, by rw [HS.out, if_pos HIN.out, List.flatMap_append, List.length_append]; exact hown3, (hb2.alloc (by omega) _).grown hgrow3 (by simp; omega) (fun j hj => (hlt' j hj).1)⟩
        case measure => simp [intOf]; omega
      · have hin' : insideB W H (X + dx, Y + dy) = false := by simpa using hin
        have K := Lib.hid (fun w1 => hin' ▸ has_any W H (X + dx) (Y + dy) a n c w1)
        have HIN := Lib.hid hin
        clear hin hin'
        go_wp2_with (go_at_call 116; refine (K.out _).mono ?_; rintro e w1 ⟨rfl, hb1⟩)
        go_roundw
        case rel => exact ⟨k + 1, by omega, by go_num, by rw [HS.out, if_neg HIN.out]; exact owns_kept (hown.alloc _) hb1 (by simp), (hnx.alloc hsz _).trans (hb1.mono (by simp; omega))⟩
        case measure => simp [intOf]; omega
    · go_wp2
      go_ret
      obtain rfl : k = 4 := by omega
      exact ⟨_, rfl, owns_base hown (by omega), HB0.out.trans (hnx.mono (by omega))⟩
end Go.Proofs.YtfpagmalblmnkaaGreatDoor

/-
  Contracts of the law's telegrams, of mapped checks and of the counters of any telegrams.
-/
namespace Go.Proofs.YtfpagmalblmnkaaGreatDoor
open Go.RowKit
set_option linter.unusedVariables false
set_option linter.unusedSimpArgs false

theorem flat_val_at : ∀ (L : List Tel) (k j : Nat) (v : Value), k < L.length → (L[k]?.getD tel0).val[j]? = some v → (L.flatMap Tel.val)[6 * k + j]? = some v
  | [], _, _, _, h, _ => by simp at h
  | t :: L, 0, j, v, _, h => by
    simp only [List.getElem?_cons_zero, Option.getD_some] at h
    rw [List.flatMap_cons, List.getElem?_append_left (by have := (List.getElem?_eq_some_iff.1 h).1; omega)]
    rw [Nat.mul_zero, Nat.zero_add]; exact h
  | t :: L, k + 1, j, v, hk, h => by
    have hl : t.val.length = 6 := rfl
    rw [List.flatMap_cons, List.getElem?_append_right (by omega), hl, show 6 * (k + 1) + j - 6 = 6 * k + j by omega]
    exact flat_val_at L k j v (by simpa using hk) (by simpa using h)

theorem AnyTels.of_row {w : World} {B : Nat} {v : Value} {n : Nat} {L : List Tel} (hl : L.length = n) (h : w.ownsRow B 79 6 v n (L.flatMap Tel.val)) : ∃ a c, v = .slice a n c ∧ AnyTels w a n L := by
  rcases h.2 with ⟨rfl, rfl⟩ | ⟨g, cap, cur, rfl, hb, hg, _⟩
  · exact ⟨none, 0, rfl, hl, fun j hj => absurd hj (by omega)⟩
  · refine ⟨_, _, rfl, hl, fun j hj => ⟨g, 0, rfl, lt_of_blk hg, fun k hk i u hu => ?_⟩⟩
    have h1 := h.cells (g := g) rfl (6 * k + i) u (flat_val_at L k i u hk hu)
    rw [Addr.add_mid, Nat.zero_add] at h1
    rw [Nat.zero_add, Nat.mul_comm k 6]
    exact h1

set_option maxRecDepth 100000 in
set_option maxHeartbeats 3200000 in
theorem mapped_tels (L : List Tel) (a : Option Addr) (n cp : Nat) (hm : n ≤ 512) (w : World) (hA : AnyTels w a n L) :
    Calls Tryz.prog 149 #[.slice a n cp, .func (.func 96) #[] #[]] w fun e w' =>
      e = .returned (.slice (some ⟨w.heap.size, 0, none⟩) n n) ∧ w'.ownsRow w.heap.size 27 1 (.slice (some ⟨w.heap.size, 0, none⟩) n n) n ((L.map Tel.err).map (Value.int .i64)) ∧ Below w.heap.size w w' := by
  obtain ⟨i0, hi, hz0, hz1, hz2⟩ := info_parts Tryz.info27_check
  have HC := Lib.hid hA.2
  have HN := Lib.hid hA.1.symm
  clear hA
  have s35 : (Tryz.prog.info? 79).map (·.size) = some 6 := by kernel_rfl
  go_enter Tryz.func149, Tryz.ntmps149
  go_wp2_with (at_make; refine wpList_make_own _ rfl _ _ 102 rfl w.heap.size 27 i0 (.int .i64 0) 1 Tryz.underlying102 hi hz0 hz1 _ _ _ n rfl rfl (by omega) ?b2 ?b3 (Nat.le_refl _) ?_)
  case b2 => rw [hz2]; omega
  case b3 => unfold maxLen; omega
  intro w0 hown0 hgrow0
  go_wp2
  go_loopw [5, 13] (fun out i wr => ∃ k : Nat, k ≤ n ∧ i = .int .i64 k ∧ out = .slice (some ⟨w.heap.size, 0, none⟩) k n ∧
      wr.ownsRow w.heap.size 27 1 (.slice (some ⟨w.heap.size, 0, none⟩) k n) k (((L.map Tel.err).take k).map (Value.int .i64)) ∧ Below w.heap.size w wr)
    (fun _ i _ => n - (intOf i).toNat)
  case atStart => exact ⟨0, Nat.zero_le _, rfl, rfl, hown0, (Below.refl _ _).grown hgrow0 (Nat.le_refl _) (fun k h => by cases h)⟩
  case round =>
    obtain ⟨k, hk, rfl, rfl, hown, hnx⟩ := hrel
    have hsz := hnx.size
    by_cases hlt : k < n
    · have hlt2 : k < L.length := by have := HN.out; omega
      obtain ⟨b, q, rfl, hb, hT0⟩ := HC.out k hlt
      have hT := hT0 k hlt2
      have hS := take_map_succ (Value.int .i64) (L.map Tel.err) k (by rw [List.length_map]; exact hlt2) 0
      have hE : (L.map Tel.err)[k]?.getD 0 = (L[k]?.getD tel0).err := by rw [List.getElem?_map, List.getElem?_eq_getElem hlt2]; rfl
      rw [hE] at hS
      clear hE
      obtain ⟨t, ht⟩ : ∃ t, L[k]?.getD tel0 = t := ⟨_, rfl⟩
      rw [ht] at hT hS
      have hr : wr.rangeAt b (q + k * 6) t.val := fun j v hv => by
        rw [hnx.cell (by exact hb)]
        exact hT j v hv
      have HR := Lib.hid hr
      have K := Lib.hid (checkTelegram_all t.s t.c t.o t.x t.y t.z)
      have HS := Lib.hid hS
      obtain ⟨r, hrr⟩ : ∃ r, t.err = r := ⟨_, rfl⟩
      rw [show telErr t.s t.c t.o t.x t.y t.z = r from hrr] at K
      rw [hrr] at HS
      clear ht hr hT hT0 hS hrr hlt2 HC
      have hv : t.val = [.int .i64 t.s, .int .i64 t.c, .int .i64 t.o, .int .i64 t.x, .int .i64 t.y, .int .i64 t.z] := rfl
      go_wp2_with (first
        | (refine wpList_load_mid rfl 79 (.tmp 15) rfl b (q + k * 6) rfl t.val _ HR.out Tryz.underlying79 rfl (by rw [s35]; rfl) ?_)
        | (go_at_call 96; refine (K.out _).mono ?_; rintro e w2 ⟨rfl, hb2⟩
           have hown2 := owns_kept (hown.alloc _) hb2 (Nat.le_refl _)
           have hs2 : wr.heap.size + 1 ≤ w2.heap.size := by simpa using hb2.size)
        | (at_builtin; refine wpList_append_fits _ rfl (.tmp 17) (.tmp 21) 102 rfl w.heap.size 27 i0 1 Tryz.underlying102 hi hz1 w.heap.size k n _ rfl (hown2.alloc _) ⟨w2.heap.size, 0, none⟩ 1 1 [.int .i64 r] rfl rfl (cell_one_new _ _ _) (by intro u hu; simp at hu; subst hu; rfl) (by omega) ?_; intro w1 hown1 hgrow1))
      have hB2 : Below w.heap.size w w2 := (hnx.alloc hsz _).trans (hb2.mono (by simp; omega))
      go_roundw
      case rel => exact ⟨k + 1, by omega, by go_num, rfl, by rw [HS.out]; exact hown1, (hB2.alloc (by omega) _).grown hgrow1 (by simp; omega) (fun j hj => by cases hj; exact Nat.le_refl _)⟩
      case measure => simp [intOf]; omega
    · go_wp2
      go_ret
      obtain rfl : k = n := by omega
      rw [List.take_of_length_le (by have := HN.out; rw [List.length_map]; omega)] at hown
      exact ⟨rfl, hown, hnx⟩

set_option maxRecDepth 100000 in
set_option maxHeartbeats 3200000 in
theorem countersOf_all (L : List Tel) (a : Option Addr) (n cp : Nat) (st : Int) (hm : n ≤ 512) (w : World) (hA : AnyTels w a n L) :
    Calls Tryz.prog 103 #[.slice a n cp, .int .i64 st] w fun e w' =>
      ∃ v, e = .returned v ∧ w'.ownsRow w.heap.size 3 1 v (countsOf L st).length ((countsOf L st).map (Value.int .i64)) ∧ Below w.heap.size w w' := by
  obtain ⟨i0, hi, hz0, hz1, hz2⟩ := info_parts Tryz.infoInt
  have HC := Lib.hid hA.2
  have HN := Lib.hid hA.1.symm
  clear hA
  have s35 : (Tryz.prog.info? 79).map (·.size) = some 6 := by kernel_rfl
  go_enter Tryz.func103, Tryz.ntmps103
  go_wp2
  go_loopw [5, 10] (fun out i wr => ∃ k : Nat, k ≤ n ∧ i = .int .i64 k ∧ wr.ownsRow w.heap.size 3 1 out (countsOf (L.take k) st).length ((countsOf (L.take k) st).map (Value.int .i64)) ∧ Below w.heap.size w wr)
    (fun _ i _ => n - (intOf i).toNat)
  case atStart => exact ⟨0, Nat.zero_le _, rfl, World.ownsRow_nil _ _ _ _, Below.refl _ _⟩
  case round =>
    obtain ⟨k, hk, rfl, hown, hnx⟩ := hrel
    have hsz : w.heap.size ≤ wr.heap.size := hnx.size
    by_cases hlt : k < n
    · obtain ⟨b, q, rfl, hb, hT0⟩ := HC.out k hlt
      have hT := hT0 k (by have := HN.out; omega)
      have hS := countsOf_succ L st k (by have := HN.out; omega)
      obtain ⟨t, ht⟩ : ∃ t, L[k]?.getD tel0 = t := ⟨_, rfl⟩
      rw [ht] at hT hS
      have hr : wr.rangeAt b (q + k * 6) t.val := fun j v hv => by
        rw [hnx.cell (by exact hb)]
        exact hT j v hv
      have HR := Lib.hid hr
      have HS := Lib.hid hS
      clear ht hr hT hT0 hS HC
      have hv : t.val = [.int .i64 t.s, .int .i64 t.c, .int .i64 t.o, .int .i64 t.x, .int .i64 t.y, .int .i64 t.z] := rfl
      have hcl := counts_len (L.take k) st
      have hcl2 : (L.take k).length ≤ k := by simp; omega
      by_cases hst : t.s = st
      · have HST := Lib.hid hst
        have hst1 : (t.s == st) = true := by simp [hst]
        clear hst
        go_wp2_with (first
          | (refine wpList_load_mid rfl 79 (.tmp 12) rfl b (q + k * 6) rfl t.val _ HR.out Tryz.underlying79 rfl (by rw [s35]; rfl) ?_)
          | (at_builtin; refine wpList_append_own _ rfl (.tmp 18) (.tmp 21) 91 rfl w.heap.size 3 i0 (.int .i64 0) 1 8 Tryz.underlying91 hi hz0 hz1 hz2 rfl (by decide) _ _ _ rfl ((hown.alloc _).alloc _) ⟨wr.heap.size + 1, 0, none⟩ 1 1 [.int .i64 t.c] rfl rfl (by have h := cell_one_new (wr.alloc (.cells #[.int .i64 t.s, .int .i64 t.c, .int .i64 t.o, .int .i64 t.x, .int .i64 t.y, .int .i64 t.z] 79)) (.int .i64 t.c) 3; simpa using h) (by intro u hu; simp at hu; subst hu; rfl) (by unfold maxLen; omega) (by omega) (by simp; omega) ?_; intro v' w3 hown3 hgrow3 _))
        have hlt' := hown.lt
        go_roundw
        case rel => exact ⟨k + 1, by omega, by go_num, by rw [HS.out, if_pos HST.out, List.map_append, List.length_append]; exact hown3, ((hnx.alloc hsz _).alloc (by simp; omega) _).grown hgrow3 (by simp; omega) (fun j hj => (hlt' j hj).1)⟩
        case measure => simp [intOf]; omega
      · go_wp2_with (first
          | (refine wpList_load_mid rfl 79 (.tmp 12) rfl b (q + k * 6) rfl t.val _ HR.out Tryz.underlying79 rfl (by rw [s35]; rfl) ?_))
        go_roundw
        case rel => exact ⟨k + 1, by omega, by go_num, by rw [HS.out, if_neg hst]; exact hown.alloc _, hnx.alloc hsz _⟩
        case measure => simp [intOf]; omega
    · go_wp2
      go_ret
      obtain rfl : k = n := by omega
      rw [List.take_of_length_le (by have := HN.out; omega)] at hown
      exact ⟨_, rfl, hown, hnx⟩
end Go.Proofs.YtfpagmalblmnkaaGreatDoor
