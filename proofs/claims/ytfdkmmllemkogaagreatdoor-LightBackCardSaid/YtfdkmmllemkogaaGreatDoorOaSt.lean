/-
  Texts: toMap in the words of ResV, nil or not; slices.Concat of no rows; assembled.
-/
import Derived.Test.YtfdkmmllemkogaaGreatDoorOaShm
import Derived.Test.YtfdkmmllemkogaaGreatDoorOaBp
import Derived.Test.YtfdkmmllemkogaaGreatDoorOaSl
import Derived.Lib.ItoaNum
import Derived.Lib.Join
import Derived.Test.YtfdkmmllemkogaaGreatDoorOZy
namespace Go.Proofs.YtfdkmmllemkogaaGreatDoor
open Go.RowKit
set_option linter.unusedVariables false
set_option linter.unusedSimpArgs false

theorem toMap_res (W H : Int) (g N c B : Nat) (ls : List Int) (hl : ls.length = N) (hm : N ≤ 4096) (w : World) (ho : w.ownsRow B 3 1 (.slice (some ⟨g, 0, none⟩) N c) N (ls.map (Value.int .i64))) :
    Calls Tryz.prog 147 #[.agg #[.int .i64 W, .int .i64 H, .slice (some ⟨g, 0, none⟩) N c]] w fun e w' =>
      ∃ X Y a' n' c', e = .returned (.tuple #[.agg #[.int .i64 X, .int .i64 Y, .slice a' n' c'], .int .i64 (largeErr N ls)]) ∧ ResV w' (largeErr N ls) W H ls X Y a' n' c' ∧ Below w.heap.size w w' := by
  have hg := (owns_room' ho).2
  have hc : ∀ j, j < N → w.cell? ⟨g, 0 + j, none⟩ = some (.int .i64 (ls[j]?.getD 0)) := fun j hj => by
    rw [Nat.zero_add]
    refine owns_cell ho ?_
    rw [List.getElem?_map, List.getElem?_eq_getElem (by omega)]; rfl
  unfold largeErr
  by_cases hs : ∀ j, j < N → (ls[j]?.getD 0).natAbs ≤ 16384
  · rw [if_pos hs]
    refine (toMap_any W H g 0 N c ls hl hm w hg hc hs).mono ?_
    rintro e w' ⟨rfl, h1, h2⟩
    refine ⟨W, H, _, _, _, rfl, ResV.some hl hm hs (owns_room' h1).2 (fun j hj => owns_cell h1 (by rw [List.getElem?_map, List.getElem?_eq_getElem (by omega)]; rfl)), h2⟩
  · rw [if_neg hs]
    refine (toMap_large W H g 0 N c ls hl hm w hg hc hs).mono ?_
    rintro e w' ⟨rfl, h2⟩
    exact ⟨0, 0, none, 0, 0, rfl, ResV.none _ _ _ _ _ (by decide), h2⟩

set_option maxRecDepth 100000 in
set_option maxHeartbeats 3200000 in
theorem mapped_nil (w : World) :
    Calls Tryz.prog 203 #[.slice none 0 0, .func (.func 125) #[] #[]] w fun e w' =>
      e = .returned (.slice (some ⟨w.heap.size, 0, none⟩) 0 0) ∧ Below w.heap.size w w' ∧ w.heap.size < w'.heap.size := by
  obtain ⟨i0, hi, hz0, hz1, hz2⟩ := info_parts Tryz.infoF32
  go_enter Tryz.func203, Tryz.ntmps203
  go_wp2_with (at_make; refine wpList_make_own _ rfl _ _ 46 rfl w.heap.size 23 i0 (.float .f32 0) 1 Tryz.underlying46 hi hz0 hz1 _ _ _ 0 rfl rfl (by omega) ?b2 ?b3 (Nat.le_refl _) ?_)
  case b2 => rw [hz2]; omega
  case b3 => unfold maxLen; omega
  intro w0 hown0 hgrow0
  have hB := (Below.refl w.heap.size w).grown hgrow0 (Nat.le_refl _) (fun k h => by cases h)
  have hlt := (owns_room' hown0).2
  have HB := Lib.hid hB
  have HLT := Lib.hid hlt
  clear hB hlt hown0 hgrow0
  go_wp2
  go_loopw [5, 13] (fun out i wr => out = .slice (some ⟨w.heap.size, 0, none⟩) 0 0 ∧ i = .int .i64 0 ∧ wr = w0) (fun _ i _ => 0)
  case atStart => exact ⟨rfl, rfl, rfl⟩
  case round =>
    obtain ⟨rfl, rfl, hw⟩ := hrel
    have HW := Lib.hid hw
    clear hw
    go_wp2
    go_ret
    exact ⟨rfl, by rw [HW.out]; exact HB.out, by rw [HW.out]; exact HLT.out⟩

set_option maxRecDepth 100000 in
set_option maxHeartbeats 3200000 in
theorem toMap_nil (W H : Int) (w : World) :
    Calls Tryz.prog 147 #[.agg #[.int .i64 W, .int .i64 H, .slice none 0 0]] w fun e w' =>
      e = .returned (.tuple #[.agg #[.int .i64 W, .int .i64 H, .slice (some ⟨w.heap.size + 2, 0, none⟩) 0 0], .int .i64 0]) ∧ Below w.heap.size w w' ∧ w.heap.size + 2 < w'.heap.size := by
  have K : ∀ w1 : World, Below w.heap.size w w1 → w1.heap.size = w.heap.size + 2 → Calls Tryz.prog 203 #[.slice none 0 0, .func (.func 125) #[] #[]] w1 fun e w' =>
      e = .returned (.slice (some ⟨w.heap.size + 2, 0, none⟩) 0 0) ∧ Below (w.heap.size + 2) w1 w' ∧ w.heap.size + 2 < w'.heap.size := by
    intro w1 h1 hs1
    rw [← hs1]
    exact mapped_nil w1
  have HK := Lib.hid K
  clear K
  go_enter Tryz.func147, Tryz.ntmps147
  go_wp2_with fail
  obtain ⟨W0, hW0⟩ : ∃ W0, ((w.alloc (.cells #[.int .i64 W, .int .i64 H, .slice none 0 0] 188)).alloc (.cells #[.int .i64 0, .int .i64 0, .slice none 0 0] 54)) = W0 := ⟨_, rfl⟩
  have hB0 : Below w.heap.size w W0 := by rw [← hW0]; exact ((Below.refl _ w).alloc (Nat.le_refl _) _).alloc (by simp) _
  have hz0 : W0.heap.size = w.heap.size + 2 := by rw [← hW0]; simp
  have c0 : W0.cell? ⟨w.heap.size, 0, none⟩ = some (.int .i64 W) := by rw [← hW0]; simp [go_sem]
  have c1 : W0.cell? ⟨w.heap.size, 1, none⟩ = some (.int .i64 H) := by rw [← hW0]; simp [go_sem]
  have c2 : W0.cell? ⟨w.heap.size, 2, none⟩ = some (.slice none 0 0) := by rw [← hW0]; simp [go_sem]
  have t0 : W0.cell? ⟨w.heap.size + 1, 0, none⟩ = some (.int .i64 0) := by rw [← hW0]; simp [go_sem]
  have t1 : W0.cell? ⟨w.heap.size + 1, 1, none⟩ = some (.int .i64 0) := by rw [← hW0]; simp [go_sem]
  have t2 : W0.cell? ⟨w.heap.size + 1, 2, none⟩ = some (.slice none 0 0) := by rw [← hW0]; simp [go_sem]
  have fz : ∀ j, W0.frozen? ⟨w.heap.size + 1, j, none⟩ = false := fun j => by rw [← hW0]; simp [go_sem]
  rw [hW0]
  have HB0 := Lib.hid hB0
  have HZ0 := Lib.hid hz0
  clear hW0 hB0 hz0
  go_loop [9] (fun i => i = .int .i64 0) (fun i => 0)
  case atStart => rfl
  case round =>
    obtain rfl := hrel
    go_wp2_with fail
    go_region_held3 (fun w' => w'.cell? ⟨w.heap.size, 0, none⟩ = some (.int .i64 W) ∧ w'.cell? ⟨w.heap.size, 1, none⟩ = some (.int .i64 H) ∧ w'.cell? ⟨w.heap.size, 2, none⟩ = some (.slice none 0 0))
      (first | go_keep | (go_split_ands; refine ⟨?_, ?_, ?_⟩ <;> rw [hb1.cell (by simp; try omega)] <;> assumption))
      ((go_at_call 203; refine (HK.out _ HB0.out.drew (by show W0.heap.size = _; exact HZ0.out)).mono ?_; rintro e w' ⟨rfl, hb1, hlt⟩
        have s0 : w'.cell? ⟨w.heap.size + 1, 0, none⟩ = some (.int .i64 0) := by rw [hb1.cell (by simp)]; assumption
        have s1 : w'.cell? ⟨w.heap.size + 1, 1, none⟩ = some (.int .i64 0) := by rw [hb1.cell (by simp)]; assumption
        have s2 : w'.cell? ⟨w.heap.size + 1, 2, none⟩ = some (.slice none 0 0) := by rw [hb1.cell (by simp)]; assumption
        have f0 : w'.frozen? ⟨w.heap.size + 1, 0, none⟩ = false := by rw [hb1.frozen (by simp)]; exact fz 0
        have f1 : w'.frozen? ⟨w.heap.size + 1, 1, none⟩ = false := by rw [hb1.frozen (by simp)]; exact fz 1
        have f2 : w'.frozen? ⟨w.heap.size + 1, 2, none⟩ = false := by rw [hb1.frozen (by simp)]; exact fz 2))
    all_goals
      go_wp2
      refine bodyPost_ret (v := .tuple #[.agg #[.int .i64 W, .int .i64 H, .slice (some ⟨w.heap.size + 2, 0, none⟩) 0 0], .int .i64 0]) (by simp [results, Tryz.results147, go_sem, s0, s1, s2]) rfl ⟨rfl, ?_, ?_⟩
      · exact (((HB0.out.drew.trans (hb1.mono (by omega))).setCell (p := ⟨w.heap.size + 1, 0, none⟩) (by simp) _).setCell (p := ⟨w.heap.size + 1, 1, none⟩) (by simp) _).setCell (p := ⟨w.heap.size + 1, 2, none⟩) (by simp) _
      · simpa using hlt

set_option maxRecDepth 100000 in
set_option maxHeartbeats 1600000 in
theorem grow_zero (w : World) :
    Calls Tryz.prog 243 #[.slice none 0 0, .int .i64 0] w fun e w' => e = .returned (.slice none 0 0) ∧ w = w' := by
  go_enter Tryz.func243, Tryz.ntmps243
  go_wp2
  go_ret
  exact ⟨rfl, rfl⟩
set_option maxRecDepth 100000 in
set_option maxHeartbeats 3200000 in
theorem concat_none (a : Option Addr) (c : Nat) (w : World) :
    Calls Tryz.prog 224 #[.slice a 0 c] w fun e w' => e = .returned (.slice none 0 0) ∧ w = w' := by
  go_enter Tryz.func224, Tryz.ntmps224
  go_wp2
  go_loop [3, 11] (fun z i => z = .int .i64 0 ∧ i = .int .i64 0) (fun _ i => 0)
  case atStart => exact ⟨rfl, rfl⟩
  case round =>
    obtain ⟨rfl, rfl⟩ := hrel
    go_wp2_with fail
    refine (grow_zero _).mono ?_
    rintro e w1 ⟨rfl, rfl⟩
    go_wp2
    go_loop [6, 27] (fun z i => z = .slice none 0 0 ∧ i = .int .i64 0) (fun _ i => 0)
    case atStart => exact ⟨rfl, rfl⟩
    case round =>
      obtain ⟨rfl, rfl⟩ := hrel
      go_wp2
      go_ret
      exact ⟨rfl, rfl⟩
end Go.Proofs.YtfdkmmllemkogaaGreatDoor

/-
  Texts: assembled: the map of rows, or its error.
-/

namespace Go.Proofs.YtfdkmmllemkogaaGreatDoor
open Go.RowKit
set_option linter.unusedVariables false
set_option linter.unusedSimpArgs false

theorem smpOf_wordS (n : Int) (hn : n.natAbs < 2 ^ 24) : smpOf n < 2 ^ 32 := by
  have := floatBits_wf (smpOf_run n hn)
  simpa [Lit.wf] using this
/-- The error of a map of integers. -/
def cellErr (W H : Int) (ls : List Int) : Int := if largeErr ls.length ls = 0 then mapErr W H ls.length (ls.map smpOf) else largeErr ls.length ls
open Classical in
/-- The error of rows. -/
noncomputable def asmErr (W H : Int) (rs : List (List Int)) : Int := if (rs.length : Int) = H ∧ ∀ r ∈ rs, (r.length : Int) = W then cellErr W H rs.flatten else 2
/-- What assembled answers. -/
def AsmV (w : World) (W H : Int) (rs : List (List Int)) (e : Ending) (w' : World) : Prop :=
  ∃ X Y a n c, e = .returned (.tuple #[.agg #[.int .i64 X, .int .i64 Y, .slice a n c], .int .i64 (asmErr W H rs)]) ∧ ResV w' (asmErr W H rs) W H rs.flatten X Y a n c ∧ Below w.heap.size w w'
theorem asm_bad {w w' : World} {W H : Int} {rs : List (List Int)} {r : Int} (h : asmErr W H rs = r) (h0 : r ≠ 0) (hb : Below w.heap.size w w') : AsmV w W H rs (.returned (.tuple #[.agg #[.int .i64 0, .int .i64 0, .slice none 0 0], .int .i64 r])) w' :=
  ⟨0, 0, none, 0, 0, by rw [h], by rw [h]; exact ResV.none _ _ _ _ _ h0, hb⟩
theorem asm_ok {w w' : World} {W H : Int} {rs : List (List Int)} {X Y : Int} {a : Option Addr} {n c : Nat} (h : asmErr W H rs = 0) (hr : ResV w' 0 W H rs.flatten X Y a n c) (hb : Below w.heap.size w w') : AsmV w W H rs (.returned (.tuple #[.agg #[.int .i64 X, .int .i64 Y, .slice a n c], .int .i64 0])) w' :=
  ⟨X, Y, a, n, c, by rw [h], by rw [h]; exact hr, hb⟩
theorem ResV.any {w : World} {W H : Int} {ls : List Int} {X Y : Int} {a : Option Addr} {n c : Nat} (h : ResV w 0 W H ls X Y a n c) : AnyMap w a n c (ls.map smpOf) := by
  obtain ⟨h1, h2, h3, h4, h5, g, h6, h7, h8⟩ := h.ok rfl
  have hx : ∀ j, j < n → (ls.map smpOf)[j]?.getD 0 = smpOf (ls[j]?.getD 0) := fun j hj => by
    rw [List.getElem?_map, List.getElem?_eq_getElem (by omega)]; rfl
  refine ⟨by rw [List.length_map]; exact h3, fun j hj => ?_, .inr ⟨_, h6⟩, fun j hj => ⟨g, 0, h6, h7, fun k hk => by rw [Nat.zero_add, hx k hk]; exact h8 k hk⟩⟩
  rw [hx j hj]; exact smpOf_wordS _ (Nat.lt_of_le_of_lt (h5 j hj) (by decide))

theorem mapErr_pos {W H : Int} {n : Nat} {xs : List Nat} (hx : xs.length = n) (h : mapErr W H n xs = 0) : 1 ≤ n := by
  obtain ⟨w1, w2, h1, h2, hA, hS⟩ := mapErr_zero hx h
  have := Int.mul_le_mul w1 h1 (by omega) (by omega)
  omega
/-- What toMap answers, in words that serve no rows, too. -/
def ToMapV (w : World) (W H : Int) (ls : List Int) (e : Ending) (w' : World) : Prop :=
  ∃ X Y a n c, e = .returned (.tuple #[.agg #[.int .i64 X, .int .i64 Y, .slice a n c], .int .i64 (largeErr ls.length ls)]) ∧ (largeErr ls.length ls = 0 → X = W ∧ Y = H ∧ n = ls.length ∧ AnyMap w' a n c (ls.map smpOf) ∧ (1 ≤ ls.length → ResV w' 0 W H ls X Y a n c)) ∧ Below w.heap.size w w'
theorem toMap_v1 (W H : Int) (g N c B : Nat) (ls : List Int) (hl : ls.length = N) (hm : N ≤ 4096) (w : World) (ho : w.ownsRow B 3 1 (.slice (some ⟨g, 0, none⟩) N c) N (ls.map (Value.int .i64))) :
    Calls Tryz.prog 147 #[.agg #[.int .i64 W, .int .i64 H, .slice (some ⟨g, 0, none⟩) N c]] w (ToMapV w W H ls) := by
  refine (toMap_res W H g N c B ls hl hm w ho).mono ?_
  rintro e w' ⟨X, Y, a', n', c', rfl, hr, hb⟩
  subst hl
  refine ⟨X, Y, a', n', c', rfl, fun h0 => ?_, hb⟩
  rw [h0] at hr
  obtain ⟨h1, h2, h3, h4⟩ := hr.ok rfl
  exact ⟨h1, h2, h3.symm, hr.any, fun _ => hr⟩
theorem toMap_v0 (W H : Int) (w : World) :
    Calls Tryz.prog 147 #[.agg #[.int .i64 W, .int .i64 H, .slice none 0 0]] w (ToMapV w W H []) := by
  refine (toMap_nil W H w).mono ?_
  rintro e w' ⟨rfl, hb, hlt⟩
  have hl : largeErr ([] : List Int).length [] = 0 := if_pos (fun j hj => by cases hj)
  exact ⟨W, H, _, 0, 0, by rw [hl], fun _ => ⟨rfl, rfl, rfl, ⟨rfl, fun j hj => (by omega), .inr ⟨_, rfl⟩, fun j hj => (by omega)⟩, fun h => by cases h⟩, hb⟩

theorem asm_end {w w2 : World} {x y z x' y' z' : Value} (hk : w2.heap[w.heap.size]? = some (.cells #[x, y, z] 54 (0, 0))) (hb : Below w.heap.size w w2) (o : Obj) :
    ((((w2.setCell ⟨w.heap.size, 0, none⟩ x').setCell ⟨w.heap.size, 1, none⟩ y').setCell ⟨w.heap.size, 2, none⟩ z').alloc o).heap[w.heap.size]? = some (.cells #[x', y', z'] 54 (0, 0)) ∧
    Below w.heap.size w ((((w2.setCell ⟨w.heap.size, 0, none⟩ x').setCell ⟨w.heap.size, 1, none⟩ y').setCell ⟨w.heap.size, 2, none⟩ z').alloc o) := by
  have r := blk_set3 hk x' y' z'
  have b := ((hb.setCell (p := ⟨w.heap.size, 0, none⟩) (Nat.le_refl _) x').setCell (p := ⟨w.heap.size, 1, none⟩) (Nat.le_refl _) y').setCell (p := ⟨w.heap.size, 2, none⟩) (Nat.le_refl _) z'
  have l := (Array.getElem?_eq_some_iff.1 r).1
  exact ⟨(Below.heap_alloc _ _ _ l).trans r, b.alloc (by omega) _⟩
theorem res_end {w2 w3 : World} {W H X Y : Int} {ls : List Int} {a : Option Addr} {n c b : Nat} {x' y' z' : Value} {cs : Array Value} {v : Int} (h : ResV w2 0 W H ls X Y a n c) (h1 : 1 ≤ ls.length) (hk : w2.heap[b]? = some (.cells cs 54 (0, 0))) (hcs : cs[0]? = some (.int .i64 v)) (hb : Below w2.heap.size w2 w3) :
    ResV (((w3.setCell ⟨b, 0, none⟩ x').setCell ⟨b, 1, none⟩ y').setCell ⟨b, 2, none⟩ z') 0 W H ls X Y a n c := by
  obtain ⟨e1, e2, e3, e4, e5, g, e6, e7, e8⟩ := h.ok rfl
  have hne : g ≠ b := by
    rintro rfl
    have h0 := e8 0 (by omega)
    rw [cell_of_row w2 _ 0 _ _ (0, 0) hk, hcs] at h0
    cases h0
  refine ⟨fun h => absurd rfl h, fun _ => ⟨e1, e2, e3, e4, e5, g, e6, ?_, fun j hj => ?_⟩⟩
  · have := hb.size
    simp [World.setCell]; omega
  · have hblk : (((w3.setCell ⟨b, 0, none⟩ x').setCell ⟨b, 1, none⟩ y').setCell ⟨b, 2, none⟩ z').heap[g]? = w3.heap[g]? := by
      rw [Below.heap_setCell _ _ _ _ hne, Below.heap_setCell _ _ _ _ hne, Below.heap_setCell _ _ _ _ hne]
    rw [World.cell?_of_block (a := ⟨g, j, none⟩) hblk, hb.cell (p := ⟨g, j, none⟩) e7]
    exact e8 j hj
theorem RowsIn.on {w w' : World} {us : List Value} {rs : List (List Int)} (h : RowsIn w us rs) (hb : Below w.heap.size w w') : RowsIn w' us rs :=
  ⟨h.1, fun j u r hu hr => by
    obtain ⟨g, c, e, hg, hc⟩ := h.2 j u r hu hr
    exact ⟨g, c, e, Nat.lt_of_lt_of_le hg hb.size, fun k v hk => (hb.cell (p := ⟨g, k, none⟩) hg).trans (hc k v hk)⟩⟩
/-- What Concat answers: what toMap takes. -/
def CatV (w : World) (W H : Int) (ls : List Int) (e : Ending) (w' : World) : Prop :=
  ∃ a n c, e = .returned (.slice a n c) ∧ (∀ w2, Below w'.heap.size w' w2 → Calls Tryz.prog 147 #[.agg #[.int .i64 W, .int .i64 H, .slice a n c]] w2 (ToMapV w2 W H ls)) ∧ Below w.heap.size w w'
theorem concat_v (W H : Int) (g o n c : Nat) (us : List Value) (rs : List (List Int)) (w : World) (hg : g < w.heap.size) (hn : us.length = n) (hn2 : n ≤ 1000000) (hcell : ∀ (j : Nat) (u : Value), us[j]? = some u → w.cell? ⟨g, o + j, none⟩ = some u)
    (hrow : RowsIn w us rs) (hN2 : rs.flatten.length ≤ 4096) (hpos : 1 ≤ n → 1 ≤ rs.flatten.length) :
    Calls Tryz.prog 224 #[.slice (some ⟨g, o, none⟩) n c] w (CatV w W H rs.flatten) := by
  by_cases h : 1 ≤ n
  · refine (concat_any g o n c us rs w hg hn hn2 hcell hrow _ rfl (hpos h) (by omega)).mono ?_
    rintro e w' ⟨gg, cc, rfl, ho, hb⟩
    exact ⟨_, _, _, rfl, fun w2 hb2 => toMap_v1 W H gg _ cc _ rs.flatten rfl hN2 w2 (owns_on ho hb2), hb⟩
  · obtain rfl : n = 0 := by omega
    have hr : rs = [] := List.eq_nil_of_length_eq_zero (by rw [← hrow.1]; exact hn)
    refine (concat_none (some ⟨g, o, none⟩) c w).mono ?_
    rintro e w' ⟨rfl, rfl⟩
    exact ⟨none, 0, 0, rfl, fun w2 hb2 => by rw [hr]; exact toMap_v0 W H w2, Below.refl _ _⟩

set_option maxRecDepth 100000 in
set_option maxHeartbeats 6400000 in
theorem assembled_any (W H : Int) (g o n c : Nat) (us : List Value) (rs : List (List Int)) (w : World) (hg : g < w.heap.size) (hn : us.length = n) (hn2 : n ≤ 1000000) (hcell : ∀ (j : Nat) (u : Value), us[j]? = some u → w.cell? ⟨g, o + j, none⟩ = some u)
    (hrow : RowsIn w us rs) (hN2 : rs.flatten.length ≤ 4096) (hpos : 1 ≤ n → 1 ≤ rs.flatten.length) :
    Calls Tryz.prog 190 #[.int .i64 W, .int .i64 H, .slice (some ⟨g, o, none⟩) n c] w (AsmV w W H rs) := by
  have hrl : rs.length = n := by rw [← hrow.1]; exact hn
  by_cases hnb : (n : Int) = H
  · have HNB := Lib.hid hnb
    have e1 : ((n : Int) != H) = false := by simp [hnb]
    have hall : (∀ r ∈ rs, (r.length : Int) = W) ∨ ¬ (∀ r ∈ rs, (r.length : Int) = W) := Classical.em _
    have HALL := Lib.hid hall
    have HC := Lib.hid hcell
    have HR := Lib.hid hrow
    have HN := Lib.hid hn
    have HRL := Lib.hid hrl
    have HPOS := Lib.hid hpos
    clear hall hcell hrow hn hrl hpos hnb
    go_enter Tryz.func190, Tryz.ntmps190
    go_wp2
    obtain ⟨W0, hW0⟩ : ∃ W0, w.alloc (.cells #[.int .i64 0, .int .i64 0, .slice none 0 0] 54) = W0 := ⟨_, rfl⟩
    have hB0 : Below w.heap.size w W0 := by rw [← hW0]; exact (Below.refl _ w).alloc (Nat.le_refl _) _
    have hs0 : W0.heap.size = w.heap.size + 1 := by rw [← hW0]; simp
    have hk0 : W0.heap[w.heap.size]? = some (.cells #[.int .i64 0, .int .i64 0, .slice none 0 0] 54 (0, 0)) := by rw [← hW0]; exact heap_alloc_new w _
    have t0 : W0.cell? ⟨w.heap.size, 0, none⟩ = some (.int .i64 0) := by rw [cell_of_row W0 _ 0 _ _ (0, 0) hk0]; rfl
    have t1 : W0.cell? ⟨w.heap.size, 1, none⟩ = some (.int .i64 0) := by rw [cell_of_row W0 _ 1 _ _ (0, 0) hk0]; rfl
    have t2 : W0.cell? ⟨w.heap.size, 2, none⟩ = some (.slice none 0 0) := by rw [cell_of_row W0 _ 2 _ _ (0, 0) hk0]; rfl
    have f0 : W0.frozen? ⟨w.heap.size, 0, none⟩ = false := frozen_of_row W0 _ 0 _ _ hk0
    have f1 : W0.frozen? ⟨w.heap.size, 1, none⟩ = false := frozen_of_row W0 _ 1 _ _ hk0
    have f2 : W0.frozen? ⟨w.heap.size, 2, none⟩ = false := frozen_of_row W0 _ 2 _ _ hk0
    have HB0 := Lib.hid hB0
    have HS0 := Lib.hid hs0
    have HK0 := Lib.hid hk0
    try rw [hW0]
    clear hW0 hB0 hs0 hk0
    go_loop [19] (fun i => ∃ k : Nat, k ≤ n ∧ i = .int .i64 k ∧ Hid (∀ (j : Nat) (r : List Int), j < k → rs[j]? = some r → (r.length : Int) = W)) (fun i => n - (intOf i).toNat)
    case atStart => exact ⟨0, Nat.zero_le _, rfl, Lib.hid (fun j r h => by omega)⟩
    case round =>
      obtain ⟨k, hk, rfl, hT⟩ := hrel
      by_cases hlt : k < n
      · obtain ⟨u, hu⟩ : ∃ u, us[k]? = some u := ⟨us[k]'(by rw [HN.out]; exact hlt), List.getElem?_eq_getElem _⟩
        obtain ⟨r, hr⟩ : ∃ r, rs[k]? = some r := ⟨rs[k]'(by rw [HRL.out]; exact hlt), List.getElem?_eq_getElem _⟩
        obtain ⟨gg, cc, rfl, -, -⟩ := HR.out.2 k u r hu hr
        have hc : W0.cell? ⟨g, o + k, none⟩ = some (.slice (some ⟨gg, 0, none⟩) r.length cc) := (HB0.out.cell (by exact hg)).trans (HC.out k _ hu)
        by_cases hw : (r.length : Int) = W
        · have hT' := Lib.hid (show ∀ (j : Nat) (r : List Int), j < k + 1 → rs[j]? = some r → (r.length : Int) = W from fun j r' hj hr' => by
            by_cases e : j = k
            · subst e; rw [hr] at hr'; cases hr'; exact hw
            · exact hT.out j r' (by omega) hr')
          have e2 : ((r.length : Int) != W) = false := by simp [hw]
          obtain ⟨m, hm⟩ : ∃ m, r.length = m := ⟨_, rfl⟩
          rw [hm] at hc e2
          clear hu hr hw hm
          go_wp2
          go_round
          case rel => exact ⟨k + 1, by omega, by go_num, hT'⟩
          case measure => first | (simp [intOf]; done) | (simp [intOf]; omega)
        · have he : asmErr W H rs = 2 := by unfold asmErr; rw [if_neg (fun h => hw (h.2 r (List.mem_of_getElem? hr)))]
          have HE := Lib.hid he
          have e2 : ((r.length : Int) != W) = true := by simp [hw]
          obtain ⟨m, hm⟩ : ∃ m, r.length = m := ⟨_, rfl⟩
          rw [hm] at hc e2
          clear hu hr hw hm he
          go_wp2
          obtain ⟨WF, hWF⟩ : ∃ WF, (((W0.setCell ⟨w.heap.size, 0, none⟩ (.int .i64 0)).setCell ⟨w.heap.size, 1, none⟩ (.int .i64 0)).setCell ⟨w.heap.size, 2, none⟩ (.slice none 0 0)) = WF := ⟨_, rfl⟩
          have rF : WF.heap[w.heap.size]? = some (.cells #[.int .i64 0, .int .i64 0, .slice none 0 0] 54 (0, 0)) := by rw [← hWF]; exact blk_set3 HK0.out _ _ _
          have bF : Below w.heap.size w WF := by
            rw [← hWF]
            exact ((HB0.out.setCell (p := ⟨w.heap.size, 0, none⟩) (Nat.le_refl _) _).setCell (p := ⟨w.heap.size, 1, none⟩) (Nat.le_refl _) _).setCell (p := ⟨w.heap.size, 2, none⟩) (Nat.le_refl _) _
          rw [hWF]
          exact bodyPost_ret (v := .tuple #[.agg #[.int .i64 0, .int .i64 0, .slice none 0 0], .int .i64 2]) (results_row_tmp Tryz.results190 _ _ w.heap.size 54 _ (0, 0) _ rfl rF Tryz.underlying54 rfl (by kernel_rfl)) rfl (asm_bad HE.out (by decide) bF)
      · obtain rfl : n = k := by omega
        have he : asmErr W H rs = cellErr W H rs.flatten := by
          unfold asmErr
          refine if_pos ⟨by rw [HRL.out]; exact HNB.out, fun r hr => ?_⟩
          obtain ⟨j, hj⟩ := List.getElem?_of_mem hr
          exact hT.out j r (by have := (List.getElem?_eq_some_iff.1 hj).1; have := HRL.out; omega) hj
        have KC := Lib.hid (concat_v W H g o n c us rs W0 (by have := HS0.out; omega) HN.out hn2 (fun j u hu => (HB0.out.cell (by exact hg)).trans (HC.out j u hu)) (HR.out.on HB0.out) hN2 HPOS.out)
        unfold cellErr at he
        obtain ⟨q, hq⟩ : ∃ q, largeErr rs.flatten.length rs.flatten = q := ⟨_, rfl⟩
        obtain ⟨m, hm⟩ : ∃ m, mapErr W H rs.flatten.length (rs.flatten.map smpOf) = m := ⟨_, rfl⟩
        rw [hq, hm] at he
        have hm1 : m = 0 → 1 ≤ rs.flatten.length := fun h0 => mapErr_pos (by rw [List.length_map]) (hm.trans h0)
        have HM := Lib.hid hm
        have HQ := Lib.hid hq
        have HM1 := Lib.hid hm1
        clear hq hm hm1
        have hcase : (q = 0 ∧ m = 0 ∧ asmErr W H rs = 0) ∨ (q = 0 ∧ m ≠ 0 ∧ asmErr W H rs = m) ∨ (q ≠ 0 ∧ asmErr W H rs = q) := by
          by_cases h0 : q = 0
          · rw [if_pos h0] at he
            by_cases h1 : m = 0
            · exact .inl ⟨h0, h1, by rw [he, h1]⟩
            · exact .inr (.inl ⟨h0, h1, he⟩)
          · rw [if_neg h0] at he
            exact .inr (.inr ⟨h0, he⟩)
        clear he
        rcases hcase with ⟨h0, h1, he⟩ | ⟨h0, h1, he⟩ | ⟨h0, he⟩
        · have HE := Lib.hid he
          have H1 := Lib.hid (HM1.out h1)
          subst h0
          subst h1
          clear he
          go_wp2_with fail
          refine KC.out.mono ?_
          rintro e w1 ⟨a1, n1, c1, rfl, hk1, hb1⟩
          have KM := Lib.hid (hk1 w1 (Below.refl _ _))
          have HB1 := Lib.hid hb1
          clear hk1 hb1
          go_wp2_with fail
          refine KM.out.mono ?_
          rintro e w2 ⟨X, Y, a2, n2, c2, rfl, hok, hb2⟩
          obtain ⟨rfl, rfl, hn2', hany, hres⟩ := hok HQ.out
          have HRES := Lib.hid (hres H1.out)
          rw [HQ.out]
          have KK : Hid (∀ w3, Below w2.heap.size w2 w3 → Calls Tryz.prog 47 #[.agg #[.int .i64 X, .int .i64 Y, .slice a2 n2 c2]] w3 fun e w' => e = .returned (.int .i64 0) ∧ Below w3.heap.size w3 w') := Lib.hid fun w3 hb3 => by
            have h := checkMap_map X Y a2 n2 c2 _ w3 (hany.below hb3 (Nat.le_refl _))
            have hh := HM.out
            rw [← hn2'] at hh
            rw [hh] at h
            exact h
          clear hok hn2' hany hres
          have hk2 : w2.heap[w.heap.size]? = some (.cells #[.int .i64 0, .int .i64 0, .slice none 0 0] 54 (0, 0)) := by
            have l0 := (Array.getElem?_eq_some_iff.1 HK0.out).1
            have e1 := (HB1.out.block w.heap.size l0).trans HK0.out
            exact (hb2.block w.heap.size (Array.getElem?_eq_some_iff.1 e1).1).trans e1
          have HB2 := Lib.hid (HB0.out.trans ((HB1.out.mono (by have := HS0.out; omega)).trans (hb2.mono (by have h1 := HB1.out.size; have := HS0.out; omega))))
          clear t0 t1 t2 f0 f1 f2 hb2
          have t0 : w2.cell? ⟨w.heap.size, 0, none⟩ = some (.int .i64 0) := by rw [cell_of_row w2 _ 0 _ _ (0, 0) hk2]; rfl
          have t1 : w2.cell? ⟨w.heap.size, 1, none⟩ = some (.int .i64 0) := by rw [cell_of_row w2 _ 1 _ _ (0, 0) hk2]; rfl
          have t2 : w2.cell? ⟨w.heap.size, 2, none⟩ = some (.slice none 0 0) := by rw [cell_of_row w2 _ 2 _ _ (0, 0) hk2]; rfl
          have f0 : w2.frozen? ⟨w.heap.size, 0, none⟩ = false := frozen_of_row w2 _ 0 _ _ hk2
          have f1 : w2.frozen? ⟨w.heap.size, 1, none⟩ = false := frozen_of_row w2 _ 1 _ _ hk2
          have f2 : w2.frozen? ⟨w.heap.size, 2, none⟩ = false := frozen_of_row w2 _ 2 _ _ hk2
          have hs2 : w.heap.size < w2.heap.size := (Array.getElem?_eq_some_iff.1 hk2).1
          have HK2 := Lib.hid hk2
          clear hk2
          go_wp2_with fail
          refine (KK.out _ ((Below.refl _ w2).alloc (Nat.le_refl _) _)).mono ?_
          rintro e w3 ⟨rfl, hb3⟩
          have hk3 : w3.heap[w.heap.size]? = some (.cells #[.int .i64 0, .int .i64 0, .slice none 0 0] 54 (0, 0)) := by
            have e1 := (Below.heap_alloc w2 (.cells #[.int .i64 X, .int .i64 Y, .slice a2 n2 c2] 54) w.heap.size hs2).trans HK2.out
            exact (hb3.block w.heap.size (Array.getElem?_eq_some_iff.1 e1).1).trans e1
          have hm3 : w3.heap[w2.heap.size]? = some (.cells #[.int .i64 X, .int .i64 Y, .slice a2 n2 c2] 54 (0, 0)) := (hb3.block _ (by simp)).trans (heap_alloc_new w2 _)
          have HB3 := Lib.hid ((HB2.out.alloc (by omega) _).trans (hb3.mono (by simp; omega)))
          have HB23 : Hid (Below w2.heap.size w2 w3) := Lib.hid (((Below.refl _ w2).alloc (Nat.le_refl _) _).trans (hb3.mono (by simp)))
          clear t0 t1 t2 f0 f1 f2 hb3
          have t0 : w3.cell? ⟨w.heap.size, 0, none⟩ = some (.int .i64 0) := by rw [cell_of_row w3 _ 0 _ _ (0, 0) hk3]; rfl
          have t1 : w3.cell? ⟨w.heap.size, 1, none⟩ = some (.int .i64 0) := by rw [cell_of_row w3 _ 1 _ _ (0, 0) hk3]; rfl
          have t2 : w3.cell? ⟨w.heap.size, 2, none⟩ = some (.slice none 0 0) := by rw [cell_of_row w3 _ 2 _ _ (0, 0) hk3]; rfl
          have f0 : w3.frozen? ⟨w.heap.size, 0, none⟩ = false := frozen_of_row w3 _ 0 _ _ hk3
          have f1 : w3.frozen? ⟨w.heap.size, 1, none⟩ = false := frozen_of_row w3 _ 1 _ _ hk3
          have f2 : w3.frozen? ⟨w.heap.size, 2, none⟩ = false := frozen_of_row w3 _ 2 _ _ hk3
          have r0 : w3.cell? ⟨w2.heap.size, 0, none⟩ = some (.int .i64 X) := by rw [cell_of_row w3 _ 0 _ _ (0, 0) hm3]; rfl
          have r1 : w3.cell? ⟨w2.heap.size, 1, none⟩ = some (.int .i64 Y) := by rw [cell_of_row w3 _ 1 _ _ (0, 0) hm3]; rfl
          have r2 : w3.cell? ⟨w2.heap.size, 2, none⟩ = some (.slice a2 n2 c2) := by rw [cell_of_row w3 _ 2 _ _ (0, 0) hm3]; rfl
          have HK3 := Lib.hid hk3
          clear hk3 hm3
          go_wp2
          have rR := res_end (x' := .int .i64 X) (y' := .int .i64 Y) (z' := .slice a2 n2 c2) HRES.out H1.out HK2.out rfl HB23.out
          have rF := blk_set3 HK3.out (.int .i64 X) (.int .i64 Y) (.slice a2 n2 c2)
          have bF := ((HB3.out.setCell (p := ⟨w.heap.size, 0, none⟩) (Nat.le_refl _) (.int .i64 X)).setCell (p := ⟨w.heap.size, 1, none⟩) (Nat.le_refl _) (.int .i64 Y)).setCell (p := ⟨w.heap.size, 2, none⟩) (Nat.le_refl _) (.slice a2 n2 c2)
          obtain ⟨WF, hWF⟩ : ∃ WF, ((w3.setCell ⟨w.heap.size, 0, none⟩ (.int .i64 X)).setCell ⟨w.heap.size, 1, none⟩ (.int .i64 Y)).setCell ⟨w.heap.size, 2, none⟩ (.slice a2 n2 c2) = WF := ⟨_, rfl⟩
          rw [hWF] at rF bF rR ⊢
          exact bodyPost_ret (v := .tuple #[.agg #[.int .i64 X, .int .i64 Y, .slice a2 n2 c2], .int .i64 0]) (results_row_tmp Tryz.results190 _ _ w.heap.size 54 _ (0, 0) _ rfl rF Tryz.underlying54 rfl (by kernel_rfl)) rfl (asm_ok HE.out rR bF)
        · have HE := Lib.hid he
          have H0 := Lib.hid h1
          have ev : (m == 0) = false := by simp [h1]
          have ev2 : (m != 0) = true := by simp [h1]
          subst h0
          clear h1 he
          go_wp2_with fail
          refine KC.out.mono ?_
          rintro e w1 ⟨a1, n1, c1, rfl, hk1, hb1⟩
          have KM := Lib.hid (hk1 w1 (Below.refl _ _))
          have HB1 := Lib.hid hb1
          clear hk1 hb1
          go_wp2_with fail
          refine KM.out.mono ?_
          rintro e w2 ⟨X, Y, a2, n2, c2, rfl, hok, hb2⟩
          obtain ⟨rfl, rfl, hn2', hany, -⟩ := hok HQ.out
          rw [HQ.out]
          have KK : Hid (∀ w3, Below w2.heap.size w2 w3 → Calls Tryz.prog 47 #[.agg #[.int .i64 X, .int .i64 Y, .slice a2 n2 c2]] w3 fun e w' => e = .returned (.int .i64 m) ∧ Below w3.heap.size w3 w') := Lib.hid fun w3 hb3 => by
            have h := checkMap_map X Y a2 n2 c2 _ w3 (hany.below hb3 (Nat.le_refl _))
            have hh := HM.out
            rw [← hn2'] at hh
            rw [hh] at h
            exact h
          clear hok hn2' hany
          have hk2 : w2.heap[w.heap.size]? = some (.cells #[.int .i64 0, .int .i64 0, .slice none 0 0] 54 (0, 0)) := by
            have l0 := (Array.getElem?_eq_some_iff.1 HK0.out).1
            have e1 := (HB1.out.block w.heap.size l0).trans HK0.out
            exact (hb2.block w.heap.size (Array.getElem?_eq_some_iff.1 e1).1).trans e1
          have HB2 := Lib.hid (HB0.out.trans ((HB1.out.mono (by have := HS0.out; omega)).trans (hb2.mono (by have h1 := HB1.out.size; have := HS0.out; omega))))
          clear t0 t1 t2 f0 f1 f2 hb2
          have t0 : w2.cell? ⟨w.heap.size, 0, none⟩ = some (.int .i64 0) := by rw [cell_of_row w2 _ 0 _ _ (0, 0) hk2]; rfl
          have t1 : w2.cell? ⟨w.heap.size, 1, none⟩ = some (.int .i64 0) := by rw [cell_of_row w2 _ 1 _ _ (0, 0) hk2]; rfl
          have t2 : w2.cell? ⟨w.heap.size, 2, none⟩ = some (.slice none 0 0) := by rw [cell_of_row w2 _ 2 _ _ (0, 0) hk2]; rfl
          have f0 : w2.frozen? ⟨w.heap.size, 0, none⟩ = false := frozen_of_row w2 _ 0 _ _ hk2
          have f1 : w2.frozen? ⟨w.heap.size, 1, none⟩ = false := frozen_of_row w2 _ 1 _ _ hk2
          have f2 : w2.frozen? ⟨w.heap.size, 2, none⟩ = false := frozen_of_row w2 _ 2 _ _ hk2
          have hs2 : w.heap.size < w2.heap.size := (Array.getElem?_eq_some_iff.1 hk2).1
          have HK2 := Lib.hid hk2
          clear hk2
          go_wp2_with fail
          refine (KK.out _ ((Below.refl _ w2).alloc (Nat.le_refl _) _)).mono ?_
          rintro e w3 ⟨rfl, hb3⟩
          have hk3 : w3.heap[w.heap.size]? = some (.cells #[.int .i64 0, .int .i64 0, .slice none 0 0] 54 (0, 0)) := by
            have e1 := (Below.heap_alloc w2 (.cells #[.int .i64 X, .int .i64 Y, .slice a2 n2 c2] 54) w.heap.size hs2).trans HK2.out
            exact (hb3.block w.heap.size (Array.getElem?_eq_some_iff.1 e1).1).trans e1
          have hm3 : w3.heap[w2.heap.size]? = some (.cells #[.int .i64 X, .int .i64 Y, .slice a2 n2 c2] 54 (0, 0)) := (hb3.block _ (by simp)).trans (heap_alloc_new w2 _)
          have HB3 := Lib.hid ((HB2.out.alloc (by omega) _).trans (hb3.mono (by simp; omega)))
          have HB23 : Hid (Below w2.heap.size w2 w3) := Lib.hid (((Below.refl _ w2).alloc (Nat.le_refl _) _).trans (hb3.mono (by simp)))
          clear t0 t1 t2 f0 f1 f2 hb3
          have t0 : w3.cell? ⟨w.heap.size, 0, none⟩ = some (.int .i64 0) := by rw [cell_of_row w3 _ 0 _ _ (0, 0) hk3]; rfl
          have t1 : w3.cell? ⟨w.heap.size, 1, none⟩ = some (.int .i64 0) := by rw [cell_of_row w3 _ 1 _ _ (0, 0) hk3]; rfl
          have t2 : w3.cell? ⟨w.heap.size, 2, none⟩ = some (.slice none 0 0) := by rw [cell_of_row w3 _ 2 _ _ (0, 0) hk3]; rfl
          have f0 : w3.frozen? ⟨w.heap.size, 0, none⟩ = false := frozen_of_row w3 _ 0 _ _ hk3
          have f1 : w3.frozen? ⟨w.heap.size, 1, none⟩ = false := frozen_of_row w3 _ 1 _ _ hk3
          have f2 : w3.frozen? ⟨w.heap.size, 2, none⟩ = false := frozen_of_row w3 _ 2 _ _ hk3
          have r0 : w3.cell? ⟨w2.heap.size, 0, none⟩ = some (.int .i64 X) := by rw [cell_of_row w3 _ 0 _ _ (0, 0) hm3]; rfl
          have r1 : w3.cell? ⟨w2.heap.size, 1, none⟩ = some (.int .i64 Y) := by rw [cell_of_row w3 _ 1 _ _ (0, 0) hm3]; rfl
          have r2 : w3.cell? ⟨w2.heap.size, 2, none⟩ = some (.slice a2 n2 c2) := by rw [cell_of_row w3 _ 2 _ _ (0, 0) hm3]; rfl
          have HK3 := Lib.hid hk3
          clear hk3 hm3
          go_wp2
          have rF := blk_set3 HK3.out (.int .i64 0) (.int .i64 0) (.slice none 0 0)
          have bF := ((HB3.out.setCell (p := ⟨w.heap.size, 0, none⟩) (Nat.le_refl _) (.int .i64 0)).setCell (p := ⟨w.heap.size, 1, none⟩) (Nat.le_refl _) (.int .i64 0)).setCell (p := ⟨w.heap.size, 2, none⟩) (Nat.le_refl _) (.slice none 0 0)
          obtain ⟨WF, hWF⟩ : ∃ WF, ((w3.setCell ⟨w.heap.size, 0, none⟩ (.int .i64 0)).setCell ⟨w.heap.size, 1, none⟩ (.int .i64 0)).setCell ⟨w.heap.size, 2, none⟩ (.slice none 0 0) = WF := ⟨_, rfl⟩
          rw [hWF] at rF bF ⊢
          exact bodyPost_ret (v := .tuple #[.agg #[.int .i64 0, .int .i64 0, .slice none 0 0], .int .i64 m]) (results_row_tmp Tryz.results190 _ _ w.heap.size 54 _ (0, 0) _ rfl rF Tryz.underlying54 rfl (by kernel_rfl)) rfl (asm_bad HE.out H0.out bF)
        · have HE := Lib.hid he
          have H0 := Lib.hid h0
          have ev : (q == 0) = false := by simp [h0]
          have ev2 : (q != 0) = true := by simp [h0]
          clear h0 he
          go_wp2_with fail
          refine KC.out.mono ?_
          rintro e w1 ⟨a1, n1, c1, rfl, hk1, hb1⟩
          have KM := Lib.hid (hk1 w1 (Below.refl _ _))
          have HB1 := Lib.hid hb1
          clear hk1 hb1
          go_wp2_with fail
          refine KM.out.mono ?_
          rintro e w2 ⟨X, Y, a2, n2, c2, rfl, -, hb2⟩
          rw [HQ.out]
          have hk2 : w2.heap[w.heap.size]? = some (.cells #[.int .i64 0, .int .i64 0, .slice none 0 0] 54 (0, 0)) := by
            have l0 := (Array.getElem?_eq_some_iff.1 HK0.out).1
            have e1 := (HB1.out.block w.heap.size l0).trans HK0.out
            exact (hb2.block w.heap.size (Array.getElem?_eq_some_iff.1 e1).1).trans e1
          have HB2 := Lib.hid (HB0.out.trans ((HB1.out.mono (by have := HS0.out; omega)).trans (hb2.mono (by have h1 := HB1.out.size; have := HS0.out; omega))))
          clear t0 t1 t2 f0 f1 f2 hb2
          have t0 : w2.cell? ⟨w.heap.size, 0, none⟩ = some (.int .i64 0) := by rw [cell_of_row w2 _ 0 _ _ (0, 0) hk2]; rfl
          have t1 : w2.cell? ⟨w.heap.size, 1, none⟩ = some (.int .i64 0) := by rw [cell_of_row w2 _ 1 _ _ (0, 0) hk2]; rfl
          have t2 : w2.cell? ⟨w.heap.size, 2, none⟩ = some (.slice none 0 0) := by rw [cell_of_row w2 _ 2 _ _ (0, 0) hk2]; rfl
          have f0 : w2.frozen? ⟨w.heap.size, 0, none⟩ = false := frozen_of_row w2 _ 0 _ _ hk2
          have f1 : w2.frozen? ⟨w.heap.size, 1, none⟩ = false := frozen_of_row w2 _ 1 _ _ hk2
          have f2 : w2.frozen? ⟨w.heap.size, 2, none⟩ = false := frozen_of_row w2 _ 2 _ _ hk2
          have hs2 : w.heap.size < w2.heap.size := (Array.getElem?_eq_some_iff.1 hk2).1
          have HK2 := Lib.hid hk2
          clear hk2
          go_wp2
          obtain ⟨rF, bF⟩ := asm_end (x' := .int .i64 0) (y' := .int .i64 0) (z' := .slice none 0 0) HK2.out HB2.out (.cells #[.int .i64 X, .int .i64 Y, .slice a2 n2 c2] 54)
          obtain ⟨WF, hWF⟩ : ∃ WF, ((((w2.setCell ⟨w.heap.size, 0, none⟩ (.int .i64 0)).setCell ⟨w.heap.size, 1, none⟩ (.int .i64 0)).setCell ⟨w.heap.size, 2, none⟩ (.slice none 0 0)).alloc (.cells #[.int .i64 X, .int .i64 Y, .slice a2 n2 c2] 54)) = WF := ⟨_, rfl⟩
          rw [hWF] at rF bF ⊢
          exact bodyPost_ret (v := .tuple #[.agg #[.int .i64 0, .int .i64 0, .slice none 0 0], .int .i64 q]) (results_row_tmp Tryz.results190 _ _ w.heap.size 54 _ (0, 0) _ rfl rF Tryz.underlying54 rfl (by kernel_rfl)) rfl (asm_bad HE.out H0.out bF)
  · have he : asmErr W H rs = 2 := by unfold asmErr; rw [if_neg (fun h => hnb (by rw [← hrl]; exact h.1))]
    have HE := Lib.hid he
    have e1 : ((n : Int) != H) = true := by simp [hnb]
    clear hnb he hrl hrow hcell
    go_enter Tryz.func190, Tryz.ntmps190
    go_wp2
    refine bodyPost_ret (v := .tuple #[.agg #[.int .i64 0, .int .i64 0, .slice none 0 0], .int .i64 2]) (by simp [results, Tryz.results190, go_sem]) rfl (asm_bad HE.out (by decide) ?_)
    exact (Below.refl _ w).alloc (Nat.le_refl _) _
end Go.Proofs.YtfdkmmllemkogaaGreatDoor

/-
  Texts: what a text of a map is: the first bad line, or the rows; plain facts on its lines and words.
-/

namespace Go.Proofs.YtfdkmmllemkogaaGreatDoor
open Go.RowKit
set_option linter.unusedVariables false
set_option linter.unusedSimpArgs false

/-- The rows of a text: the integers of all lines but the first one. -/
noncomputable def rowsR (L : List ByteArray) : List (List Int) := (L.drop 1).map (fun x => intsV (tailL x))
/-- The first two integers of the first line. -/
noncomputable def widR (L : List ByteArray) : Int := ((L[0]?.map (fun x => (intsV (tailL x))[0]?.getD 0)).getD 0)
noncomputable def heiR (L : List ByteArray) : Int := ((L[0]?.map (fun x => (intsV (tailL x))[1]?.getD 0)).getD 0)
/-- All lines before one have their form. -/
def okTo (L : List ByteArray) (k : Nat) : Prop := ∀ (j : Nat) (x : ByteArray), j < k → L[j]? = some x → okL j x = true
/-- What a text's result is: the index, the error, the size and the integers. -/
def ParseR (L : List ByteArray) (idx err W H : Int) (ls : List Int) : Prop :=
  (∃ (k : Nat) (x : ByteArray), L[k]? = some x ∧ okTo L k ∧ okL k x = false ∧ idx = k ∧ err = 25) ∨
  (L.length = 0 ∧ idx = 0 ∧ err = 25) ∨
  (0 < L.length ∧ okTo L L.length ∧ W = widR L ∧ H = heiR L ∧ ls = (rowsR L).flatten ∧ err = asmErr (widR L) (heiR L) (rowsR L) ∧ idx = if asmErr (widR L) (heiR L) (rowsR L) = 0 then 0 else (L.length : Int))
theorem parseR_fun {L : List ByteArray} {i e W H i' e' W' H' : Int} {ls ls' : List Int} (h : ParseR L i e W H ls) (h' : ParseR L i' e' W' H' ls') : i = i' ∧ e = e' ∧ (e = 0 → W = W' ∧ H = H' ∧ ls = ls') := by
  rcases h with ⟨k, x, h1, h2, h3, rfl, rfl⟩ | ⟨h1, rfl, rfl⟩ | ⟨h1, h2, rfl, rfl, rfl, rfl, rfl⟩
  · rcases h' with ⟨k', x', h1', h2', h3', rfl, rfl⟩ | ⟨h1', rfl, rfl⟩ | ⟨h1', h2', rfl, rfl, rfl, rfl, rfl⟩
    · have : k = k' := by
        rcases Nat.lt_trichotomy k k' with hl | he | hl
        · have := h2' k x hl h1; rw [h3] at this; cases this
        · exact he
        · have := h2 k' x' hl h1'; rw [h3'] at this; cases this
      subst this
      exact ⟨rfl, rfl, fun h => by cases h⟩
    · have := (List.getElem?_eq_some_iff.1 h1).1; omega
    · have := h2' k x (List.getElem?_eq_some_iff.1 h1).1 h1; rw [h3] at this; cases this
  · rcases h' with ⟨k', x', h1', h2', h3', rfl, rfl⟩ | ⟨h1', rfl, rfl⟩ | ⟨h1', h2', rfl, rfl, rfl, rfl, rfl⟩
    · have := (List.getElem?_eq_some_iff.1 h1').1; omega
    · exact ⟨rfl, rfl, fun h => by cases h⟩
    · omega
  · rcases h' with ⟨k', x', h1', h2', h3', rfl, rfl⟩ | ⟨h1', rfl, rfl⟩ | ⟨h1', h2', rfl, rfl, rfl, rfl, rfl⟩
    · have := h2 k' x' (List.getElem?_eq_some_iff.1 h1').1 h1'; rw [h3'] at this; cases this
    · omega
    · exact ⟨rfl, rfl, fun _ => ⟨rfl, rfl, rfl⟩⟩

/-- The bytes of pieces. -/
def sumL (L : List (List UInt8)) : Nat := (L.map List.length).sum
theorem pieces_sum (c : UInt8) : ∀ l, sumL (pieces c l) + (pieces c l).length = l.length + 1
  | [] => rfl
  | b :: r => by
    have ih := pieces_sum c r
    obtain ⟨P, q, hP⟩ := pieces_ex c r
    show sumL (if b = c then [] :: pieces c r else match pieces c r with | [] => [[b]] | p :: ps => (b :: p) :: ps) + _ = _
    by_cases e : b = c
    · rw [if_pos e]
      have e2 : pieces c (b :: r) = [] :: pieces c r := by show (if b = c then _ else _) = _; rw [if_pos e]
      rw [e2]
      unfold sumL at ih ⊢
      simp only [List.map_cons, List.sum_cons, List.length_nil, List.length_cons]
      omega
    · rw [if_neg e]
      have e2 : pieces c (b :: r) = match pieces c r with | [] => [[b]] | p :: ps => (b :: p) :: ps := by show (if b = c then _ else _) = _; rw [if_neg e]; rfl
      rw [e2]
      cases hpc : pieces c r with
      | nil => rw [hpc] at hP; simp at hP
      | cons p ps =>
        rw [hpc] at ih
        unfold sumL at ih ⊢
        simp only [List.map_cons, List.sum_cons, List.length_cons] at ih ⊢
        omega
theorem tailL_le (x : ByteArray) : (tailL x).length ≤ x.size := by
  have h1 := trim_le x
  rw [strB_size] at h1
  have h2 := pieces_sum 32 (bodyL x)
  rw [pieces_cut] at h2
  unfold tailL headL wordsL
  by_cases hm : (Lib.cut (bodyL x) [32]).2.2 = true
  · rw [if_pos hm] at h2 ⊢
    rw [listB_strB]
    simp only [List.length_cons] at h2
    omega
  · rw [if_neg hm]; simp
theorem lines_sum (s : ByteArray) : ((linesL s).map ByteArray.size).sum ≤ s.size := by
  have h := pieces_sum 10 (listB s)
  rw [head_last, listB_len] at h
  have e : ∀ P : List (List UInt8), ((P.map (fun p => strB (p ++ [10]))).map ByteArray.size).sum = sumL P + P.length := by
    intro P
    induction P with
    | nil => rfl
    | cons p P ih =>
      unfold sumL at ih ⊢
      simp only [List.map_cons, List.sum_cons, List.length_cons, ih, strB_size, List.length_append, List.length_nil]
      omega
  have h2 : sumL (headP s ++ [lastP s]) = sumL (headP s) + (lastP s).length := by unfold sumL; simp
  rw [h2, List.length_append] at h
  have h3 := e (headP s)
  unfold linesL
  split
  · rw [h3]; simp at h; omega
  · unfold allL
    rw [List.map_append, List.sum_append, h3]
    simp [strB_size] at h ⊢; omega
theorem sum_le {α : Type} (f g : α → Nat) (h : ∀ x, f x ≤ g x) : ∀ L : List α, (L.map f).sum ≤ (L.map g).sum
  | [] => Nat.le_refl _
  | x :: r => by
    have := sum_le f g h r
    have := h x
    simp only [List.map_cons, List.sum_cons]; omega
theorem rows_le (s : ByteArray) : (rowsR (linesL s)).flatten.length ≤ s.size := by
  unfold rowsR
  rw [List.length_flatten, List.map_map]
  have h1 := sum_le (List.length ∘ fun x => intsV (tailL x)) ByteArray.size (fun x => by show (intsV (tailL x)).length ≤ _; unfold intsV; rw [List.length_map]; exact tailL_le x) ((linesL s).drop 1)
  have h2 := lines_sum s
  have h3 : (((linesL s).drop 1).map ByteArray.size).sum ≤ ((linesL s).map ByteArray.size).sum := by
    cases linesL s with
    | nil => exact Nat.le_refl _
    | cons x r => simp
  omega
end Go.Proofs.YtfdkmmllemkogaaGreatDoor

/-
  Texts: the lines of both sides are the same, and have the same form.
-/

namespace Go.Proofs.YtfdkmmllemkogaaGreatDoor
open Go.RowKit
set_option linter.unusedVariables false
set_option linter.unusedSimpArgs false

/-- A line of the reference, as the program has it. -/
def lineOf (x : ByteArray) : ByteArray := strB (listB x ++ [10])
theorem has_end (l : List UInt8) : Lib.hasSuffix (l ++ [10]) [10] = true := by
  unfold Lib.hasSuffix
  rw [List.isSuffixOf_iff_suffix]
  exact ⟨l, rfl⟩
theorem body_end (x : ByteArray) : bodyL (lineOf x) = listB x := by
  unfold bodyL lineOf
  rw [listB_strB]
  unfold Lib.trimSuffix
  rw [if_pos (has_end _)]
  simp
theorem words_line (x : ByteArray) : splitL x 32 = strB (headL (lineOf x)).1 :: (tailL (lineOf x)).map strB := by
  apply map_listB_inj
  have h := splitL_pieces x 32
  have h3 : ((32 : UInt8).toNat : Int) = 32 := rfl
  rw [h3] at h
  rw [h, pieces_cut]
  unfold tailL headL wordsL
  rw [body_end]
  cases hm : (Lib.cut (listB x) [32]).2.2
  · simp [listB_strB]
  · simp only [if_true, List.map_cons, listB_strB]
    rw [List.map_map]
    congr 1
    have : (listB ∘ strB) = id := by funext l; rfl
    rw [this, List.map_id]
/-- No piece holds what parts the pieces. -/
theorem pieces_no (c : UInt8) : ∀ (l : List UInt8) (p : List UInt8), p ∈ pieces c l → c ∉ p
  | [], p, h => by
    have : p = [] := by simpa [pieces] using h
    subst this; simp
  | b :: r, p, h => by
    have ih := pieces_no c r
    by_cases e : b = c
    · have e2 : pieces c (b :: r) = [] :: pieces c r := by show (if b = c then _ else _) = _; rw [if_pos e]
      rw [e2] at h
      rcases List.mem_cons.1 h with h | h
      · subst h; simp
      · exact ih p h
    · have e2 : pieces c (b :: r) = match pieces c r with | [] => [[b]] | p :: ps => (b :: p) :: ps := by show (if b = c then _ else _) = _; rw [if_neg e]; rfl
      rw [e2] at h
      cases hpc : pieces c r with
      | nil =>
        rw [hpc] at h
        have : p = [b] := by simpa using h
        subst this; simp; exact fun h => e h.symm
      | cons q qs =>
        rw [hpc] at h ih
        rcases List.mem_cons.1 h with h | h
        · subst h
          have := ih q (List.mem_cons.2 (.inl rfl))
          simp only [List.mem_cons, not_or]
          exact ⟨fun h => e h.symm, this⟩
        · exact ih p (List.mem_cons.2 (.inr h))
theorem last_bad (j : Nat) (s : ByteArray) : okL j (strB (lastP s)) = false := by
  have hn : (10 : UInt8) ∉ lastP s := pieces_no 10 (listB s) _ (by rw [head_last]; simp)
  have hs : Lib.hasSuffix (lastP s) [10] = false := by
    cases h : Lib.hasSuffix (lastP s) [10]
    · rfl
    · exfalso
      unfold Lib.hasSuffix at h
      rw [List.isSuffixOf_iff_suffix] at h
      obtain ⟨t, ht⟩ := h
      exact hn (by rw [← ht]; simp)
  unfold okL lineOk
  rw [listB_strB, hs]; rfl

/-- The reference's lines. -/
noncomputable def refL (s : ByteArray) : List ByteArray := splitL s 10
theorem refL_eq (s : ByteArray) : refL s = (headP s).map strB ++ [strB (lastP s)] := by
  apply map_listB_inj
  have h := splitL_pieces s 10
  have h3 : ((10 : UInt8).toNat : Int) = 10 := rfl
  rw [h3] at h
  unfold refL
  rw [h, head_last, List.map_append, List.map_map]
  have : (listB ∘ strB) = id := by funext l; rfl
  rw [this, List.map_id]; rfl
theorem refL_len (s : ByteArray) : (refL s).length = (headP s).length + 1 := by rw [refL_eq]; simp
theorem linesL_more {s : ByteArray} (h : lastP s ≠ []) : (linesL s)[(headP s).length]? = some (strB (lastP s)) := by
  unfold linesL; rw [if_neg h]; unfold allL
  rw [List.getElem?_append_right (by rw [List.length_map]; exact Nat.le_refl _), List.length_map, Nat.sub_self]; rfl
end Go.Proofs.YtfdkmmllemkogaaGreatDoor

/-
  Texts: a word that is read as an integer is that integer's numeral, and a numeral is read as its integer.
-/
namespace Go.Proofs.YtfdkmmllemkogaaGreatDoor
open Go.RowKit
set_option linter.unusedVariables false
set_option linter.unusedSimpArgs false

theorem dec_big {u : Nat} (h : ¬ u < 10) : Lib.decDigits u = Lib.decDigits (u / 10) ++ [UInt8.ofNat (48 + u % 10)] := by rw [Lib.decDigits, dif_neg h]
theorem dec_dgt (u : Nat) : ∀ c ∈ Lib.decDigits u, 48 ≤ c.toNat ∧ c.toNat ≤ 57 := by
  induction u using Nat.strongRecOn with
  | _ u ih =>
    intro c hc
    by_cases h : u < 10
    · rw [Lib.decDigits_one h] at hc
      rw [List.mem_singleton] at hc; subst hc
      rw [UInt8.toNat_ofNat']; omega
    · rw [dec_big h] at hc
      rcases List.mem_append.1 hc with hc | hc
      · exact ih (u / 10) (by omega) c hc
      · rw [List.mem_singleton] at hc; subst hc
        rw [UInt8.toNat_ofNat']; omega
theorem nd_le : ∀ (k u : Nat), u < 10 ^ (k + 1) → Lib.nDigits u ≤ k + 1
  | 0, u, h => by rw [Lib.nDigits_small (by simpa using h)]; omega
  | k + 1, u, h => by
    by_cases hu : u < 10
    · rw [Lib.nDigits_small hu]; omega
    · rw [Lib.nDigits_big hu]
      rw [Nat.pow_succ] at h
      have := nd_le k (u / 10) (by omega)
      omega
theorem byteI_get {s : ByteArray} {k : Nat} {b : UInt8} (h : (listB s)[k]? = some b) : k < s.size ∧ byteI s k = (b.toNat : Int) := by
  have hk : k < s.size := by rw [← listB_len]; exact (List.getElem?_eq_some_iff.1 h).1
  obtain ⟨b', h1, h2⟩ := byteI_list hk
  rw [h] at h1
  cases h1
  exact ⟨hk, h2⟩
theorem take_next {l : List UInt8} {k : Nat} {b : UInt8} (h : l[k]? = some b) : l.take (k + 1) = l.take k ++ [b] := by rw [List.take_add_one, h]; rfl

/-- Digits without a leading zero are the numeral of what they are. -/
theorem digits_dec {s : ByteArray} : ∀ (k : Nat), k + 1 ≤ s.size → digTo s (k + 1) → (byteI s 0 = 48 → k = 0) →
    (listB s).take (k + 1) = Lib.decDigits (digV s (k + 1)).toNat ∧ (byteI s 0 ≠ 48 → 1 ≤ digV s (k + 1)) := by
  intro k
  induction k with
  | zero =>
    intro hk hd _
    obtain ⟨b, h1, h2⟩ := byteI_list (s := s) (k := 0) (by omega)
    have h3 := hd 0 (by omega)
    unfold dgt at h3
    rw [h2] at h3
    have hv : digV s (0 + 1) = (b.toNat : Int) - 48 := by show 10 * (0 : Int) + (byteI s 0 - 48) = _; rw [h2]; omega
    rw [hv, take_next h1, List.take_zero, List.nil_append, Lib.decDigits_one (by omega)]
    refine ⟨?_, fun h => by rw [h2] at h; omega⟩
    have : 48 + ((b.toNat : Int) - 48).toNat = b.toNat := by omega
    rw [this, UInt8.ofNat_toNat]
  | succ k ih =>
    intro hk hd hz
    have h0 : byteI s 0 ≠ 48 := fun h => by have := hz h; omega
    obtain ⟨i1, i2⟩ := ih (by omega) (fun i hi => hd i (by omega)) (fun h => absurd h h0)
    obtain ⟨b, h1, h2⟩ := byteI_list (s := s) (k := k + 1) (by omega)
    have h3 := hd (k + 1) (by omega)
    unfold dgt at h3
    rw [h2] at h3
    have i3 := i2 h0
    have hv : digV s (k + 1 + 1) = 10 * digV s (k + 1) + ((b.toNat : Int) - 48) := by show 10 * digV s (k + 1) + (byteI s (k + 1) - 48) = _; rw [h2]
    generalize digV s (k + 1) = v at hv i1 i3
    rw [hv, take_next h1, i1, dec_big (u := (10 * v + ((b.toNat : Int) - 48)).toNat) (by omega)]
    refine ⟨?_, fun _ => by omega⟩
    have e1 : (10 * v + ((b.toNat : Int) - 48)).toNat / 10 = v.toNat := by omega
    have e2 : 48 + (10 * v + ((b.toNat : Int) - 48)).toNat % 10 = b.toNat := by omega
    rw [e1, e2, UInt8.ofNat_toNat]
theorem nat_dec {s : ByteArray} (h : natP s) : listB s = Lib.decDigits (natV s).toNat := by
  have h1 := digits_dec (s := s) (s.size - 1) (by have := h.1; omega) (by rw [Nat.sub_add_cancel h.1]; exact h.2.2.2) (fun h0 => by have := h.2.2.1 h0; omega)
  rw [Nat.sub_add_cancel h.1] at h1
  have h2 : (listB s).take s.size = listB s := by rw [← listB_len]; exact List.take_length
  rw [h2] at h1
  unfold natV; rw [if_pos h]; exact h1.1
/-- A numeral's digits are its number. -/
theorem dec_digits {s : ByteArray} (u : Nat) : ∀ k, k ≤ s.size → (listB s).take k = Lib.decDigits u → digTo s k ∧ digV s k = (u : Int) ∧ (byteI s 0 = 48 → u = 0) := by
  induction u using Nat.strongRecOn with
  | _ u ih =>
    intro k hk he
    have hl := congrArg List.length he
    rw [List.length_take, listB_len, Nat.min_eq_left hk, Lib.decDigits_length] at hl
    by_cases h : u < 10
    · rw [Lib.nDigits_small h] at hl
      subst hl
      rw [Lib.decDigits_one h] at he
      have hb : (listB s)[0]? = some (UInt8.ofNat (48 + u)) := by
        have := congrArg (fun l => l[0]?) he
        simpa using this
      obtain ⟨-, h2⟩ := byteI_get hb
      rw [UInt8.toNat_ofNat'] at h2
      have h3 : byteI s 0 = 48 + (u : Int) := by rw [h2]; omega
      refine ⟨fun i hi => ?_, ?_, fun h0 => by omega⟩
      · obtain rfl : i = 0 := by omega
        unfold dgt; omega
      · show 10 * (0 : Int) + (byteI s 0 - 48) = _; omega
    · rw [Lib.nDigits_big h] at hl
      obtain ⟨m, rfl⟩ : ∃ m, k = m + 1 := ⟨k - 1, by have := Lib.nDigits_pos (u / 10); omega⟩
      obtain ⟨b, h1, h2⟩ := byteI_list (s := s) (k := m) (by omega)
      rw [take_next h1, dec_big h] at he
      obtain ⟨e1, e2⟩ := snoc_inj he
      obtain ⟨i1, i2, i3⟩ := ih (u / 10) (by omega) m (by omega) e1
      have h3 : byteI s m = 48 + ((u % 10 : Nat) : Int) := by rw [h2, e2, UInt8.toNat_ofNat']; omega
      refine ⟨fun i hi => ?_, ?_, fun h0 => by have := i3 h0; omega⟩
      · by_cases him : i = m
        · subst him; unfold dgt; omega
        · exact i1 i (by omega)
      · show 10 * digV s m + (byteI s m - 48) = _
        rw [i2, h3]; omega
theorem dec_nat {s : ByteArray} {u : Nat} (hu : u < 1000000000) (h : listB s = Lib.decDigits u) : natP s ∧ natV s = (u : Int) := by
  have hl := congrArg List.length h
  rw [listB_len, Lib.decDigits_length] at hl
  have h1 := Lib.nDigits_pos u
  have h2 := nd_le 8 u (by simpa using hu)
  obtain ⟨a, b, c⟩ := dec_digits (s := s) u s.size (Nat.le_refl _) (by rw [← listB_len, List.take_length]; exact h)
  have hp : natP s := ⟨by omega, by omega, fun h0 => by
    have := c h0; subst this
    rw [hl]; exact Lib.nDigits_small (by decide), a⟩
  exact ⟨hp, by unfold natV; rw [if_pos hp]; exact b⟩
theorem natB_iff {s : ByteArray} : natB s = true ↔ natP s := by unfold natB; simp
theorem listB_rest {s : ByteArray} : listB (restB s) = (listB s).drop 1 := by
  unfold restB
  rw [listB_extract, ← listB_len, List.take_length]
theorem minus_list {s : ByteArray} (h : minusP s) : listB s = 45 :: listB (restB s) := by
  obtain ⟨b, h1, h2⟩ := byteI_list (s := s) (k := 0) (by have := h.1; omega)
  have hb : b = 45 := by
    have h3 := h.2
    rw [h2] at h3
    exact UInt8.toNat_inj.1 (by have : (45 : UInt8).toNat = 45 := rfl; omega)
  subst hb
  rw [listB_rest]
  cases hl : listB s with
  | nil => rw [hl] at h1; cases h1
  | cons x l => rw [hl] at h1; simp at h1; subst h1; rfl
/-- A word that is read as an integer is its numeral. -/
theorem int_dec {s : ByteArray} (h : intB s = true) : listB s = Lib.itoa (intV s) := by
  unfold intB at h
  unfold intV
  by_cases hm : minusP s
  · rw [if_pos hm] at h ⊢
    simp only [Bool.and_eq_true, Bool.not_eq_true', beq_eq_false_iff_ne, ne_eq] at h
    have h1 := natB_iff.1 h.1
    have h2 := natV_small (restB s)
    rw [minus_list hm, nat_dec h1]
    unfold Lib.itoa
    rw [if_pos (by omega)]
    congr 2; omega
  · rw [if_neg hm] at h ⊢
    have h1 := natB_iff.1 h
    have h2 := natV_small s
    rw [nat_dec h1]
    unfold Lib.itoa
    rw [if_neg (by omega)]
/-- A numeral is read as its integer. -/
theorem dec_int {s : ByteArray} {k : Int} (hk : k.natAbs < 1000000000) (h : listB s = Lib.itoa k) : intB s = true ∧ intV s = k := by
  unfold Lib.itoa at h
  by_cases h0 : k < 0
  · rw [if_pos h0] at h
    have hs : s.size = (Lib.decDigits k.natAbs).length + 1 := by rw [← listB_len, h]; rfl
    have hm : minusP s := by
      refine ⟨by omega, ?_⟩
      obtain ⟨-, h2⟩ := byteI_get (s := s) (k := 0) (b := 45) (by rw [h]; rfl)
      rw [h2]; rfl
    have hr : listB (restB s) = Lib.decDigits k.natAbs := by rw [listB_rest, h]; rfl
    obtain ⟨h1, h2⟩ := dec_nat hk hr
    have h3 : natV (restB s) ≠ 0 := by rw [h2]; omega
    unfold intB intV
    rw [if_pos hm, if_pos hm, natB_iff.2 h1]
    exact ⟨by simp [h3], by rw [h2]; omega⟩
  · rw [if_neg h0] at h
    obtain ⟨h1, h2⟩ := dec_nat (by omega) h
    have hm : ¬ minusP s := fun hm => by
      have h3 := h1.2.2.2 0 (by have := h1.1; omega)
      unfold dgt at h3
      have := hm.2; omega
    unfold intB intV
    rw [if_neg hm, if_neg hm]
    exact ⟨natB_iff.2 h1, by rw [h2]; omega⟩
theorem itoa_bytes (k : Int) : ∀ c ∈ Lib.itoa k, c = 45 ∨ 48 ≤ c.toNat := by
  intro c hc
  unfold Lib.itoa at hc
  by_cases h : k < 0
  · rw [if_pos h] at hc
    rcases List.mem_cons.1 hc with h | h
    · exact .inl h
    · exact .inr (dec_dgt _ c h).1
  · rw [if_neg h] at hc
    exact .inr (dec_dgt _ c hc).1
theorem itoa_no32 (k : Int) : (32 : UInt8) ∉ Lib.itoa k := fun h => by
  rcases itoa_bytes k _ h with h | h
  · cases h
  · have : (32 : UInt8).toNat = 32 := rfl
    omega
theorem itoa_no10 (k : Int) : (10 : UInt8) ∉ Lib.itoa k := fun h => by
  rcases itoa_bytes k _ h with h | h
  · cases h
  · have : (10 : UInt8).toNat = 10 := rfl
    omega
end Go.Proofs.YtfdkmmllemkogaaGreatDoor

/-
  Texts: a line that has its form is the line of its integers, and the line of integers is read as them.
-/

namespace Go.Proofs.YtfdkmmllemkogaaGreatDoor
open Go.RowKit
set_option linter.unusedVariables false
set_option linter.unusedSimpArgs false

theorem pieces_app (c : UInt8) (l : List UInt8) : ∀ x : List UInt8, c ∉ x → pieces c (x ++ c :: l) = x :: pieces c l
  | [], _ => by show (if c = c then _ else _) = _; rw [if_pos rfl]
  | b :: x, h => by
    have hb : b ≠ c := fun e => h (by rw [e]; exact List.mem_cons.2 (.inl rfl))
    have ih := pieces_app c l x (fun h' => h (List.mem_cons.2 (.inr h')))
    show (if b = c then _ else match pieces c (x ++ c :: l) with | [] => [[b]] | p :: ps => (b :: p) :: ps) = _
    rw [if_neg hb, ih]
theorem pieces_own (c : UInt8) : ∀ x : List UInt8, c ∉ x → pieces c x = [x]
  | [], _ => rfl
  | b :: x, h => by
    have hb : b ≠ c := fun e => h (by rw [e]; exact List.mem_cons.2 (.inl rfl))
    have ih := pieces_own c x (fun h' => h (List.mem_cons.2 (.inr h')))
    show (if b = c then _ else match pieces c x with | [] => [[b]] | p :: ps => (b :: p) :: ps) = _
    rw [if_neg hb, ih]
theorem pieces_join (c : UInt8) : ∀ (x : List UInt8) (r : List (List UInt8)), c ∉ x → (∀ y ∈ r, c ∉ y) → pieces c (Lib.join (x :: r) [c]) = x :: r
  | x, [], h, _ => by rw [Lib.join_one]; exact pieces_own c x h
  | x, y :: r, h, hr => by
    have ih := pieces_join c y r (hr y (List.mem_cons.2 (.inl rfl))) (fun z hz => hr z (List.mem_cons.2 (.inr hz)))
    have e : Lib.join (x :: y :: r) [c] = x ++ c :: Lib.join (y :: r) [c] := by
      rw [Lib.join_cons, Lib.join_cons]
      simp [Lib.joinTail]
    rw [e, pieces_app c _ x h, ih]
theorem join_pieces (c : UInt8) : ∀ l : List UInt8, Lib.join (pieces c l) [c] = l
  | [] => Lib.join_one _ _
  | b :: l => by
    have ih := join_pieces c l
    obtain ⟨P, q, hP⟩ := pieces_ex c l
    obtain ⟨p, ps, hp⟩ : ∃ p ps, pieces c l = p :: ps := by
      cases h : pieces c l with
      | nil => rw [h] at hP; simp at hP
      | cons p ps => exact ⟨p, ps, rfl⟩
    rw [hp, Lib.join_cons] at ih
    have e : pieces c (b :: l) = if b = c then [] :: pieces c l else match pieces c l with | [] => [[b]] | p :: ps => (b :: p) :: ps := rfl
    rw [e, hp]
    by_cases hb : b = c
    · subst hb
      rw [if_pos rfl, Lib.join_cons]
      have : Lib.joinTail [b] (p :: ps) = b :: (p ++ Lib.joinTail [b] ps) := by simp [Lib.joinTail]
      rw [this, ih]; rfl
    · rw [if_neg hb]
      show Lib.join ((b :: p) :: ps) [c] = _
      rw [Lib.join_cons, List.cons_append, ih]
/-- The words of a line, as the first one and the others. -/
theorem line_pieces (x : ByteArray) : pieces 32 (listB x) = (headL (lineOf x)).1 :: tailL (lineOf x) := by
  have h := splitL_pieces x 32
  have h3 : ((32 : UInt8).toNat : Int) = 32 := rfl
  rw [h3, words_line, List.map_cons, List.map_map] at h
  have : (listB ∘ strB) = id := by funext l; rfl
  rw [this, List.map_id] at h
  exact h.symm
theorem listB_lineOf (x : ByteArray) : listB (lineOf x) = listB x ++ [10] := rfl
theorem ints_itoa : ∀ L : List (List UInt8), intsB L = true → (intsV L).map Lib.itoa = L
  | [], _ => rfl
  | x :: r, h => by
    unfold intsB at h
    rw [List.all_cons, Bool.and_eq_true] at h
    have ih := ints_itoa r (by unfold intsB; exact h.2)
    unfold intsV at ih ⊢
    rw [List.map_cons, List.map_cons, ih, ← int_dec h.1]; rfl
theorem itoa_ints : ∀ ks : List Int, (∀ k ∈ ks, k.natAbs < 1000000000) → intsB (ks.map Lib.itoa) = true ∧ intsV (ks.map Lib.itoa) = ks
  | [], _ => ⟨rfl, rfl⟩
  | k :: r, h => by
    obtain ⟨i1, i2⟩ := itoa_ints r (fun k hk => h k (List.mem_cons.2 (.inr hk)))
    obtain ⟨e1, e2⟩ := dec_int (s := strB (Lib.itoa k)) (h k (List.mem_cons.2 (.inl rfl))) rfl
    unfold intsB at i1 ⊢
    unfold intsV at i2 ⊢
    rw [List.map_cons, List.all_cons, List.map_cons, i1, i2, e1, e2]
    exact ⟨rfl, rfl⟩
theorem kind_no32 (j : Nat) : (32 : UInt8) ∉ listB (kindW j) := by unfold kindW; split <;> decide
theorem kind_no10 (j : Nat) : (10 : UInt8) ∉ listB (kindW j) := by unfold kindW; split <;> decide
/-- A line without its end that has its form is the line of its integers. -/
theorem line_is {j : Nat} {x : ByteArray} (h : okL j (lineOf x) = true) : listB (lineOf x) = lineL (listB (kindW j)) (intsV (tailL (lineOf x))) ∧ fitsB j (intsV (tailL (lineOf x))).length = true := by
  unfold okL lineOk at h
  simp only [Bool.and_eq_true, decide_eq_true_eq] at h
  obtain ⟨⟨-, h1⟩, h2, h3⟩ := h
  refine ⟨?_, by unfold intsV; rw [List.length_map]; exact h3⟩
  unfold lineL
  rw [ints_itoa _ h2, ← h1, ← line_pieces, join_pieces, listB_lineOf]
/-- The words of integers' line. -/
theorem line_words (j : Nat) (ks : List Int) : ∃ x, strB (lineL (listB (kindW j)) ks) = lineOf x ∧ (headL (lineOf x)).1 = listB (kindW j) ∧ tailL (lineOf x) = ks.map Lib.itoa := by
  refine ⟨strB (Lib.join (listB (kindW j) :: ks.map Lib.itoa) [32]), rfl, ?_⟩
  have h := line_pieces (strB (Lib.join (listB (kindW j) :: ks.map Lib.itoa) [32]))
  have e := pieces_join 32 (listB (kindW j)) (ks.map Lib.itoa) (kind_no32 j) (fun y hy => by
    obtain ⟨k, -, rfl⟩ := List.mem_map.1 hy
    exact itoa_no32 k)
  rw [listB_strB, e] at h
  exact ⟨(List.cons.inj h).1.symm, (List.cons.inj h).2.symm⟩
/-- The line of integers is read as them. -/
theorem line_reads (j : Nat) (ks : List Int) (h : ∀ k ∈ ks, k.natAbs < 1000000000) (hf : fitsB j ks.length = true) :
    okL j (strB (lineL (listB (kindW j)) ks)) = true ∧ intsV (tailL (strB (lineL (listB (kindW j)) ks))) = ks := by
  obtain ⟨x, e, h1, h2⟩ := line_words j ks
  obtain ⟨i1, i2⟩ := itoa_ints ks h
  rw [e]
  refine ⟨?_, by rw [h2, i2]⟩
  unfold okL lineOk
  rw [h1, h2, i1, List.length_map, hf, listB_lineOf, has_end]
  simp
/-- The line of integers, without its end. -/
def bareL (wd : List UInt8) (ks : List Int) : List UInt8 := Lib.join (wd :: ks.map Lib.itoa) [32]
theorem joinTail_no (c d : UInt8) (hcd : c ≠ d) : ∀ r : List (List UInt8), (∀ y ∈ r, c ∉ y) → c ∉ Lib.joinTail [d] r
  | [], _ => by simp [Lib.joinTail]
  | y :: r, h => by
    have ih := joinTail_no c d hcd r (fun z hz => h z (List.mem_cons.2 (.inr hz)))
    have h1 := h y (List.mem_cons.2 (.inl rfl))
    have e : Lib.joinTail [d] (y :: r) = d :: (y ++ Lib.joinTail [d] r) := by simp [Lib.joinTail]
    rw [e]
    simp only [List.mem_cons, List.mem_append, not_or]
    exact ⟨hcd, h1, ih⟩
theorem bare_no10 (j : Nat) (ks : List Int) : (10 : UInt8) ∉ bareL (listB (kindW j)) ks := by
  unfold bareL
  rw [Lib.join_cons]
  simp only [List.mem_append, not_or]
  exact ⟨kind_no10 j, joinTail_no 10 32 (by decide) _ (fun y hy => by
    obtain ⟨k, -, rfl⟩ := List.mem_map.1 hy
    exact itoa_no10 k)⟩
/-- Lines with their ends, cut again. -/
theorem pieces_lines (c : UInt8) (q : List UInt8) (hq : c ∉ q) : ∀ P : List (List UInt8), (∀ p ∈ P, c ∉ p) → pieces c (P.flatMap (· ++ [c]) ++ q) = P ++ [q]
  | [], _ => by rw [List.flatMap_nil, List.nil_append]; exact pieces_own c q hq
  | p :: P, h => by
    have ih := pieces_lines c q hq P (fun z hz => h z (List.mem_cons.2 (.inr hz)))
    have e : (p :: P).flatMap (· ++ [c]) ++ q = p ++ c :: (P.flatMap (· ++ [c]) ++ q) := by simp [List.flatMap_cons]
    rw [e, pieces_app c _ p (h p (List.mem_cons.2 (.inl rfl))), ih]; rfl
theorem join_snoc (c : UInt8) (q : List UInt8) : ∀ P : List (List UInt8), Lib.join (P ++ [q]) [c] = P.flatMap (· ++ [c]) ++ q
  | [] => by rw [List.nil_append, Lib.join_one]; rfl
  | p :: P => by
    have ih := join_snoc c q P
    have e : Lib.join ((p :: P) ++ [q]) [c] = p ++ c :: Lib.join (P ++ [q]) [c] := by
      rw [List.cons_append, Lib.join_cons]
      cases P with
      | nil => simp [Lib.joinTail, Lib.join_one]
      | cons y P => rw [List.cons_append, Lib.join_cons]; simp [Lib.joinTail]
    rw [e, ih]; simp [List.flatMap_cons]
/-- A text is its lines with their ends, and what is behind them. -/
theorem text_lines (s : ByteArray) : listB s = (headP s).flatMap (· ++ [10]) ++ lastP s := by
  rw [← join_snoc, ← head_last, join_pieces]
theorem lines_text {s : ByteArray} {P : List (List UInt8)} {q : List UInt8} (h : listB s = P.flatMap (· ++ [10]) ++ q) (hP : ∀ p ∈ P, (10 : UInt8) ∉ p) (hq : (10 : UInt8) ∉ q) : headP s = P ∧ lastP s = q := by
  have h1 := pieces_lines 10 q hq P hP
  rw [← h, head_last] at h1
  exact snoc_inj h1
end Go.Proofs.YtfdkmmllemkogaaGreatDoor

/-
  Texts: the printed text of a right map is read as it; a text that is read without an error is the printed text of what it is read as; a printed text without its last byte is refused at its last line.
-/

namespace Go.Proofs.YtfdkmmllemkogaaGreatDoor
open Go.RowKit
set_option linter.unusedVariables false
set_option linter.unusedSimpArgs false

theorem kind_succ (y : Nat) : kindW (y + 1) = kindW 1 := by unfold kindW; rw [if_neg (by omega), if_neg (by omega)]
/-- The rows of a text, and its lines, without their ends. -/
def rowParts (W m : Nat) (ks : List Int) : List (List UInt8) := (List.range m).map (fun y => bareL (listB (kindW 1)) (rowOf W ks y))
def partsL (W H m : Nat) (ks : List Int) : List (List UInt8) := bareL (listB (kindW 0)) [(W : Int), (H : Int)] :: rowParts W m ks
theorem text_parts (W H : Nat) (ks : List Int) : textL W H ks = (partsL W H H ks).flatMap (· ++ [10]) := by
  unfold textL partsL rowParts rowsL
  rw [List.flatMap_cons, List.flatMap_map]; rfl
theorem parts_no10 (W H m : Nat) (ks : List Int) : ∀ p ∈ partsL W H m ks, (10 : UInt8) ∉ p := by
  intro p hp
  rcases List.mem_cons.1 hp with rfl | hp
  · exact bare_no10 0 _
  · obtain ⟨y, -, rfl⟩ := List.mem_map.1 hp
    exact bare_no10 1 _
theorem parts_len (W H m : Nat) (ks : List Int) : (partsL W H m ks).length = m + 1 := by unfold partsL rowParts; simp
theorem text_heads (W H : Nat) (ks : List Int) : headP (strB (textL W H ks)) = partsL W H H ks ∧ lastP (strB (textL W H ks)) = [] :=
  lines_text (by rw [listB_strB, text_parts, List.append_nil]) (parts_no10 W H H ks) (by simp)
/-- A line of a text of a right map. -/
theorem part_ok {W H m : Nat} {ks : List Int} (hW : 1 ≤ W ∧ W ≤ 64) (hH : H ≤ 64) (hm : m * W ≤ ks.length) (hk : ∀ k ∈ ks, k.natAbs ≤ 16384) {j : Nat} {p : List UInt8} (hp : (partsL W H m ks)[j]? = some p) :
    okL j (strB (p ++ [10])) = true ∧ intsV (tailL (strB (p ++ [10]))) = if j = 0 then [(W : Int), (H : Int)] else rowOf W ks (j - 1) := by
  cases j with
  | zero =>
    have e : bareL (listB (kindW 0)) [(W : Int), (H : Int)] = p := by simpa [partsL] using hp
    subst e
    rw [if_pos rfl]
    refine line_reads 0 _ (fun k hk => ?_) rfl
    simp at hk
    rcases hk with rfl | rfl <;> omega
  | succ y =>
    unfold partsL rowParts at hp
    rw [List.getElem?_cons_succ, List.getElem?_map] at hp
    by_cases hy : y < m
    · rw [List.getElem?_range hy] at hp
      have e : bareL (listB (kindW 1)) (rowOf W ks y) = p := by simpa using hp
      subst e
      rw [if_neg (by omega), Nat.add_sub_cancel, ← kind_succ y]
      refine line_reads (y + 1) _ (fun k hk' => ?_) ?_
      · have := hk k (rowOf_mem hk'); omega
      · have h2 : (y + 1) * W ≤ m * W := Nat.mul_le_mul_right W (by omega)
        rw [Nat.add_mul, Nat.one_mul] at h2
        rw [rowOf_len W ks y (by omega)]
        unfold fitsB; rw [if_neg (by omega)]; simp; omega
    · rw [List.getElem?_eq_none (by simp; omega)] at hp; cases hp
theorem rowOf_succ (W : Nat) (ks : List Int) (y : Nat) : rowOf W ks (y + 1) = rowOf W (ks.drop W) y := by
  unfold rowOf; rw [List.drop_drop, Nat.add_mul, Nat.one_mul, Nat.add_comm]
theorem rowOf_zero (W : Nat) (ks : List Int) : rowOf W ks 0 = ks.take W := by unfold rowOf; rw [Nat.zero_mul, List.drop_zero]
theorem range_cut {α : Type} (f : Nat → α) (m : Nat) : (List.range (m + 1)).map f = f 0 :: (List.range m).map (fun y => f (y + 1)) := by
  rw [List.range_succ_eq_map, List.map_cons, List.map_map]; rfl
theorem rows_flat (W : Nat) : ∀ (H : Nat) (ks : List Int), W * H = ks.length → ((List.range H).map (rowOf W ks)).flatten = ks
  | 0, ks, h => by
    have : ks = [] := List.length_eq_zero_iff.1 (by rw [← h]; rfl)
    subst this; rfl
  | H + 1, ks, h => by
    rw [range_cut, List.flatten_cons, rowOf_zero]
    have e : (fun y => rowOf W ks (y + 1)) = rowOf W (ks.drop W) := by funext y; exact rowOf_succ W ks y
    rw [Nat.mul_add, Nat.mul_one] at h
    rw [e, rows_flat W H (ks.drop W) (by rw [List.length_drop]; omega), List.take_append_drop]
theorem flat_rows (W : Nat) : ∀ rs : List (List Int), (∀ r ∈ rs, r.length = W) → (List.range rs.length).map (rowOf W rs.flatten) = rs
  | [], _ => rfl
  | r :: rs, h => by
    have hr := h r (List.mem_cons.2 (.inl rfl))
    have ih := flat_rows W rs (fun x hx => h x (List.mem_cons.2 (.inr hx)))
    rw [List.length_cons, range_cut, rowOf_zero, List.flatten_cons]
    have e : (fun y => rowOf W (r ++ rs.flatten) (y + 1)) = rowOf W rs.flatten := by
      funext y; rw [rowOf_succ]
      congr 1
      rw [← hr]; exact List.drop_left
    rw [e, ih]
    congr 1
    rw [← hr]; exact List.take_left

theorem smp_inj {x : Nat} {k l : Int} (h : Smp x k) (h' : Smp x l) : k = l := by
  have h1 := Smp.order h h'
  have h2 := Smp.order h h
  rw [h1] at h2
  have h3 : compare k l = compare k k := Option.some.inj h2
  have h4 : compare k k = .eq := by simp
  rw [h4] at h3
  simpa using h3
theorem smpErr_small {x : Nat} {k : Int} (h : Smp x k) (hk : k.natAbs ≤ 16384) : smpErr x = 0 := by
  obtain ⟨s, hn, -, -⟩ := h
  rw [smpErr_num hn]
  have h1 : k.natAbs * 2 ^ 145 ≤ 1024 * 2 ^ 149 := by
    have e2 : 1024 * 2 ^ 149 = 16384 * 2 ^ 145 := by decide +kernel
    rw [e2]; exact Nat.mul_le_mul_right _ hk
  rw [if_pos ⟨h1, Nat.mul_mod_left _ _⟩]
theorem firstNZ_zero : ∀ {l : List Int}, (∀ x ∈ l, x = 0) → firstNZ l = 0
  | [], _ => rfl
  | x :: r, h => by
    have h1 := h x (List.mem_cons.2 (.inl rfl))
    have ih := firstNZ_zero (l := r) (fun y hy => h y (List.mem_cons.2 (.inr hy)))
    unfold firstNZ
    simp [h1, ih]
theorem mapErr_ok {W H : Int} {n : Nat} {ks : List Int} (hW : 1 ≤ W ∧ W ≤ 64) (hH : 1 ≤ H ∧ H ≤ 64) (ha : W * H = n) (hk : ∀ k ∈ ks, k.natAbs ≤ 16384) : mapErr W H n (ks.map smpOf) = 0 := by
  unfold mapErr
  have h1 : firstNZ [rangeErr W 1 64, rangeErr H 1 64] = 0 := by
    refine firstNZ_zero (fun x hx => ?_)
    simp at hx
    rcases hx with rfl | rfl
    · unfold rangeErr; simp; omega
    · unfold rangeErr; simp; omega
  rw [if_pos h1, if_pos ha]
  refine firstNZ_zero (fun x hx => ?_)
  obtain ⟨y, hy, rfl⟩ := List.mem_map.1 hx
  obtain ⟨k, hk', rfl⟩ := List.mem_map.1 hy
  have := hk k hk'
  exact smpErr_small (smpOf_smp k (by omega)) this
theorem kOf_smpOf {k : Int} (hk : k.natAbs ≤ 16384) : kOf (smpOf k) = k :=
  smp_inj (smp_kOf (smpErr_small (smpOf_smp k (by omega)) hk)).1 (smpOf_smp k (by omega))
theorem kOf_smps : ∀ {ks : List Int}, (∀ k ∈ ks, k.natAbs ≤ 16384) → (ks.map smpOf).map kOf = ks
  | [], _ => rfl
  | k :: r, h => by rw [List.map_cons, List.map_cons, kOf_smpOf (h k (List.mem_cons.2 (.inl rfl))), kOf_smps (fun y hy => h y (List.mem_cons.2 (.inr hy)))]

/-- The printed text of a right map is read as it. -/
theorem text_reads {W H : Nat} {ks : List Int} (hW : 1 ≤ W ∧ W ≤ 64) (hH : 1 ≤ H ∧ H ≤ 64) (ha : W * H = ks.length) (hk : ∀ k ∈ ks, k.natAbs ≤ 16384) : ParseR (linesL (strB (textL W H ks))) 0 0 W H ks := by
  obtain ⟨hP, hl⟩ := text_heads W H ks
  have hL : linesL (strB (textL W H ks)) = (partsL W H H ks).map (fun p => strB (p ++ [10])) := by unfold linesL; rw [if_pos hl, hP]
  have hm : H * W ≤ ks.length := by rw [Nat.mul_comm]; omega
  have hlen : (linesL (strB (textL W H ks))).length = H + 1 := by rw [hL, List.length_map, parts_len]
  have hat : ∀ (j : Nat) (x : ByteArray), (linesL (strB (textL W H ks)))[j]? = some x → ∃ p : List UInt8, (partsL W H H ks)[j]? = some p ∧ x = strB (p ++ [10]) := by
    intro j x hx
    rw [hL, List.getElem?_map] at hx
    cases hp : (partsL W H H ks)[j]? with
    | none => rw [hp] at hx; cases hx
    | some p => rw [hp] at hx; exact ⟨p, rfl, (Option.some.inj hx).symm⟩
  have h0 : (linesL (strB (textL W H ks)))[0]? = some (strB (bareL (listB (kindW 0)) [(W : Int), (H : Int)] ++ [10])) := by rw [hL]; rfl
  have h0v := (part_ok (H := H) (m := H) hW hH.2 hm hk (j := 0) (p := bareL (listB (kindW 0)) [(W : Int), (H : Int)]) rfl).2
  rw [if_pos rfl] at h0v
  have hwid : widR (linesL (strB (textL W H ks))) = W := by unfold widR; rw [h0]; show (intsV (tailL _))[0]?.getD 0 = _; rw [h0v]; rfl
  have hhei : heiR (linesL (strB (textL W H ks))) = H := by unfold heiR; rw [h0]; show (intsV (tailL _))[1]?.getD 0 = _; rw [h0v]; rfl
  have hrows : rowsR (linesL (strB (textL W H ks))) = (List.range H).map (rowOf W ks) := by
    unfold rowsR
    apply List.ext_getElem?
    intro y
    rw [List.getElem?_map, List.getElem?_drop, List.getElem?_map, hL, List.getElem?_map]
    by_cases hy : y < H
    · have hp : (partsL W H H ks)[1 + y]? = some (bareL (listB (kindW 1)) (rowOf W ks y)) := by
        unfold partsL rowParts
        rw [Nat.add_comm, List.getElem?_cons_succ, List.getElem?_map, List.getElem?_range hy]; rfl
      have h2 := (part_ok (H := H) hW hH.2 hm hk hp).2
      rw [if_neg (by omega), Nat.add_sub_cancel_left] at h2
      rw [hp, List.getElem?_range hy]
      show some (intsV (tailL _)) = some _
      rw [h2]
    · rw [List.getElem?_eq_none (by rw [parts_len]; omega), List.getElem?_eq_none (l := List.range H) (by simp; omega)]; rfl
  have hasm : asmErr W H ((List.range H).map (rowOf W ks)) = 0 := by
    unfold asmErr
    rw [if_pos ⟨by simp, fun r hr => by
      obtain ⟨y, hy, rfl⟩ := List.mem_map.1 hr
      have hy' := List.mem_range.1 hy
      have h2 : (y + 1) * W ≤ H * W := Nat.mul_le_mul_right W (by omega)
      rw [Nat.add_mul, Nat.one_mul] at h2
      rw [rowOf_len W ks y (by omega)]⟩, rows_flat W H ks ha]
    have hlg : largeErr ks.length ks = 0 := by
      unfold largeErr
      rw [if_pos (fun j hj => by rw [List.getElem?_eq_getElem hj]; exact hk _ (List.getElem_mem _))]
    unfold cellErr
    rw [if_pos hlg]
    exact mapErr_ok (by omega) (by omega) (by rw [← ha]; simp) hk
  refine .inr (.inr ⟨by omega, fun j x _ hx => ?_, hwid.symm, hhei.symm, ?_, ?_, ?_⟩)
  · obtain ⟨p, hp, rfl⟩ := hat j x hx
    exact (part_ok hW hH.2 hm hk hp).1
  · rw [hrows, rows_flat W H ks ha]
  · rw [hwid, hhei, hrows, hasm]
  · rw [hwid, hhei, hrows, hasm, if_pos rfl]
end Go.Proofs.YtfdkmmllemkogaaGreatDoor

/-
  Texts: a text that is read without an error is the printed text of what it is read as; a printed text without its last byte is refused at its last line.
-/

namespace Go.Proofs.YtfdkmmllemkogaaGreatDoor
open Go.RowKit
set_option linter.unusedVariables false
set_option linter.unusedSimpArgs false

theorem two_ints {l : List Int} (h : l.length = 2) : l = [l[0]?.getD 0, l[1]?.getD 0] := by
  match l, h with
  | [a, b], _ => rfl
/-- A text that is read without an error. -/
theorem reads_text {s : ByteArray} {idx W H : Int} {ls : List Int} (h : ParseR (linesL s) idx 0 W H ls) : 0 ≤ W ∧ 0 ≤ H ∧ s = strB (textL W.toNat H.toNat ls) ∧ cellErr W H ls = 0 := by
  rcases h with ⟨k, x, -, -, -, -, h⟩ | ⟨-, -, h⟩ | ⟨h1, h2, rfl, rfl, rfl, h3, -⟩
  · cases h
  · cases h
  have hl : lastP s = [] := Classical.byContradiction fun hn => by
    have e := linesL_more hn
    have h4 := h2 _ _ (List.getElem?_eq_some_iff.1 e).1 e
    rw [last_bad] at h4; cases h4
  have hL : linesL s = (headP s).map (fun p => strB (p ++ [10])) := by unfold linesL; rw [if_pos hl]
  have hT := text_lines s
  rw [hl, List.append_nil] at hT
  rw [hL] at h1 h2 h3 ⊢
  generalize headP s = P at h1 h2 h3 hT ⊢
  -- each line is the line of its integers
  have hline : ∀ (j : Nat) (p : List UInt8), P[j]? = some p → p ++ [10] = lineL (listB (kindW j)) (intsV (tailL (strB (p ++ [10])))) ∧ fitsB j (intsV (tailL (strB (p ++ [10])))).length = true := by
    intro j p hp
    have e : (P.map (fun p => strB (p ++ [10])))[j]? = some (strB (p ++ [10])) := by rw [List.getElem?_map, hp]; rfl
    have h4 := h2 j _ (List.getElem?_eq_some_iff.1 e).1 e
    exact line_is (x := strB p) h4
  cases P with
  | nil => simp at h1
  | cons p0 R =>
    obtain ⟨e0, f0⟩ := hline 0 p0 rfl
    have f2 : (intsV (tailL (strB (p0 ++ [10])))).length = 2 := by
      unfold fitsB at f0; rw [if_pos rfl] at f0; exact of_decide_eq_true f0
    have e2 := two_ints f2
    have hw : widR ((p0 :: R).map (fun p => strB (p ++ [10]))) = (intsV (tailL (strB (p0 ++ [10]))))[0]?.getD 0 := rfl
    have hh : heiR ((p0 :: R).map (fun p => strB (p ++ [10]))) = (intsV (tailL (strB (p0 ++ [10]))))[1]?.getD 0 := rfl
    have hr : rowsR ((p0 :: R).map (fun p => strB (p ++ [10]))) = R.map (fun p => intsV (tailL (strB (p ++ [10])))) := by
      unfold rowsR
      rw [List.map_cons, List.drop_succ_cons, List.drop_zero, List.map_map]; rfl
    rw [← hw, ← hh] at e2
    rw [hr] at h3 ⊢
    generalize widR ((p0 :: R).map (fun p => strB (p ++ [10]))) = W at e2 h3 ⊢
    generalize heiR ((p0 :: R).map (fun p => strB (p ++ [10]))) = H at e2 h3 ⊢
    have hR : R.flatMap (· ++ [10]) = (R.map (fun p => intsV (tailL (strB (p ++ [10]))))).flatMap (fun r => lineL (listB (kindW 1)) r) := by
      rw [List.flatMap_map]
      have key : ∀ (Q : List (List UInt8)) (d : Nat), (∀ (j : Nat) (p : List UInt8), Q[j]? = some p → p ++ [10] = lineL (listB (kindW (d + 1 + j))) (intsV (tailL (strB (p ++ [10]))))) →
          Q.flatMap (· ++ [10]) = Q.flatMap (fun p => lineL (listB (kindW 1)) (intsV (tailL (strB (p ++ [10]))))) := by
        intro Q
        induction Q with
        | nil => intro d _; rfl
        | cons q Q ih =>
          intro d hq
          have a := hq 0 q rfl
          rw [Nat.add_zero, kind_succ] at a
          rw [List.flatMap_cons, List.flatMap_cons, ← a, ih (d + 1) (fun j p hp => by
            have b := hq (j + 1) p hp
            rw [show d + 1 + (j + 1) = d + 1 + 1 + j by omega] at b
            exact b)]
      exact key R 0 (fun j p hp => by
        have b := (hline (j + 1) p hp).1
        rw [show 0 + 1 + j = j + 1 by omega]
        exact b)
    rw [List.flatMap_cons, hR, e0] at hT
    generalize R.map (fun p => intsV (tailL (strB (p ++ [10])))) = rs at h3 hT ⊢
    rw [e2] at hT
    unfold asmErr at h3
    by_cases hc : (rs.length : Int) = H ∧ ∀ r ∈ rs, (r.length : Int) = W
    · rw [if_pos hc] at h3
      obtain ⟨c1, c2⟩ := hc
      have hm : mapErr W H rs.flatten.length (rs.flatten.map smpOf) = 0 := by
        unfold cellErr at h3
        by_cases hg : largeErr rs.flatten.length rs.flatten = 0
        · rw [if_pos hg] at h3; exact h3.symm
        · rw [if_neg hg] at h3; exact absurd h3.symm hg
      have hs := mapErr_zero (W := W) (H := H) (by rw [List.length_map]) hm
      have hW : 1 ≤ W := hs.1
      have hH : 1 ≤ H := hs.2.2.1
      refine ⟨by omega, by omega, ?_, h3.symm⟩
      obtain ⟨Wn, rfl⟩ : ∃ k : Nat, W = k := ⟨W.toNat, by omega⟩
      subst c1
      have e5 := flat_rows Wn rs (fun r hr => by have := c2 r hr; omega)
      apply listB_inj
      rw [hT, listB_strB, Int.toNat_natCast, Int.toNat_natCast]
      unfold textL rowsL
      have e6 : (List.range rs.length).flatMap (fun y => lineL [114, 111, 119] (rowOf Wn rs.flatten y)) = rs.flatMap (fun r => lineL (listB (kindW 1)) r) := by
        have := congrArg (fun l => l.flatMap (fun r => lineL (listB (kindW 1)) r)) e5
        rw [List.flatMap_map] at this
        exact this
      rw [e6]; rfl
    · rw [if_neg hc] at h3; cases h3

/-- A printed text without its last byte. -/
theorem text_torn {W H : Nat} {ks : List Int} (hW : 1 ≤ W ∧ W ≤ 64) (hH : 1 ≤ H ∧ H ≤ 64) (ha : W * H = ks.length) (hk : ∀ k ∈ ks, k.natAbs ≤ 16384) : ParseR (linesL (strB ((textL W H ks).dropLast))) H 25 0 0 [] := by
  obtain ⟨m, rfl⟩ : ∃ m, H = m + 1 := ⟨H - 1, by omega⟩
  obtain ⟨q, hq⟩ : ∃ q, bareL (listB (kindW 1)) (rowOf W ks m) = q := ⟨_, rfl⟩
  have hpq : partsL W (m + 1) (m + 1) ks = partsL W (m + 1) m ks ++ [q] := by
    unfold partsL rowParts
    rw [List.range_succ, List.map_append, List.cons_append, ← hq]; rfl
  have ht : (textL W (m + 1) ks).dropLast = (partsL W (m + 1) m ks).flatMap (· ++ [10]) ++ q := by
    rw [text_parts, hpq, List.flatMap_append]
    have : [q].flatMap (· ++ [(10 : UInt8)]) = q ++ [10] := by simp
    rw [this, ← List.append_assoc, List.dropLast_concat]
  have hq10 : (10 : UInt8) ∉ q := by rw [← hq]; exact bare_no10 1 _
  obtain ⟨hP, hl⟩ := lines_text (s := strB ((textL W (m + 1) ks).dropLast)) (by rw [listB_strB, ht]) (parts_no10 W (m + 1) m ks) hq10
  have hqn : q ≠ [] := by
    rw [← hq]; unfold bareL; rw [Lib.join_cons]
    intro h
    have := congrArg List.length h
    rw [List.length_append] at this
    have h2 : (listB (kindW 1)).length = 3 := rfl
    simp only [List.length_nil] at this
    omega
  have hmore := linesL_more (s := strB ((textL W (m + 1) ks).dropLast)) (by rw [hl]; exact hqn)
  rw [hP, parts_len] at hmore
  refine .inl ⟨m + 1, _, hmore, fun j x hj hx => ?_, ?_, rfl, rfl⟩
  · have hL : linesL (strB ((textL W (m + 1) ks).dropLast)) = (partsL W (m + 1) m ks).map (fun p => strB (p ++ [10])) ++ [strB (lastP (strB ((textL W (m + 1) ks).dropLast)))] := by
      unfold linesL; rw [if_neg (by rw [hl]; exact hqn)]; unfold allL; rw [hP]
    rw [hL, List.getElem?_append_left (by rw [List.length_map, parts_len]; exact hj), List.getElem?_map] at hx
    cases hp : (partsL W (m + 1) m ks)[j]? with
    | none => rw [hp] at hx; cases hx
    | some p =>
      rw [hp] at hx
      have hx' := Option.some.inj hx
      subst hx'
      exact (part_ok (m := m) hW hH.2 (by rw [← ha, Nat.mul_comm m W]; exact Nat.mul_le_mul_left W (by omega)) hk hp).1
  · rw [show m + 1 = m + 1 from rfl]; exact last_bad (m + 1) _
end Go.Proofs.YtfdkmmllemkogaaGreatDoor
