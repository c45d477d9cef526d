/-
  Two maps without anything are the same; one() of a result with an error.
-/
import Derived.Test.YtfdkmmllemkogaaGreatDoorOcSl
import Derived.Test.YtfdkmmllemkogaaGreatDoorOcSa
import Derived.Test.YtfdkmmllemkogaaGreatDoorOWv
namespace Go.Proofs.YtfdkmmllemkogaaGreatDoor
open Go.RowKit
set_option linter.unusedVariables false
set_option linter.unusedSimpArgs false

set_option maxRecDepth 100000 in
set_option maxHeartbeats 1600000 in
theorem sameSamples_nil (w : World) : Calls Tryz.prog 193 #[.slice none 0 0, .slice none 0 0] w fun e w' => e = .returned (.bool true) ∧ Below w.heap.size w w' := by
  go_enter Tryz.func193, Tryz.ntmps193
  go_wp2
  go_loopw [5] (fun i wr => i = .int .i64 0 ∧ Below w.heap.size w wr) (fun i _ => 0)
  case atStart => exact ⟨rfl, Below.refl _ _⟩
  case round =>
    obtain ⟨rfl, hnx⟩ := hrel
    go_wp2
    go_ret
    exact ⟨rfl, hnx⟩

set_option maxRecDepth 100000 in
set_option maxHeartbeats 1600000 in
theorem sameMap_nil (w : World) : Calls Tryz.prog 98 #[.agg #[.int .i64 0, .int .i64 0, .slice none 0 0], .agg #[.int .i64 0, .int .i64 0, .slice none 0 0]] w fun e w' => e = .returned (.bool true) ∧ Below w.heap.size w w' := by
  go_enter Tryz.func98, Tryz.ntmps98
  go_wp2_with fail
  refine (sameSize_any 0 0 _ _ 0 0 0 0 _).mono ?_
  rintro e w1 ⟨rfl, hb1⟩
  have hB : Below w.heap.size w w1 := (((Below.refl _ w).alloc (Nat.le_refl _) _).alloc (by simp) _).trans (hb1.mono (by simp; omega))
  have s0 : w1.cell? ⟨w.heap.size, 2, none⟩ = some (.slice none 0 0) := by rw [hb1.cell (by simp; try omega)]; simp [go_sem]
  have s1 : w1.cell? ⟨w.heap.size + 1, 2, none⟩ = some (.slice none 0 0) := by rw [hb1.cell (by simp)]; simp [go_sem]
  have HB := Lib.hid hB
  clear hb1 hB
  go_wp2_with fail
  refine (sameSamples_nil _).mono ?_
  rintro e w2 ⟨rfl, hb2⟩
  go_wp2
  go_ret
  exact ⟨rfl, HB.out.trans (hb2.mono HB.out.size)⟩

set_option maxHeartbeats 1600000 in
theorem told_any (W H : Int) (a : Option Addr) (n c : Nat) (w : World) : Calls Tryz.prog 97 #[.agg #[.int .i64 W, .int .i64 H, .slice a n c]] w fun e w' => e = .returned (.agg #[.int .i64 W, .int .i64 H, .slice a n c]) ∧ Below w.heap.size w w' := by
  go_enter Tryz.func97, Tryz.ntmps97
  go_wp2
  refine bodyPost_ret (v := .agg #[.int .i64 W, .int .i64 H, .slice a n c]) (by simp [results, Tryz.results97, go_sem]) rfl ⟨rfl, ?_⟩
  exact ((Below.refl _ w).alloc (Nat.le_refl _) _).alloc (by simp) _

set_option maxRecDepth 100000 in
set_option maxHeartbeats 3200000 in
/-- one() of a result without an error. -/
theorem one_ok (W H W' H' : Int) (a a' : Option Addr) (n c n' c' : Nat) (w : World)
    (hK : ∀ w1 : World, Below w.heap.size w w1 → Calls Tryz.prog 98 #[.agg #[.int .i64 W, .int .i64 H, .slice a n c], .agg #[.int .i64 W', .int .i64 H', .slice a' n' c']] w1 fun e w' => e = .returned (.bool true) ∧ Below w1.heap.size w1 w') :
    Calls Tryz.prog 55 #[.agg #[.int .i64 W, .int .i64 H, .slice a n c], .int .i64 0, .int .i64 0, .agg #[.int .i64 W', .int .i64 H', .slice a' n' c']] w fun e w' => e = .returned (.bool true) ∧ Below w.heap.size w w' := by
  obtain ⟨W0, hW0⟩ : ∃ W0, (w.alloc (.cells #[.int .i64 W, .int .i64 H, .slice a n c] 54)).alloc (.cells #[.int .i64 W', .int .i64 H', .slice a' n' c'] 48) = W0 := ⟨_, rfl⟩
  have hB0 : Below w.heap.size w W0 := by rw [← hW0]; exact ((Below.refl _ w).alloc (Nat.le_refl _) _).alloc (by simp) _
  have hS0 : W0.heap.size = w.heap.size + 2 := by rw [← hW0]; simp
  have a0 : W0.cell? ⟨w.heap.size, 0, none⟩ = some (.int .i64 W) := by rw [← hW0]; simp [go_sem]
  have a1 : W0.cell? ⟨w.heap.size, 1, none⟩ = some (.int .i64 H) := by rw [← hW0]; simp [go_sem]
  have a2 : W0.cell? ⟨w.heap.size, 2, none⟩ = some (.slice a n c) := by rw [← hW0]; simp [go_sem]
  have b0 : W0.cell? ⟨w.heap.size + 1, 0, none⟩ = some (.int .i64 W') := by rw [← hW0]; simp [go_sem]
  have b1 : W0.cell? ⟨w.heap.size + 1, 1, none⟩ = some (.int .i64 H') := by rw [← hW0]; simp [go_sem]
  have b2 : W0.cell? ⟨w.heap.size + 1, 2, none⟩ = some (.slice a' n' c') := by rw [← hW0]; simp [go_sem]
  have KS : Hid (∀ w1 : World, Below W0.heap.size W0 w1 → Calls Tryz.prog 98 #[.agg #[.int .i64 W, .int .i64 H, .slice a n c], .agg #[.int .i64 W', .int .i64 H', .slice a' n' c']] w1 fun e w' => e = .returned (.bool true) ∧ Below w1.heap.size w1 w' ∧ Below W0.heap.size W0 w') :=
    Lib.hid fun w1 h => (hK w1 (hB0.trans (h.mono (by omega)))).mono fun e w' ⟨he, hb⟩ => ⟨he, hb, h.trans (hb.mono h.size)⟩
  have KT : Hid (∀ w1 : World, Below W0.heap.size W0 w1 → Calls Tryz.prog 97 #[.agg #[.int .i64 W, .int .i64 H, .slice a n c]] w1 fun e w' => e = .returned (.agg #[.int .i64 W, .int .i64 H, .slice a n c]) ∧ Below W0.heap.size W0 w') :=
    Lib.hid fun w1 h => (told_any W H a n c w1).mono fun e w' ⟨he, hb⟩ => ⟨he, h.trans (hb.mono h.size)⟩
  have HB0 := Lib.hid hB0
  clear hK hB0
  go_enter Tryz.func55, Tryz.ntmps55
  go_upto_region 1 with fail
  try rw [hW0]
  clear hW0
  go_wp2_with fail
  go_region_held3 (fun w' => w'.cell? ⟨w.heap.size, 0, none⟩ = some (.int .i64 W) ∧ w'.cell? ⟨w.heap.size, 1, none⟩ = some (.int .i64 H) ∧ w'.cell? ⟨w.heap.size, 2, none⟩ = some (.slice a n c) ∧ w'.cell? ⟨w.heap.size + 1, 0, none⟩ = some (.int .i64 W') ∧ w'.cell? ⟨w.heap.size + 1, 1, none⟩ = some (.int .i64 H') ∧ w'.cell? ⟨w.heap.size + 1, 2, none⟩ = some (.slice a' n' c'))
    (first | go_keep | (go_split_ands; refine ⟨?_, ?_, ?_, ?_, ?_, ?_⟩ <;> (first | (rw [hb3.cell (by show _ < W0.heap.size; simp; try omega)]; assumption) | (rw [hb1.cell (by show _ < W0.heap.size; simp; try omega)]; assumption))))
    (first
      | (go_at_call 97; refine (KT.out _ (by first | exact Below.refl _ _ | exact (Below.refl _ _).drew)).mono ?_; rintro e w1 ⟨rfl, hb1⟩)
      | (go_at_call 98; refine (KS.out _ hb1).mono ?_; rintro e w2 ⟨rfl, hb2, hb3⟩))
  all_goals
    go_wp2
    go_ret
    exact ⟨rfl, HB0.out.trans (hb3.mono (by omega))⟩

set_option maxRecDepth 100000 in
set_option maxHeartbeats 3200000 in
/-- one() of a result with an error: whatever the reference's map is. -/
theorem one_bad (r : Int) (hr0 : r ≠ 0) (W' H' : Int) (a' : Option Addr) (n' c' : Nat) (w : World) :
    Calls Tryz.prog 55 #[.agg #[.int .i64 0, .int .i64 0, .slice none 0 0], .int .i64 r, .int .i64 r, .agg #[.int .i64 W', .int .i64 H', .slice a' n' c']] w fun e w' => e = .returned (.bool true) ∧ Below w.heap.size w w' := by
  have e0 : (r != 0) = true := by simp [hr0]
  have e1 : (r == r) = true := by simp
  clear hr0
  go_enter Tryz.func55, Tryz.ntmps55
  go_upto_region 3 with fail
  obtain ⟨W0, hW0⟩ : ∃ W0, (w.alloc (.cells #[.int .i64 0, .int .i64 0, .slice none 0 0] 54)).alloc (.cells #[.int .i64 0, .int .i64 0, .slice none 0 0] 48) = W0 := ⟨_, rfl⟩
  have hB0 : Below w.heap.size w W0 := by rw [← hW0]; exact ((Below.refl _ w).alloc (Nat.le_refl _) _).alloc (by simp) _
  have hS0 : W0.heap.size = w.heap.size + 2 := by rw [← hW0]; simp
  have a0 : W0.cell? ⟨w.heap.size, 0, none⟩ = some (.int .i64 0) := by rw [← hW0]; simp [go_sem]
  have a1 : W0.cell? ⟨w.heap.size, 1, none⟩ = some (.int .i64 0) := by rw [← hW0]; simp [go_sem]
  have a2 : W0.cell? ⟨w.heap.size, 2, none⟩ = some (.slice none 0 0) := by rw [← hW0]; simp [go_sem]
  have b0 : W0.cell? ⟨w.heap.size + 1, 0, none⟩ = some (.int .i64 0) := by rw [← hW0]; simp [go_sem]
  have b1 : W0.cell? ⟨w.heap.size + 1, 1, none⟩ = some (.int .i64 0) := by rw [← hW0]; simp [go_sem]
  have b2 : W0.cell? ⟨w.heap.size + 1, 2, none⟩ = some (.slice none 0 0) := by rw [← hW0]; simp [go_sem]
  have KS : Hid (∀ w1 : World, Below W0.heap.size W0 w1 → Calls Tryz.prog 98 #[.agg #[.int .i64 0, .int .i64 0, .slice none 0 0], .agg #[.int .i64 0, .int .i64 0, .slice none 0 0]] w1 fun e w' => e = .returned (.bool true) ∧ Below w1.heap.size w1 w' ∧ Below W0.heap.size W0 w') :=
    Lib.hid fun w1 h => (sameMap_nil w1).mono fun e w' ⟨he, hb⟩ => ⟨he, hb, h.trans (hb.mono h.size)⟩
  have KT : Hid (∀ w1 : World, Below W0.heap.size W0 w1 → Calls Tryz.prog 97 #[.agg #[.int .i64 0, .int .i64 0, .slice none 0 0]] w1 fun e w' => e = .returned (.agg #[.int .i64 0, .int .i64 0, .slice none 0 0]) ∧ Below W0.heap.size W0 w') :=
    Lib.hid fun w1 h => (told_any 0 0 none 0 0 w1).mono fun e w' ⟨he, hb⟩ => ⟨he, h.trans (hb.mono h.size)⟩
  have HB0 := Lib.hid hB0
  clear hB0
  rw [hW0]
  clear hW0
  go_region_held3 (fun w' => w'.cell? ⟨w.heap.size, 0, none⟩ = some (.int .i64 0) ∧ w'.cell? ⟨w.heap.size, 1, none⟩ = some (.int .i64 0) ∧ w'.cell? ⟨w.heap.size, 2, none⟩ = some (.slice none 0 0) ∧ w'.cell? ⟨w.heap.size + 1, 0, none⟩ = some (.int .i64 0) ∧ w'.cell? ⟨w.heap.size + 1, 1, none⟩ = some (.int .i64 0) ∧ w'.cell? ⟨w.heap.size + 1, 2, none⟩ = some (.slice none 0 0))
    (first | go_keep | (go_split_ands; refine ⟨?_, ?_, ?_, ?_, ?_, ?_⟩ <;> (first | (rw [hb3.cell (by show _ < W0.heap.size; simp; try omega)]; assumption) | (rw [hb1.cell (by show _ < W0.heap.size; simp; try omega)]; assumption))))
    (first
      | (go_at_call 97; refine (KT.out _ (by first | exact Below.refl _ _ | exact (Below.refl _ _).drew)).mono ?_; rintro e w1 ⟨rfl, hb1⟩)
      | (go_at_call 98; refine (KS.out _ hb1).mono ?_; rintro e w2 ⟨rfl, hb2, hb3⟩))
  all_goals
    go_wp2
    go_ret
    exact ⟨rfl, HB0.out.trans (hb3.mono (by omega))⟩
end Go.Proofs.YtfdkmmllemkogaaGreatDoor

/-
  Results that are maps: the map that a list of integers makes, or nothing with an error; one() of two such results.
-/

namespace Go.Proofs.YtfdkmmllemkogaaGreatDoor
open Go.RowKit
set_option linter.unusedVariables false
set_option linter.unusedSimpArgs false

/-- The value of a result that is a map: the map with the integers ls if there is no error, else nothing. -/
structure ResV (w : World) (r W H : Int) (ls : List Int) (X Y : Int) (a : Option Addr) (n c : Nat) : Prop where
  bad : r ≠ 0 → X = 0 ∧ Y = 0 ∧ a = none ∧ n = 0 ∧ c = 0
  ok : r = 0 → X = W ∧ Y = H ∧ ls.length = n ∧ n ≤ 4096 ∧ (∀ j, j < n → (ls[j]?.getD 0).natAbs ≤ 16384) ∧
    ∃ g, a = some ⟨g, 0, none⟩ ∧ g < w.heap.size ∧ ∀ j, j < n → w.cell? ⟨g, j, none⟩ = some (.float .f32 (smpOf (ls[j]?.getD 0)))
theorem ResV.kept {w w' : World} {r W H : Int} {ls : List Int} {X Y : Int} {a : Option Addr} {n c : Nat} (h : ResV w r W H ls X Y a n c) (hb : Below w.heap.size w w') : ResV w' r W H ls X Y a n c :=
  ⟨h.bad, fun h0 => by
    obtain ⟨h1, h2, h3, h4, h5, g, h6, h7, h8⟩ := h.ok h0
    exact ⟨h1, h2, h3, h4, h5, g, h6, Nat.lt_of_lt_of_le h7 hb.size, fun j hj => (hb.cell (p := ⟨g, j, none⟩) h7).trans (h8 j hj)⟩⟩
theorem ResV.none (w : World) (r W H : Int) (ls : List Int) (h : r ≠ 0) : ResV w r W H ls 0 0 none 0 0 :=
  ⟨fun _ => ⟨rfl, rfl, rfl, rfl, rfl⟩, fun h0 => absurd h0 h⟩
theorem ResV.some {w : World} {W H : Int} {ls : List Int} {g n c : Nat} (hl : ls.length = n) (hn : n ≤ 4096) (hs : ∀ j, j < n → (ls[j]?.getD 0).natAbs ≤ 16384) (hg : g < w.heap.size) (hc : ∀ j, j < n → w.cell? ⟨g, j, Option.none⟩ = Option.some (.float .f32 (smpOf (ls[j]?.getD 0)))) :
    ResV w 0 W H ls W H (Option.some ⟨g, 0, Option.none⟩) n c :=
  ⟨fun h => absurd rfl h, fun _ => ⟨rfl, rfl, hl, hn, hs, g, rfl, hg, hc⟩⟩

set_option maxHeartbeats 1600000 in
/-- one() of two results with the same error. -/
theorem one_res (r W H : Int) (ls : List Int) (X Y X' Y' : Int) (a a' : Option Addr) (n c n' c' : Nat) (w : World) (h1 : ResV w r W H ls X Y a n c) (h2 : r = 0 → ResV w r W H ls X' Y' a' n' c') :
    Calls Tryz.prog 55 #[.agg #[.int .i64 X, .int .i64 Y, .slice a n c], .int .i64 r, .int .i64 r, .agg #[.int .i64 X', .int .i64 Y', .slice a' n' c']] w fun e w' => e = .returned (.bool true) ∧ Below w.heap.size w w' := by
  by_cases h0 : r = 0
  · obtain ⟨rfl, rfl, hl, hn, hs, g, rfl, hg, hc⟩ := h1.ok h0
    obtain ⟨rfl, rfl, hl', hn', hs', g', rfl, hg', hc'⟩ := (h2 h0).ok h0
    subst h0
    obtain rfl : n = n' := by omega
    refine one_ok _ _ _ _ _ _ _ _ _ _ w (fun w1 hb1 => ?_)
    have hz := hb1.size
    have e : ∀ j, j < n → (ls.map smpOf)[j]?.getD 0 = smpOf (ls[j]?.getD 0) := fun j hj => by rw [List.getElem?_map, List.getElem?_eq_getElem (by omega)]; rfl
    have hsm : ∀ j, j < n → Smp ((ls.map smpOf)[j]?.getD 0) (ls[j]?.getD 0) := fun j hj => by rw [e j hj]; exact smpOf_smp _ (Nat.lt_of_le_of_lt (hs j hj) (by decide))
    refine sameMap_any _ _ g 0 c g' 0 c' n (ls.map smpOf) (ls.map smpOf) ls hn (by omega) (by omega) (fun j hj => ?_) (fun j hj => ?_) hsm hsm
    · rw [e j hj, Nat.zero_add]; exact (hb1.cell (p := ⟨g, j, none⟩) hg).trans (hc j hj)
    · rw [e j hj, Nat.zero_add]; exact (hb1.cell (p := ⟨g', j, none⟩) hg').trans (hc' j hj)
  · obtain ⟨rfl, rfl, rfl, rfl, rfl⟩ := h1.bad h0
    exact one_bad r h0 X' Y' a' n' c' w

/-- The first index of an integer that is large. -/
theorem first_large {ls : List Int} {n : Nat} (h : ¬ ∀ j, j < n → (ls[j]?.getD 0).natAbs ≤ 16384) :
    ∃ j0, j0 < n ∧ 16384 < (ls[j0]?.getD 0).natAbs ∧ ∀ j, j < j0 → (ls[j]?.getD 0).natAbs ≤ 16384 := by
  induction n with
  | zero => exact absurd (fun j hj => by omega) h
  | succ n ih =>
    by_cases h1 : ∀ j, j < n → (ls[j]?.getD 0).natAbs ≤ 16384
    · refine ⟨n, by omega, ?_, h1⟩
      by_cases h2 : 16384 < (ls[n]?.getD 0).natAbs
      · exact h2
      · refine absurd (fun j hj => ?_) h
        by_cases h3 : j < n
        · exact h1 j h3
        · obtain rfl : j = n := by omega
          omega
    · obtain ⟨j0, h2, h3, h4⟩ := ih h1
      exact ⟨j0, by omega, h3, h4⟩

/-- The error of integers that are to be those of samples. -/
def largeErr (n : Nat) (ls : List Int) : Int := if ∀ j, j < n → (ls[j]?.getD 0).natAbs ≤ 16384 then 0 else 4

end Go.Proofs.YtfdkmmllemkogaaGreatDoor

/-
  Contract of the reference's Made for any integers: the map, or the error of a large one.
-/

namespace Go.Proofs.YtfdkmmllemkogaaGreatDoor
open Go.RowKit
set_option linter.unusedVariables false
set_option linter.unusedSimpArgs false

theorem isLarge_yes (k : Int) (hk : 16384 < k.natAbs) (w : World) :
    Calls Tryz.prog 161 #[.int .i64 k] w fun e w' => e = .returned (.bool true) ∧ w = w' := by
  by_cases t1 : 16384 < k
  · clear hk
    go_enter Tryz.func161, Tryz.ntmps161
    go_wp2
    go_ret
    exact ⟨rfl, rfl⟩
  · have t2 : k < -16384 := by omega
    clear hk
    go_enter Tryz.func161, Tryz.ntmps161
    go_wp2
    go_ret
    exact ⟨rfl, rfl⟩

set_option maxRecDepth 100000 in
set_option maxHeartbeats 6400000 in
theorem made_large (W H : Int) (a : Option Addr) (n c : Nat) (ls : List Int) (hl : ls.length = n) (hm : n ≤ 4096) (hs : ¬ ∀ j, j < n → (ls[j]?.getD 0).natAbs ≤ 16384) (w : World)
    (hc : ∀ j, j < n → ∃ b o, a = some ⟨b, o, none⟩ ∧ b < w.heap.size ∧ w.cell? ⟨b, o + j, none⟩ = some (.int .i64 (ls[j]?.getD 0))) :
    Calls Tryz.prog 141 #[.int .i64 W, .int .i64 H, .slice a n c] w fun e w' =>
      e = .returned (.tuple #[.agg #[.int .i64 0, .int .i64 0, .slice none 0 0], .int .i64 4]) ∧ Below w.heap.size w w' := by
  obtain ⟨i0, hi, hz0, hz1, hz2⟩ := info_parts Tryz.infoF32
  have HL := Lib.hid hl
  obtain ⟨j0, hj0, hlg, hbf⟩ := first_large hs
  have HS := Lib.hid hbf
  have HLG := Lib.hid hlg
  have HC := Lib.hid hc
  clear hl hs hc hbf hlg
  go_enter Tryz.func141, Tryz.ntmps141
  go_wp2
  obtain ⟨W0, hW0⟩ : ∃ W0, (w.alloc (.cells #[.int .i64 0, .int .i64 0, .slice none 0 0] 48)).alloc (.cells #[.int .i64 W, .int .i64 H, .slice none 0 0] 48) = W0 := ⟨_, rfl⟩
  have hB0 : Below w.heap.size w W0 := by rw [← hW0]; exact ((Below.refl _ w).alloc (Nat.le_refl _) _).alloc (by simp) _
  have hS0 : W0.heap.size = w.heap.size + 2 := by rw [← hW0]; simp
  have bR : W0.heap[w.heap.size]? = some (.cells #[.int .i64 0, .int .i64 0, .slice none 0 0] 48 (0, 0)) := by rw [← hW0]; exact blk_alloc_other (blk_alloc_new _ _) _
  have bM : W0.heap[w.heap.size + 1]? = some (.cells #[.int .i64 W, .int .i64 H, .slice none 0 0] 48 (0, 0)) := by rw [← hW0]; exact blk_alloc_new1 _ _ _
  rw [hW0]
  have HB0 := Lib.hid hB0
  have HBR := Lib.hid bR
  have HBM := Lib.hid bM
  clear hW0 hB0 bR bM
  go_loopw [9] (fun iv wr => ∃ (k : Nat) (v : Value), k ≤ j0 ∧ iv = .int .i64 k ∧ wr.heap[w.heap.size + 1]? = some (.cells #[.int .i64 W, .int .i64 H, v] 48 (0, 0)) ∧ wr.heap[w.heap.size]? = some (.cells #[.int .i64 0, .int .i64 0, .slice none 0 0] 48 (0, 0)) ∧
      wr.ownsRow (w.heap.size + 2) 23 1 v k ((ls.take k).map (fun k => Value.float .f32 (smpOf k))) ∧ Below w.heap.size w wr ∧ w.heap.size + 2 ≤ wr.heap.size) (fun i _ => n - (intOf i).toNat)
  case atStart => exact ⟨0, _, Nat.zero_le _, rfl, HBM.out, HBR.out, World.ownsRow_nil _ _ _ _, HB0.out, by omega⟩
  case round =>
    obtain ⟨k, v, hk, rfl, bM, bR, hown, hnx, hsz⟩ := hrel
    obtain ⟨av, cv, rfl⟩ := owns_slice hown
    have hkn : k < n := by omega
    by_cases hlt : k < j0
    · obtain ⟨b, o, rfl, hb, hcell0⟩ := HC.out k hkn
      have hcell : wr.cell? ⟨b, o + k, none⟩ = some (.int .i64 (ls[k]?.getD 0)) := (hnx.cell (p := ⟨b, o + k, none⟩) hb).trans hcell0
      have KI := Lib.hid (isLarge_no _ (HS.out k hlt))
      have KS := Lib.hid (refSample_any (ls[k]?.getD 0) (Nat.lt_of_le_of_lt (HS.out k hlt) (by decide)))
      obtain ⟨lk, hlk⟩ : ∃ lk, ls[k]?.getD 0 = lk := ⟨_, rfl⟩
      have HLK := Lib.hid hlk
      rw [hlk] at hcell KI KS
      have c2 : wr.cell? ⟨w.heap.size + 1, 2, none⟩ = some (.slice av k cv) := by rw [cell_of_row wr _ 2 _ _ (0, 0) bM]; rfl
      have hne : ¬ (b = w.heap.size + 1) := by omega
      have hne' : ¬ (w.heap.size + 1 = b) := by omega
      have hy1 : ¬ (w.heap.size + 1 = wr.heap.size) := by omega
      have hy2 : ¬ (wr.heap.size = w.heap.size + 1) := by omega
      have hy3 : ¬ (b = wr.heap.size) := by omega
      have hy4 : ¬ (wr.heap.size = b) := by omega
      have ca1 : ∀ o, (wr.alloc o).cell? ⟨w.heap.size + 1, 2, none⟩ = some (.slice av k cv) := fun o => (((Below.refl _ wr).alloc (Nat.le_refl _) _).cell (p := ⟨w.heap.size + 1, 2, none⟩) (by show w.heap.size + 1 < _; omega)).trans c2
      have h4 : (k : Int) < (n : Int) := by omega
      have h5 : (0 : Int) ≤ (k : Int) := by omega
      have hvb : (Value.slice av k cv).ownBlock ≠ some (w.heap.size + 1) := fun e => by have := (hown.lt _ e).1; omega
      have hvb2 : (Value.slice av k cv).ownBlock ≠ some b := fun e => by have := (hown.lt _ e).1; omega
      have hvb3 : (Value.slice av k cv).ownBlock ≠ some w.heap.size := fun e => by have := (hown.lt _ e).1; omega
      have HBM' := Lib.hid bM
      have HBR' := Lib.hid bR
      clear hcell0 hlk HC bM bR
      go_upto_region 7 with (go_at_call 161; refine (KI.out _).mono ?_; rintro e w' ⟨rfl, rfl⟩)
      go_region_law
        (first
          | (refine step_func (by rfl) 45 (.tmp 30) 3 (by rfl) _ _ (by rfl) (by kernel_rfl) (KS.out _) ?_)
          | ((refine step_append_lies _ (by rfl) (.tmp 26) (.tmp 32) 46 (by rfl) (w.heap.size + 2) 23 i0 (.float .f32 0) 1 4 Tryz.underlying46 hi hz0 hz1 hz2 (by rfl) (by omega) (.slice av k cv) k _ (by rfl) (hown.alloc _) ⟨wr.heap.size, 0, none⟩ 1 1 [.float .f32 (smpOf lk)] (by rfl) (by rfl) (cell_one_new _ _ _) (by intro u hu; simp at hu; subst hu; rfl) (by omega) (by unfold maxLen; omega) (by omega) (by simp; omega) (wr.heap.size + 1) (by simp) ?_; intro g cap w1 hown1 hgrow hat hglt
              have bM1 : w1.heap[w.heap.size + 1]? = some (.cells #[.int .i64 W, .int .i64 H, .slice av k cv] 48 (0, 0)) := (hgrow.block (w.heap.size + 1) (by simp; omega) (Ne.symm hvb)).trans ((((Below.refl _ wr).alloc (Nat.le_refl _) _).block (w.heap.size + 1) (by omega)).trans HBM'.out)
              have bR1 : w1.heap[w.heap.size]? = some (.cells #[.int .i64 0, .int .i64 0, .slice none 0 0] 48 (0, 0)) := (hgrow.block w.heap.size (by simp; omega) (Ne.symm hvb3)).trans ((((Below.refl _ wr).alloc (Nat.le_refl _) _).block w.heap.size (by omega)).trans HBR'.out)
              have c2w : w1.cell? ⟨w.heap.size + 1, 2, none⟩ = some (.slice av k cv) := by rw [cell_of_row w1 _ 2 _ _ (0, 0) bM1]; rfl
              have q2w : w1.frozen? ⟨w.heap.size + 1, 2, none⟩ = false := frozen_of_row _ _ _ _ _ bM1
              have ckw : w1.cell? ⟨b, o + k, none⟩ = some (.int .i64 lk) := (World.cell?_of_block (hgrow.block b (by simp; omega) (Ne.symm hvb2))).trans ((((Below.refl _ wr).alloc (Nat.le_refl _) _).cell (p := ⟨b, o + k, none⟩) (by show b < _; omega)).trans hcell)
              have HM1 := Lib.hid bM1
              have HR1 := Lib.hid bR1
              have HG := Lib.hid hgrow
              have HO1 := Lib.hid hown1
              clear bM1 bR1)))
      all_goals
        go_wp2_with fail
        have hS1 : wr.heap.size + 1 ≤ w1.heap.size := by have := HG.out.size; simpa using this
        have hlw := hown.lt
        have e1 : (ls.take (k + 1)).map (fun k => Value.float .f32 (smpOf k)) = (ls.take k).map (fun k => Value.float .f32 (smpOf k)) ++ [.float .f32 (smpOf lk)] := by
          rw [take_map_succ (fun k => Value.float .f32 (smpOf k)) ls k (by have := HL.out; omega) 0, HLK.out]
        have fB : Below w.heap.size w w1 := (hnx.alloc (by omega) _).drew.grown HG.out (by simp; omega) (fun j hj => by have := (hlw j hj).1; omega)
        have HE1 := Lib.hid e1
        have HFB := Lib.hid fB
        have HS1 := Lib.hid hS1
        clear e1 fB hS1 hlw
        go_roundw
        case rel => exact ⟨k + 1, _, by omega, by go_num, blk_last HM1.out _, (setCell_other (by omega)).trans HR1.out, by rw [HE1.out]; exact ownsRow_setCell_below HO1.out (by dsimp only; omega) _, HFB.out.setCell (p := ⟨w.heap.size + 1, 2, none⟩) (by show w.heap.size ≤ w.heap.size + 1; omega) _, by have := HS1.out; simp; omega⟩
        case measure => simp [intOf]; omega
    · obtain rfl : k = j0 := by omega
      obtain ⟨b, o, rfl, hb, hcell0⟩ := HC.out k hkn
      have hcell : wr.cell? ⟨b, o + k, none⟩ = some (.int .i64 (ls[k]?.getD 0)) := (hnx.cell (p := ⟨b, o + k, none⟩) hb).trans hcell0
      have KI := Lib.hid (isLarge_yes _ HLG.out)
      obtain ⟨lk, hlk⟩ : ∃ lk, ls[k]?.getD 0 = lk := ⟨_, rfl⟩
      rw [hlk] at hcell KI
      have hne : ¬ (b = w.heap.size + 1) := by omega
      have hne' : ¬ (w.heap.size + 1 = b) := by omega
      have h4 : (k : Int) < (n : Int) := by omega
      have h5 : (0 : Int) ≤ (k : Int) := by omega
      have r0 : wr.cell? ⟨w.heap.size, 0, none⟩ = some (.int .i64 0) := by rw [cell_of_row wr _ 0 _ _ (0, 0) bR]; rfl
      have r1 : wr.cell? ⟨w.heap.size, 1, none⟩ = some (.int .i64 0) := by rw [cell_of_row wr _ 1 _ _ (0, 0) bR]; rfl
      have r2 : wr.cell? ⟨w.heap.size, 2, none⟩ = some (.slice none 0 0) := by rw [cell_of_row wr _ 2 _ _ (0, 0) bR]; rfl
      have q0 : wr.frozen? ⟨w.heap.size, 0, none⟩ = false := frozen_of_row _ _ _ _ _ bR
      have q1 : wr.frozen? ⟨w.heap.size, 1, none⟩ = false := frozen_of_row _ _ _ _ _ bR
      have q2 : wr.frozen? ⟨w.heap.size, 2, none⟩ = false := frozen_of_row _ _ _ _ _ bR
      have HBR' := Lib.hid bR
      clear bM bR hcell0 hlk hown
      go_wp2_with (go_at_call 161; refine (KI.out _).mono ?_; rintro e w' ⟨rfl, rfl⟩)
      obtain ⟨WF, hWF⟩ : ∃ WF, (((wr.setCell ⟨w.heap.size, 0, none⟩ (.int .i64 0)).setCell ⟨w.heap.size, 1, none⟩ (.int .i64 0)).setCell ⟨w.heap.size, 2, none⟩ (.slice none 0 0)) = WF := ⟨_, rfl⟩
      have rF : WF.heap[w.heap.size]? = some (.cells #[.int .i64 0, .int .i64 0, .slice none 0 0] 48 (0, 0)) := by rw [← hWF]; exact blk_set3 HBR'.out _ _ _
      have bF : Below w.heap.size w WF := by
        rw [← hWF]
        exact ((hnx.setCell (p := ⟨w.heap.size, 0, none⟩) (Nat.le_refl _) _).setCell (p := ⟨w.heap.size, 1, none⟩) (Nat.le_refl _) _).setCell (p := ⟨w.heap.size, 2, none⟩) (Nat.le_refl _) _
      rw [hWF]
      exact bodyPost_ret (v := .tuple #[.agg #[.int .i64 0, .int .i64 0, .slice none 0 0], .int .i64 4]) (results_row_tmp Tryz.results141 _ _ w.heap.size 48 _ (0, 0) _ rfl rF Tryz.underlying48 rfl (by kernel_rfl)) rfl ⟨rfl, bF⟩

theorem owns_cells {w : World} {B T n c : Nat} {a : Option Addr} {ls : List Int} (hl : ls.length = n) (h : w.ownsRow B T 1 (.slice a n c) n (ls.map (Value.int .i64))) :
    ∀ j, j < n → ∃ b o, a = some ⟨b, o, none⟩ ∧ b < w.heap.size ∧ w.cell? ⟨b, o + j, none⟩ = some (.int .i64 (ls[j]?.getD 0)) := by
  intro j hj
  rcases h.2 with ⟨_, h0⟩ | ⟨g, cap, cur, e, _, hg, _⟩
  · omega
  · simp at e
    obtain ⟨rfl, rfl⟩ := e
    refine ⟨g, 0, rfl, (Array.getElem?_eq_some_iff.1 hg).1, ?_⟩
    rw [Nat.zero_add]
    refine owns_cell h ?_
    rw [List.getElem?_map, List.getElem?_eq_getElem (by omega)]; rfl

/-- Made of a row of its own: whatever the integers are. -/
theorem made_all (W H : Int) (a : Option Addr) (n c B : Nat) (ls : List Int) (hl : ls.length = n) (hn : 1 ≤ n) (hm : n ≤ 4096) (w : World) (ho : w.ownsRow B 3 1 (.slice a n c) n (ls.map (Value.int .i64))) :
    Calls Tryz.prog 141 #[.int .i64 W, .int .i64 H, .slice a n c] w fun e w' =>
      ∃ X Y a' n' c', e = .returned (.tuple #[.agg #[.int .i64 X, .int .i64 Y, .slice a' n' c'], .int .i64 (largeErr n ls)]) ∧ ResV w' (largeErr n ls) W H ls X Y a' n' c' ∧ Below w.heap.size w w' := by
  unfold largeErr
  by_cases hs : ∀ j, j < n → (ls[j]?.getD 0).natAbs ≤ 16384
  · rw [if_pos hs]
    refine (made_any W H a n c ls hl hm hs w (owns_cells hl ho)).mono ?_
    rintro e w' ⟨v, rfl, hown, hb⟩
    rcases hown.2 with ⟨_, h0⟩ | ⟨g, cap, cur, rfl, _, hg, _⟩
    · omega
    · refine ⟨_, _, _, _, _, rfl, ResV.some hl hm hs (Array.getElem?_eq_some_iff.1 hg).1 (fun j hj => ?_), hb⟩
      refine owns_cell hown ?_
      rw [List.getElem?_map, List.getElem?_eq_getElem (by omega)]; rfl
  · rw [if_neg hs]
    refine (made_large W H a n c ls hl hm hs w (owns_cells hl ho)).mono ?_
    rintro e w' ⟨rfl, hb⟩
    exact ⟨_, _, _, _, _, rfl, ResV.none _ _ _ _ _ (by decide), hb⟩
end Go.Proofs.YtfdkmmllemkogaaGreatDoor

/-
  Contract of grid.toMap where an integer is that of no sample: the error.
-/

namespace Go.Proofs.YtfdkmmllemkogaaGreatDoor
open Go.RowKit
set_option linter.unusedVariables false
set_option linter.unusedSimpArgs false

set_option maxRecDepth 100000 in
set_option maxHeartbeats 3200000 in
theorem toMap_large (W H : Int) (g o n c : Nat) (ks : List Int) (hk : ks.length = n) (hn : n ≤ 4096) (w : World) (hg : g < w.heap.size) (hc : ∀ j, j < n → w.cell? ⟨g, o + j, none⟩ = some (.int .i64 (ks[j]?.getD 0))) (hs : ¬ ∀ j, j < n → (ks[j]?.getD 0).natAbs ≤ 16384) :
    Calls Tryz.prog 147 #[.agg #[.int .i64 W, .int .i64 H, .slice (some ⟨g, o, none⟩) n c]] w fun e w' =>
      e = .returned (.tuple #[.agg #[.int .i64 0, .int .i64 0, .slice none 0 0], .int .i64 4]) ∧ Below w.heap.size w w' := by
  obtain ⟨j0, hj0, hlg, hbf⟩ := first_large hs
  have HC := Lib.hid hc
  have HS := Lib.hid hbf
  clear hc hs hbf hk
  go_enter Tryz.func147, Tryz.ntmps147
  go_wp2_with fail
  obtain ⟨W0, hW0⟩ : ∃ W0, ((w.alloc (.cells #[.int .i64 W, .int .i64 H, .slice (some ⟨g, o, none⟩) n c] 188)).alloc (.cells #[.int .i64 0, .int .i64 0, .slice none 0 0] 54)) = W0 := ⟨_, rfl⟩
  have hB0 : Below w.heap.size w W0 := by rw [← hW0]; exact ((Below.refl _ w).alloc (Nat.le_refl _) _).alloc (by simp) _
  have hz0 : W0.heap.size = w.heap.size + 2 := by rw [← hW0]; simp
  have c0 : W0.cell? ⟨w.heap.size, 0, none⟩ = some (.int .i64 W) := by rw [← hW0]; simp [go_sem]
  have c1 : W0.cell? ⟨w.heap.size, 1, none⟩ = some (.int .i64 H) := by rw [← hW0]; simp [go_sem]
  have c2 : W0.cell? ⟨w.heap.size, 2, none⟩ = some (.slice (some ⟨g, o, none⟩) n c) := by rw [← hW0]; simp [go_sem]
  have t0 : W0.cell? ⟨w.heap.size + 1, 0, none⟩ = some (.int .i64 0) := by rw [← hW0]; simp [go_sem]
  have t1 : W0.cell? ⟨w.heap.size + 1, 1, none⟩ = some (.int .i64 0) := by rw [← hW0]; simp [go_sem]
  have t2 : W0.cell? ⟨w.heap.size + 1, 2, none⟩ = some (.slice none 0 0) := by rw [← hW0]; simp [go_sem]
  have fz : ∀ j, W0.frozen? ⟨w.heap.size + 1, j, none⟩ = false := fun j => by rw [← hW0]; simp [go_sem]
  have bP0 : W0.heap[w.heap.size + 1]? = some (.cells #[.int .i64 0, .int .i64 0, .slice none 0 0] 54 (0, 0)) := by rw [← hW0]; exact blk_alloc_new1 _ _ _
  have f0 := fz 0
  have f1 := fz 1
  have f2 := fz 2
  rw [hW0]
  have HB0 := Lib.hid hB0
  have HZ0 := Lib.hid hz0
  have HBP := Lib.hid bP0
  clear hW0 hB0 hz0 bP0
  go_loop [9] (fun i => ∃ k : Nat, k ≤ j0 ∧ i = .int .i64 k) (fun i => n - (intOf i).toNat)
  case atStart => exact ⟨0, Nat.zero_le _, rfl⟩
  case round =>
    obtain ⟨k, hkn, rfl⟩ := hrel
    have hkl : k < n := by omega
    have hcell : W0.cell? ⟨g, o + k, none⟩ = some (.int .i64 (ks[k]?.getD 0)) := (HB0.out.cell (by exact hg)).trans (HC.out k hkl)
    by_cases hlt : k < j0
    · have hs := HS.out k hlt
      obtain ⟨v, hv⟩ : ∃ v, ks[k]?.getD 0 = v := ⟨_, rfl⟩
      rw [hv] at hcell hs
      have h1 : ¬ (v < -16384) := by omega
      have h2 : ¬ (16384 < v) := by omega
      clear hs hv
      go_wp2
      go_round
      case rel => exact ⟨k + 1, by omega, by go_num⟩
      case measure => simp [intOf]; omega
    · obtain rfl : k = j0 := by omega
      obtain ⟨v, hv⟩ : ∃ v, ks[k]?.getD 0 = v := ⟨_, rfl⟩
      rw [hv] at hcell hlg
      clear hv
      by_cases h1 : v < -16384
      · go_wp2
        obtain ⟨WF, hWF⟩ : ∃ WF, (((W0.setCell ⟨w.heap.size + 1, 0, none⟩ (.int .i64 0)).setCell ⟨w.heap.size + 1, 1, none⟩ (.int .i64 0)).setCell ⟨w.heap.size + 1, 2, none⟩ (.slice none 0 0)) = WF := ⟨_, rfl⟩
        have rF : WF.heap[w.heap.size + 1]? = some (.cells #[.int .i64 0, .int .i64 0, .slice none 0 0] 54 (0, 0)) := by rw [← hWF]; exact blk_set3 HBP.out _ _ _
        have bF : Below w.heap.size w WF := by
          rw [← hWF]
          exact ((HB0.out.setCell (p := ⟨w.heap.size + 1, 0, none⟩) (by show w.heap.size ≤ w.heap.size + 1; omega) _).setCell (p := ⟨w.heap.size + 1, 1, none⟩) (by show w.heap.size ≤ w.heap.size + 1; omega) _).setCell (p := ⟨w.heap.size + 1, 2, none⟩) (by show w.heap.size ≤ w.heap.size + 1; omega) _
        rw [hWF]
        exact bodyPost_ret (v := .tuple #[.agg #[.int .i64 0, .int .i64 0, .slice none 0 0], .int .i64 4]) (results_row_tmp Tryz.results147 _ _ (w.heap.size + 1) 54 _ (0, 0) _ rfl rF Tryz.underlying54 rfl (by kernel_rfl)) rfl ⟨rfl, bF⟩
      · have h2 : 16384 < v := by omega
        go_wp2
        obtain ⟨WF, hWF⟩ : ∃ WF, (((W0.setCell ⟨w.heap.size + 1, 0, none⟩ (.int .i64 0)).setCell ⟨w.heap.size + 1, 1, none⟩ (.int .i64 0)).setCell ⟨w.heap.size + 1, 2, none⟩ (.slice none 0 0)) = WF := ⟨_, rfl⟩
        have rF : WF.heap[w.heap.size + 1]? = some (.cells #[.int .i64 0, .int .i64 0, .slice none 0 0] 54 (0, 0)) := by rw [← hWF]; exact blk_set3 HBP.out _ _ _
        have bF : Below w.heap.size w WF := by
          rw [← hWF]
          exact ((HB0.out.setCell (p := ⟨w.heap.size + 1, 0, none⟩) (by show w.heap.size ≤ w.heap.size + 1; omega) _).setCell (p := ⟨w.heap.size + 1, 1, none⟩) (by show w.heap.size ≤ w.heap.size + 1; omega) _).setCell (p := ⟨w.heap.size + 1, 2, none⟩) (by show w.heap.size ≤ w.heap.size + 1; omega) _
        rw [hWF]
        exact bodyPost_ret (v := .tuple #[.agg #[.int .i64 0, .int .i64 0, .slice none 0 0], .int .i64 4]) (results_row_tmp Tryz.results147 _ _ (w.heap.size + 1) 54 _ (0, 0) _ rfl rF Tryz.underlying54 rfl (by kernel_rfl)) rfl ⟨rfl, bF⟩
end Go.Proofs.YtfdkmmllemkogaaGreatDoor

/-
  Variables that hold maps: what a store of a map into one of them keeps.
-/

namespace Go.Proofs.YtfdkmmllemkogaaGreatDoor
open Go.RowKit
set_option linter.unusedVariables false
set_option linter.unusedSimpArgs false

/-- A world in which one block alone is another one. -/
structure OneBlk (w w' : World) (B : Nat) : Prop where
  other : ∀ k, k ≠ B → w'.heap[k]? = w.heap[k]?
  size : w'.heap.size = w.heap.size
theorem OneBlk.set3 (w : World) (B : Nat) (x y z : Value) : OneBlk w (((w.setCell ⟨B, 0, none⟩ x).setCell ⟨B, 1, none⟩ y).setCell ⟨B, 2, none⟩ z) B :=
  ⟨fun k hk => by simp [World.setCell, Array.getElem?_modify, Ne.symm hk], by simp⟩
theorem below_set3 {w w0 : World} {N B : Nat} (h : Below N w0 w) (hB : N ≤ B) (x y z : Value) : Below N w0 (((w.setCell ⟨B, 0, none⟩ x).setCell ⟨B, 1, none⟩ y).setCell ⟨B, 2, none⟩ z) :=
  ((h.setCell (p := ⟨B, 0, none⟩) hB _).setCell (p := ⟨B, 1, none⟩) hB _).setCell (p := ⟨B, 2, none⟩) hB _

/-- A result stays where a variable that holds a map is written. -/
theorem ResV.stored {w w' : World} {B : Nat} {x y : Int} {s : Value} {T : TypeId} (hB : w.heap[B]? = Option.some (.cells #[.int .i64 x, .int .i64 y, s] T (0, 0))) (ho : OneBlk w w' B) {r W H : Int} {ls : List Int} {X Y : Int} {a : Option Addr} {n c : Nat}
    (h : ResV w r W H ls X Y a n c) : ResV w' r W H ls X Y a n c :=
  ⟨h.bad, fun h0 => by
    obtain ⟨h1, h2, h3, h4, h5, g, h6, h7, h8⟩ := h.ok h0
    refine ⟨h1, h2, h3, h4, h5, g, h6, by rw [ho.size]; exact h7, fun j hj => ?_⟩
    by_cases hg : g = B
    · subst hg
      have h9 := h8 0 (by omega)
      rw [cell_of_row w g 0 _ _ (0, 0) hB] at h9
      simp at h9
    · rw [World.cell?_of_block (ho.other g hg)]
      exact h8 j hj⟩

/-- A variable that holds a result. -/
def ResBox (w : World) (B : Nat) (T : TypeId) (r W H : Int) (ls : List Int) : Prop :=
  ∃ X Y a n c, w.heap[B]? = some (.cells #[.int .i64 X, .int .i64 Y, .slice a n c] T (0, 0)) ∧ ResV w r W H ls X Y a n c
theorem ResBox.kept {w w' : World} {B : Nat} {T : TypeId} {r W H : Int} {ls : List Int} (h : ResBox w B T r W H ls) (hb : Below w.heap.size w w') : ResBox w' B T r W H ls := by
  obtain ⟨X, Y, a, n, c, h1, h2⟩ := h
  exact ⟨_, _, _, _, _, (hb.block _ (lt_of_blk h1)).trans h1, h2.kept hb⟩
theorem ResBox.new {w : World} {T : TypeId} {r W H : Int} {ls : List Int} {X Y : Int} {a : Option Addr} {n c : Nat} (h : ResV w r W H ls X Y a n c) : ResBox (w.alloc (.cells #[.int .i64 X, .int .i64 Y, .slice a n c] T)) w.heap.size T r W H ls :=
  ⟨_, _, _, _, _, blk_alloc_new _ _, h.kept ((Below.refl _ _).alloc (Nat.le_refl _) _)⟩

theorem ResBox.put {w : World} {B : Nat} {T : TypeId} {x y : Int} {s : Value} (hB : w.heap[B]? = some (.cells #[.int .i64 x, .int .i64 y, s] T (0, 0))) {r W H : Int} {ls : List Int} {X Y : Int} {a : Option Addr} {n c : Nat}
    (h : ResV w r W H ls X Y a n c) : ResBox (((w.setCell ⟨B, 0, none⟩ (.int .i64 X)).setCell ⟨B, 1, none⟩ (.int .i64 Y)).setCell ⟨B, 2, none⟩ (.slice a n c)) B T r W H ls :=
  ⟨_, _, _, _, _, blk_set3 hB _ _ _, h.stored hB (OneBlk.set3 w B _ _ _)⟩

/-- A variable of the reference that holds what a result must be, where there is no error. -/
def WantBox (w : World) (B : Nat) (r W H : Int) (ls : List Int) : Prop :=
  ∃ X Y a n c, w.heap[B]? = some (.cells #[.int .i64 X, .int .i64 Y, .slice a n c] 48 (0, 0)) ∧ (r = 0 → ResV w r W H ls X Y a n c)
theorem WantBox.kept {w w' : World} {B : Nat} {r W H : Int} {ls : List Int} (h : WantBox w B r W H ls) (hb : Below w.heap.size w w') : WantBox w' B r W H ls := by
  obtain ⟨X, Y, a, n, c, h1, h2⟩ := h
  exact ⟨_, _, _, _, _, (hb.block _ (lt_of_blk h1)).trans h1, fun h0 => (h2 h0).kept hb⟩
theorem WantBox.zero {w : World} {B : Nat} {r W H : Int} {ls : List Int} (h : w.heap[B]? = some (.cells #[.int .i64 0, .int .i64 0, .slice none 0 0] 48 (0, 0))) (hr : r ≠ 0) : WantBox w B r W H ls :=
  ⟨0, 0, none, 0, 0, h, fun h0 => absurd h0 hr⟩
/-- Another variable is written. -/
theorem WantBox.stored {w w' : World} {B B' : Nat} {x y : Int} {s : Value} {T : TypeId} (hB : w.heap[B]? = some (.cells #[.int .i64 x, .int .i64 y, s] T (0, 0))) (ho : OneBlk w w' B) (hne : B' ≠ B) {r W H : Int} {ls : List Int}
    (h : WantBox w B' r W H ls) : WantBox w' B' r W H ls := by
  obtain ⟨X, Y, a, n, c, h1, h2⟩ := h
  exact ⟨_, _, _, _, _, (ho.other _ hne).trans h1, fun h0 => (h2 h0).stored hB ho⟩
/-- The variable itself is written. -/
theorem WantBox.put {w : World} {B : Nat} {x y : Int} {s : Value} (hB : w.heap[B]? = some (.cells #[.int .i64 x, .int .i64 y, s] 48 (0, 0))) {r W H : Int} {ls : List Int} {X Y : Int} {a : Option Addr} {n c : Nat}
    (h : r = 0 → ResV w r W H ls X Y a n c) : WantBox (((w.setCell ⟨B, 0, none⟩ (.int .i64 X)).setCell ⟨B, 1, none⟩ (.int .i64 Y)).setCell ⟨B, 2, none⟩ (.slice a n c)) B r W H ls :=
  ⟨_, _, _, _, _, blk_set3 hB _ _ _, fun h0 => (h h0).stored hB (OneBlk.set3 w B _ _ _)⟩
end Go.Proofs.YtfdkmmllemkogaaGreatDoor

/-
  Texts: the reference's parsed of every string and index.
-/

namespace Go.Proofs.YtfdkmmllemkogaaGreatDoor
open Go.RowKit
set_option linter.unusedVariables false
set_option linter.unusedSimpArgs false

theorem is_map (x : ByteArray) : (x.toList == [109, 97, 112]) = decide (x = mapW) := by
  rw [← bytes_eq, show mapW.toList = [109, 97, 112] from by rw [ByteArray.toList_eq]; rfl]
theorem is_row (x : ByteArray) : (x.toList == [114, 111, 119]) = decide (x = rowW) := by
  rw [← bytes_eq, show rowW.toList = [114, 111, 119] from by rw [ByteArray.toList_eq]; rfl]
theorem owns_mono2 {w : World} {B B' e sz n : Nat} {v : Value} {xs : List Value} (h : w.ownsRow B e sz v n xs) (hb : B' ≤ B) : w.ownsRow B' e sz v n xs := owns_base h hb

set_option maxRecDepth 100000 in
set_option maxHeartbeats 6400000 in
theorem refParsed_any (s : ByteArray) (j : Nat) (w : World) (hm : s.size ≤ 1099511627776) (hj : j ≤ 1099511627776) :
    Calls Tryz.prog 192 #[.string s, .int .i64 j] w fun e w' => LinePost w j (splitL s 32) e w' := by
  obtain ⟨i0, hi, hz0, hz1, hz2⟩ := info_parts Tryz.infoInt
  have KS := Lib.hid (refSplit_any s 32 w hm (by decide) (by decide))
  have KN : Hid (∀ (x : ByteArray) (w : World), x.size ≤ maxLen → Calls Tryz.prog 225 #[.string x] w fun e w' => e = .returned (intR x) ∧ w = w') := Lib.hid fun x w h => refSigned_any x w h
  have hsz := Lib.hid (fun x (h : x ∈ splitL s 32) => show x.size ≤ maxLen from by have := splitL_size h; unfold maxLen; omega)
  obtain ⟨n1, n2⟩ := splitL_len s 32
  obtain ⟨L, hL⟩ : ∃ L, splitL s 32 = L := ⟨_, rfl⟩
  rw [hL] at KS hsz n1 n2 ⊢
  clear hL
  obtain ⟨x0, hx0⟩ : ∃ x, L[0]? = some x := ⟨L[0]'n1, List.getElem?_eq_getElem _⟩
  obtain ⟨n, hn⟩ : ∃ n, L.length = n := ⟨_, rfl⟩
  have HN := Lib.hid hn
  rw [hn] at n1 n2 KS
  have hx1 : (L.map Value.string)[0]? = some (.string x0) := by rw [List.getElem?_map, hx0]; rfl
  have HX := Lib.hid hx0
  have HX1 := Lib.hid hx1
  clear hx1
  by_cases hlen : n < 2
  · have H := Lib.hid (show ¬ lineP j L from fun h => by have := h.1; omega)
    clear hn hx0
    go_enter Tryz.func192, Tryz.ntmps192
    go_wp2_with (go_at_call 102; refine KS.out.mono ?_; rintro e w1 ⟨u, rfl, hu, hb1⟩; obtain ⟨g, c, rfl, hg1, hg2⟩ := owns_some hu n1; have hc0 := owns_cell hu HX1.out; have HB := Lib.hid hb1; have HU := Lib.hid hu; clear hu hb1)
    go_ret2
    exact line_no H.out HB.out
  have hcase : (j = 0 ∧ (x0.toList == [109, 97, 112]) = false ∧ ¬ lineP j L) ∨ (j = 0 ∧ (x0.toList == [109, 97, 112]) = true ∧ n ≠ 3 ∧ ¬ lineP j L)
      ∨ (0 < j ∧ (x0.toList == [114, 111, 119]) = false ∧ ¬ lineP j L)
      ∨ (j = 0 ∧ (x0.toList == [109, 97, 112]) = true ∧ n = 3) ∨ (0 < j ∧ (x0.toList == [114, 111, 119]) = true) := by
    rw [is_map, is_row]
    by_cases h0 : j = 0
    · by_cases hx : x0 = mapW
      · by_cases h3 : n = 3
        · exact .inr (.inr (.inr (.inl ⟨h0, decide_eq_true hx, h3⟩)))
        · exact .inr (.inl ⟨h0, decide_eq_true hx, h3, fun h => h3 (by rw [← hn]; exact (h.2.1 h0).2)⟩)
      · exact .inl ⟨h0, decide_eq_false hx, fun h => hx (by have := (h.2.1 h0).1; rw [hx0] at this; exact Option.some.inj this)⟩
    · by_cases hx : x0 = rowW
      · exact .inr (.inr (.inr (.inr ⟨by omega, decide_eq_true hx⟩)))
      · exact .inr (.inr (.inl ⟨by omega, decide_eq_false hx, fun h => hx (by have := h.2.2.1 (by omega); rw [hx0] at this; exact Option.some.inj this)⟩))
  have hfin : Hid ((j = 0 → x0 = mapW ∧ n = 3) → (0 < j → x0 = rowW) → (∀ i x, i < n → 1 ≤ i → L[i]? = some x → intB x = true) → lineP j L) := Lib.hid fun h1 h2 h3 =>
    ⟨by omega, fun h => ⟨by rw [hx0, (h1 h).1], by rw [hn, (h1 h).2]⟩, fun h => by rw [hx0, h2 h], fun x hx => by
      obtain ⟨i, hi⟩ := List.getElem?_of_mem hx
      rw [List.getElem?_drop] at hi
      have hl := (List.getElem?_eq_some_iff.1 hi).1
      exact h3 (1 + i) x (by omega) (by omega) hi⟩
  clear hn hx0
  rcases hcase with ⟨h0, e1, H⟩ | ⟨h0, e1, h3, H⟩ | ⟨h0, e1, H⟩ | hgo
  · have HH := Lib.hid H
    have ej : ((j : Int) == 0) = true := by simp [h0]
    clear H
    go_enter Tryz.func192, Tryz.ntmps192
    go_wp2_with (go_at_call 102; refine KS.out.mono ?_; rintro e w1 ⟨u, rfl, hu, hb1⟩; obtain ⟨g, c, rfl, hg1, hg2⟩ := owns_some hu n1; have hc0 := owns_cell hu HX1.out; have HB := Lib.hid hb1; have HU := Lib.hid hu; clear hu hb1)
    go_ret2
    exact line_no HH.out HB.out
  · have HH := Lib.hid H
    have ej : ((j : Int) == 0) = true := by simp [h0]
    have e3 : ((n : Int) == 3) = false := by simp; omega
    have e3b : ((n : Int) != 3) = true := by simp; omega
    clear H
    go_enter Tryz.func192, Tryz.ntmps192
    go_wp2_with (go_at_call 102; refine KS.out.mono ?_; rintro e w1 ⟨u, rfl, hu, hb1⟩; obtain ⟨g, c, rfl, hg1, hg2⟩ := owns_some hu n1; have hc0 := owns_cell hu HX1.out; have HB := Lib.hid hb1; have HU := Lib.hid hu; clear hu hb1)
    go_ret2
    exact line_no HH.out HB.out
  · have HH := Lib.hid H
    have ej : ((j : Int) == 0) = false := by simp; omega
    have ej2 : 0 < (j : Int) := by omega
    clear H
    go_enter Tryz.func192, Tryz.ntmps192
    go_wp2_with (go_at_call 102; refine KS.out.mono ?_; rintro e w1 ⟨u, rfl, hu, hb1⟩; obtain ⟨g, c, rfl, hg1, hg2⟩ := owns_some hu n1; have hc0 := owns_cell hu HX1.out; have HB := Lib.hid hb1; have HU := Lib.hid hu; clear hu hb1)
    go_ret2
    exact line_no HH.out HB.out
  have hall : Hid ((∀ i x, i < n → 1 ≤ i → L[i]? = some x → intB x = true) → lineP j L) := Lib.hid (hfin.out
    (fun h => by
      rcases hgo with ⟨_, h2, h3⟩ | ⟨h1, _⟩
      · rw [is_map] at h2; exact ⟨of_decide_eq_true h2, h3⟩
      · omega)
    (fun h => by
      rcases hgo with ⟨h1, _, _⟩ | ⟨_, h2⟩
      · omega
      · rw [is_row] at h2; exact of_decide_eq_true h2))
  have hcond : (((j : Int) == 0) = true ∧ ¬ (0 < (j : Int)) ∧ (x0.toList == [109, 97, 112]) = true ∧ ((n : Int) == 3) = true ∧ ((n : Int) != 3) = false) ∨ (((j : Int) == 0) = false ∧ 0 < (j : Int) ∧ (x0.toList == [114, 111, 119]) = true) := by
    rcases hgo with ⟨h1, h2, h3⟩ | ⟨h1, h2⟩
    · exact .inl ⟨by simp [h1], by omega, h2, by simp [h3], by simp [h3]⟩
    · exact .inr ⟨by simp; omega, by omega, h2⟩
  clear hgo hfin
  rcases hcond with ⟨ej, ej2, e1, e3, e3b⟩ | ⟨ej, ej2, e1⟩
  all_goals
    go_enter Tryz.func192, Tryz.ntmps192
    go_wp2_with (go_at_call 102; refine KS.out.mono ?_; rintro e w1 ⟨u, rfl, hu, hb1⟩; obtain ⟨g, c, rfl, hg1, hg2⟩ := owns_some hu n1; have hc0 := owns_cell hu HX1.out; have HB := Lib.hid hb1; have HU := Lib.hid hu; clear hu hb1)
    clear hc0 e1
    go_loopw [7, 8] (fun out i wr => ∃ k : Nat, 1 ≤ k ∧ k ≤ n ∧ i = .int .i64 k ∧ wr.ownsRow w1.heap.size 3 1 out (k - 1) ((lineV L).take (k - 1)) ∧ Hid (∀ i x, i < k → 1 ≤ i → L[i]? = some x → intB x = true) ∧ Below w1.heap.size w1 wr)
      (fun _ i _ => n - (intOf i).toNat)
    case atStart => exact ⟨1, Nat.le_refl _, n1, rfl, World.ownsRow_nil _ _ _ _, Lib.hid (fun i x h1 h2 => by omega), Below.refl _ _⟩
    case round =>
      obtain ⟨k, hk1, hk, rfl, hown, hT, hnx⟩ := hrel
      have hsz1 : w1.heap.size ≤ wr.heap.size := hnx.size
      by_cases hlt : k < n
      · obtain ⟨x, hx⟩ : ∃ x, L[k]? = some x := ⟨L[k]'(by rw [HN.out]; exact hlt), List.getElem?_eq_getElem _⟩
        have hcell : wr.cell? ⟨g, k, none⟩ = some (.string x) := by
          rw [Below.cell hnx hg1]
          exact owns_cell HU.out (by rw [List.getElem?_map, hx]; rfl)
        have K := Lib.hid (fun w => KN.out x w (hsz.out x (List.mem_of_getElem? hx)))
        by_cases hb : intB x = true
        · have HI := Lib.hid (intR_yes hb)
          have HT := Lib.hid (show ∀ i x, i < k + 1 → 1 ≤ i → L[i]? = some x → intB x = true from fun i y h1 h2 h3 => by
            by_cases e : i = k
            · subst e; rw [hx] at h3; cases h3; exact hb
            · exact hT.out i y (by omega) h2 h3)
          have HS := Lib.hid (line_step hx hk1)
          obtain ⟨v, hv⟩ : ∃ v, intV x = v := ⟨_, rfl⟩
          rw [hv] at HI HS
          clear hb hx hT hv
          go_wp2_with (first
            | (go_at_call 225; refine (K.out _).mono ?_; rintro e w9 ⟨rfl, rfl⟩; rw [HI.out])
            | (at_builtin; refine wpList_append_own _ rfl (.tmp 57) (.tmp 59) 25 rfl w1.heap.size 3 i0 (.int .i64 0) 1 8 Tryz.underlying25 hi hz0 hz1 hz2 rfl (by decide) _ (k - 1) _ rfl (hown.alloc _) ⟨wr.heap.size, 0, none⟩ 1 1 [.int .i64 v] rfl rfl (cell_one_new _ _ _) (by intro u hu; simp at hu; subst hu; rfl) (by unfold maxLen; omega) (by omega) (by simp; omega) ?_; intro v' w3 hown3 hgrow3 _))
          have hlt' := hown.lt
          go_roundw
          case rel => exact ⟨k + 1, by omega, by omega, by go_num, by rw [show k + 1 - 1 = k - 1 + 1 by omega, show (lineV L).take (k - 1 + 1) = (lineV L).take (k - 1) ++ [.int .i64 v] from by rw [← HS.out, show k - 1 + 1 = k by omega]]; exact hown3, HT, (hnx.alloc hsz1 _).grown hgrow3 (by simp; omega) (fun q hq => (hlt' q hq).1)⟩
          case measure => first | (simp [intOf]; done) | (simp [intOf]; omega)
        · have hb : intB x = false := by simpa using hb
          have HI := Lib.hid (intR_bad hb)
          have H := Lib.hid (line_bad (j := j) hx hk1 hb)
          have HW := Lib.hid (Below.trans HB.out (Below.mono hnx (Below.size HB.out)))
          clear hb hx hT
          go_wp2_with (go_at_call 225; refine (K.out _).mono ?_; rintro e w9 ⟨rfl, rfl⟩; rw [HI.out])
          go_ret2
          exact line_no H.out HW.out
      · obtain rfl : k = n := by omega
        have H := Lib.hid (hall.out hT.out)
        have HW := Lib.hid (Below.trans HB.out (Below.mono hnx (Below.size HB.out)))
        have HO : Hid (wr.ownsRow w.heap.size 3 1 _ (L.length - 1) (lineV L)) := Lib.hid (owns_mono2 (by
          rw [HN.out]
          rw [List.take_of_length_le (by unfold lineV; rw [List.length_map, List.length_drop, HN.out]; omega)] at hown
          exact hown) (Below.size HB.out))
        clear hown hnx hT
        go_wp2
        go_ret2
        exact line_yes H.out HO.out HW.out
end Go.Proofs.YtfdkmmllemkogaaGreatDoor
