/-
  The fixed examples of chapter 1: maps that are written out, and the contracts of light's functions at them.
-/
import Derived.Test.YtfdkmmllemkogaaGreatDoorOZy
import Derived.Test.YtfdkmmllemkogaaGreatDoorOZt
import Derived.Test.YtfdkmmllemkogaaGreatDoorOZh
import Derived.Test.YtfdkmmllemkogaaGreatDoorOZf
import Derived.Test.YtfdkmmllemkogaaGreatDoorOZd
import Derived.Test.YtfdkmmllemkogaaGreatDoorOWv
import Derived.Test.YtfdkmmllemkogaaGreatDoorOZr
import Derived.Test.YtfdkmmllemkogaaGreatDoorOWf
import Derived.Deep.CutBlock
import Derived.Deep.DeepCutAuto
namespace Go.Proofs.YtfdkmmllemkogaaGreatDoor
open Go.RowKit Go.Shelf
set_option linter.unusedVariables false

/-- Samples in a block, by their integers. -/
def LitAt (w : World) (g n : Nat) (ks : List Int) : Prop := g < w.heap.size ∧ ∀ j, j < n → w.cell? ⟨g, j, none⟩ = some (.float .f32 (smpOf (ks[j]?.getD 0)))
theorem LitAt.below {N g n : Nat} {ks : List Int} {w w' : World} (h : LitAt w g n ks) (hb : Below N w w') (hg : g < N) : LitAt w' g n ks :=
  ⟨Nat.lt_of_lt_of_le h.1 hb.size, fun j hj => (hb.cell (p := ⟨g, j, none⟩) hg).trans (h.2 j hj)⟩
theorem LitAt.kept {g n : Nat} {ks : List Int} {w w' : World} (h : LitAt w g n ks) (hb : Below w.heap.size w w') : LitAt w' g n ks := h.below hb h.1
theorem lit_of {w : World} {g n : Nat} {f : Nat → Int} {L : List Int} (hg : g < w.heap.size) (hc : ∀ j, j < n → w.cell? ⟨g, j, none⟩ = some (.float .f32 (smpOf (f j)))) (hf : ∀ j, j < n → f j = L[j]?.getD 0) : LitAt w g n L :=
  ⟨hg, fun j hj => by rw [hc j hj, hf j hj]⟩
theorem lit_blk {w : World} {g : Nat} {T : TypeId} {fr : Nat × Nat} {ks : List Int} {a : Array Value} (h : w.heap[g]? = some (.cells a T fr)) (ha : (ks.map fun k => Value.float .f32 (smpOf k)).toArray = a) : LitAt w g ks.length ks := by
  subst ha
  refine ⟨(Array.getElem?_eq_some_iff.1 h).1, fun j hj => ?_⟩
  rw [Lib.cell_of_heap h, List.getElem?_toArray, List.getElem?_map, List.getElem?_eq_getElem hj]
  rfl
theorem LitAt.right {w : World} {g n : Nat} {ks : List Int} (h : LitAt w g n ks) (W H : Nat) (hl : ks.length = n) (hn : n ≤ 4096) (hs : ∀ j, j < n → (ks[j]?.getD 0).natAbs ≤ 16384) (hW : 1 ≤ W ∧ W ≤ 64) (hH : 1 ≤ H ∧ H ≤ 64) (ha : W * H = n) : RightMap w W H g 0 n (ks.map smpOf) ks := by
  have e : ∀ j, j < n → (ks.map smpOf)[j]?.getD 0 = smpOf (ks[j]?.getD 0) := fun j hj => by
    rw [List.getElem?_map, List.getElem?_eq_getElem (by omega)]; rfl
  have hlt : ∀ k : Int, k.natAbs < 2 ^ 24 → smpOf k < 2 ^ 32 := fun k hk => by
    have := floatBits_wf (smpOf_run k hk)
    simpa [Lit.wf] using this
  exact ⟨⟨by rw [List.length_map]; exact hl, hl, hn, fun j hj => by rw [Nat.zero_add, e j hj]; exact h.2 j hj, fun j hj => by rw [e j hj]; exact hlt _ (Nat.lt_of_le_of_lt (hs j hj) (by decide)), fun j hj => by rw [e j hj]; exact smpOf_smp _ (Nat.lt_of_le_of_lt (hs j hj) (by decide)), hs⟩, by omega, by omega, by rw [← ha]; push_cast; rfl⟩

/-- The document's map M. -/
def tabK : List Int := [16, 32, 48, 64, 80, 96]
abbrev mapV (W H : Int) (g n : Nat) : Value := .agg #[.int .i64 W, .int .i64 H, .slice (some ⟨g, 0, none⟩) n n]
theorem tab_right {w : World} {g : Nat} (h : LitAt w g 6 tabK) : RightMap w (3 : Nat) (2 : Nat) g 0 6 (tabK.map smpOf) tabK := h.right 3 2 rfl (by omega) (by decide) (by omega) (by omega) rfl

set_option maxHeartbeats 1600000 in
theorem table_any (w : World) : Calls Tryz.prog 106 #[] w fun e w' => ∃ g, e = .returned (mapV 3 2 g 6) ∧ LitAt w' g 6 tabK ∧ Below w.heap.size w w' := by
  go_enter Tryz.func106, Tryz.ntmps106
  go_wp2
  refine bodyPost_ret (v := mapV 3 2 (w.heap.size + 1) 6) (by simp [results, Tryz.results106, go_sem]) rfl ⟨_, rfl, ?_, ?_⟩
  · refine lit_blk (T := 23) (fr := (0, 0)) (ks := tabK) (a := #[.float .f32 1065353216, .float .f32 1073741824, .float .f32 1077936128, .float .f32 1082130432, .float .f32 1084227584, .float .f32 1086324736]) ?_ (by kernel_rfl)
    exact blk_alloc_at _ _ (by simp)
  · exact ((Below.refl _ w).alloc (Nat.le_refl _) _).alloc (by simp) _

set_option maxHeartbeats 1600000 in
theorem sameHas_any (W H : Int) (ga gb n c d : Nat) (ks : List Int) (w : World) (ha : LitAt w ga n ks) (hb : LitAt w gb n ks) (hl : ks.length = n) (hn : n ≤ 4096) (hs : ∀ j, j < n → (ks[j]?.getD 0).natAbs ≤ 16384) :
    Calls Tryz.prog 107 #[.agg #[.int .i64 W, .int .i64 H, .slice (some ⟨ga, 0, none⟩) n c], .int .i64 W, .int .i64 H, .slice (some ⟨gb, 0, none⟩) n d] w fun e w' => e = .returned (.bool true) ∧ Below w.heap.size w w' := by
  obtain ⟨W0, hW0⟩ : ∃ W0, w.alloc (.cells #[.int .i64 W, .int .i64 H, .slice (some ⟨ga, 0, none⟩) n c] 54) = W0 := ⟨_, rfl⟩
  have hB0 : Below w.heap.size w W0 := by rw [← hW0]; exact (Below.refl _ w).alloc (Nat.le_refl _) _
  have hS0 : W0.heap.size = w.heap.size + 1 := by rw [← hW0]; simp
  have a0 : W0.cell? ⟨w.heap.size, 0, none⟩ = some (.int .i64 W) := by rw [← hW0]; simp [go_sem]
  have a1 : W0.cell? ⟨w.heap.size, 1, none⟩ = some (.int .i64 H) := by rw [← hW0]; simp [go_sem]
  have a2 : W0.cell? ⟨w.heap.size, 2, none⟩ = some (.slice (some ⟨ga, 0, none⟩) n c) := by rw [← hW0]; simp [go_sem]
  have e : ∀ j, j < n → (ks.map smpOf)[j]?.getD 0 = smpOf (ks[j]?.getD 0) := fun j hj => by
    rw [List.getElem?_map, List.getElem?_eq_getElem (by omega)]; rfl
  have hA := ha.kept hB0
  have hB := hb.kept hB0
  have K := Lib.hid (sameSamples_any (w := W0) ga 0 c gb 0 d n (ks.map smpOf) (ks.map smpOf) ks hn hA.1 hB.1 (fun j hj => by rw [Nat.zero_add, e j hj]; exact hA.2 j hj) (fun j hj => by rw [Nat.zero_add, e j hj]; exact hB.2 j hj)
    (fun j hj => by rw [e j hj]; exact smpOf_smp _ (Nat.lt_of_le_of_lt (hs j hj) (by decide))) (fun j hj => by rw [e j hj]; exact smpOf_smp _ (Nat.lt_of_le_of_lt (hs j hj) (by decide))))
  have t1 : (W == W) = true := by simp
  have t2 : (H == H) = true := by simp
  have HB0 := Lib.hid hB0
  clear ha hb hA hB hB0 e hs hl
  go_enter Tryz.func107, Tryz.ntmps107
  go_upto_region 1 with fail
  try rw [hW0]
  clear hW0
  go_wp2_with ((go_at_call 193; refine K.out.mono ?_; rintro e w1 ⟨rfl, hb1⟩))
  go_ret
  exact ⟨rfl, HB0.out.trans (hb1.mono (by omega))⟩

section
variable (w : World)
theorem at_lit {g : Nat} (h : LitAt w g 6 tabK) : Calls Tryz.prog 37 #[mapV 3 2 g 6, .agg #[.int .i64 2, .int .i64 1]] w fun e w' => e = .returned (.tuple #[.float .f32 1086324736, .int .i64 0]) ∧ Below w.heap.size w w' :=
  (lightAt_any 3 2 g 0 6 6 _ _ w (tab_right h) h.1 2 1 (by omega) (by omega)).mono fun e w' ⟨he, hw⟩ => ⟨by rw [he, show smpOf (tabK[1 * 3 + 2]?.getD 0) = 1086324736 by kernel_rfl], hw⟩
theorem total_lit {g : Nat} (h : LitAt w g 6 tabK) : Calls Tryz.prog 39 #[mapV 3 2 g 6] w fun e w' => e = .returned (.tuple #[.int .i64 336, .int .i64 0]) ∧ Below w.heap.size w w' :=
  (total_any 3 2 g 0 6 6 _ _ w (tab_right h) h.1).mono fun e w' ⟨he, hw⟩ => ⟨by rw [he, show tabK.sum = 336 by decide], hw⟩
theorem peak_lit {g : Nat} (h : LitAt w g 6 tabK) : Calls Tryz.prog 40 #[mapV 3 2 g 6] w fun e w' => e = .returned (.tuple #[.float .f32 1086324736, .agg #[.int .i64 2, .int .i64 1], .int .i64 0]) ∧ Below w.heap.size w w' :=
  (peak_any 3 2 g 0 6 6 _ _ w (tab_right h) h.1).mono fun e w' ⟨he, hw⟩ => ⟨by
    rw [he, show peakTo 3 tabK (placesTo 3 (2 * 3)) = (2, 1) by decide +kernel]
    show Ending.returned (.tuple #[.float .f32 (smpOf (tabK[1 * 3 + 2]?.getD 0)), _, _]) = _
    rw [show smpOf (tabK[1 * 3 + 2]?.getD 0) = 1086324736 by kernel_rfl]; rfl, hw⟩
def partK : List Int := [80, 96]
theorem part_lit {g : Nat} (h : LitAt w g 6 tabK) : Calls Tryz.prog 49 #[mapV 3 2 g 6, .agg #[.int .i64 1, .int .i64 3], .agg #[.int .i64 1, .int .i64 2]] w fun e w' => ∃ g, e = .returned (.tuple #[mapV 2 1 g 2, .int .i64 0]) ∧ LitAt w' g 2 partK ∧ Below w.heap.size w w' :=
  (part_any 3 2 1 2 1 1 (by omega) (by omega) g 0 6 6 _ _ w (tab_right h) h.1).mono fun e w' ⟨g', he, hg, hc, hw⟩ => ⟨g', he, lit_of hg hc (by decide), hw⟩
def placedL : List Int := [0, 0, 0, 0, 0, 16, 32, 48, 0, 64, 80, 96]
theorem placed_lit {g : Nat} (h : LitAt w g 6 tabK) : Calls Tryz.prog 50 #[mapV 3 2 g 6, .int .i64 4, .int .i64 3, .agg #[.int .i64 1, .int .i64 1]] w fun e w' => ∃ g, e = .returned (.tuple #[mapV 4 3 g 12, .int .i64 0]) ∧ LitAt w' g 12 placedL ∧ Below w.heap.size w w' :=
  (placed_any 3 2 4 3 1 1 (by omega) (by omega) (by omega) (by omega) g 0 6 6 _ _ w (tab_right h) h.1).mono fun e w' ⟨g', he, hg, hc, hw⟩ => ⟨g', he, lit_of hg hc (by decide +kernel), hw⟩
def flippedL : List Int := [48, 32, 16, 96, 80, 64]
theorem flipped_lit {g : Nat} (h : LitAt w g 6 tabK) : Calls Tryz.prog 56 #[mapV 3 2 g 6] w fun e w' => ∃ g, e = .returned (.tuple #[mapV 3 2 g 6, .int .i64 0]) ∧ LitAt w' g 6 flippedL ∧ Below w.heap.size w w' :=
  (flipped_any 3 2 g 0 6 6 _ _ w (tab_right h) h.1).mono fun e w' ⟨g', he, hg, hc, hw⟩ => ⟨g', he, lit_of hg hc (by decide +kernel), hw⟩
def turnedL : List Int := [64, 16, 80, 32, 96, 48]
theorem turned_lit {g : Nat} (h : LitAt w g 6 tabK) : Calls Tryz.prog 57 #[mapV 3 2 g 6] w fun e w' => ∃ g, e = .returned (.tuple #[mapV 2 3 g 6, .int .i64 0]) ∧ LitAt w' g 6 turnedL ∧ Below w.heap.size w w' :=
  (turned_any 3 2 g 0 6 6 _ _ w (tab_right h) h.1).mono fun e w' ⟨g', he, hg, hc, hw⟩ => ⟨g', he, lit_of hg hc (by decide +kernel), hw⟩

def scK : List Int := [1, -1]
def scL : List Int := [1, 0]
theorem scaled_lit {g : Nat} (h : LitAt w g 2 scK) : Calls Tryz.prog 62 #[mapV 2 1 g 2, .int .i64 1, .int .i64 2] w fun e w' => ∃ g, e = .returned (.tuple #[mapV 2 1 g 2, .int .i64 0]) ∧ LitAt w' g 2 scL ∧ Below w.heap.size w w' :=
  (scaled_any 2 1 1 2 (by omega) (by omega) g 0 2 2 _ _ w (h.right 2 1 rfl (by omega) (by decide) (by omega) (by omega) rfl) h.1 (by decide +kernel)).mono fun e w' ⟨g', he, hg, hc, hw⟩ => ⟨g', he, lit_of hg hc (by decide +kernel), hw⟩
def sp1K : List Int := [0, 32, 0]
def sp1L : List Int := [8, 16, 8]
theorem get_bd {L : List Int} {M : Nat} (h : ∀ k ∈ L, k.natAbs ≤ M) (j : Nat) : (L[j]?.getD 0 : Int).natAbs ≤ M := by
  by_cases hj : j < L.length
  · rw [List.getElem?_eq_getElem hj]; exact h _ (List.getElem_mem hj)
  · rw [List.getElem?_eq_none (by omega)]; simp
theorem spread1_lit {g : Nat} (h : LitAt w g 3 sp1K) : Calls Tryz.prog 63 #[mapV 3 1 g 3, .int .i64 4] w fun e w' => ∃ g, e = .returned (.tuple #[mapV 3 1 g 3, .int .i64 0]) ∧ LitAt w' g 3 sp1L ∧ Below w.heap.size w w' := by
  have e : roundsTo 3 1 4 sp1K (placesTo 3 (1 * 3)) = sp1L := by decide +kernel
  exact (spread_any 3 1 4 (by omega) (by omega) g 0 3 3 _ _ w (h.right 3 1 rfl (by omega) (by decide) (by omega) (by omega) rfl) h.1 (by rw [e]; exact get_bd (by decide))).mono fun e' w' ⟨g', he, hg, hc, hw⟩ => ⟨g', he, lit_of hg hc (by intro j hj; rw [e]), hw⟩
def sp2K : List Int := [-1, 0]
def sp2L : List Int := [0, -1]
theorem spread2_lit {g : Nat} (h : LitAt w g 2 sp2K) : Calls Tryz.prog 63 #[mapV 2 1 g 2, .int .i64 1] w fun e w' => ∃ g, e = .returned (.tuple #[mapV 2 1 g 2, .int .i64 0]) ∧ LitAt w' g 2 sp2L ∧ Below w.heap.size w w' := by
  have e : roundsTo 2 1 1 sp2K (placesTo 2 (1 * 2)) = sp2L := by decide +kernel
  exact (spread_any 2 1 1 (by omega) (by omega) g 0 2 2 _ _ w (h.right 2 1 rfl (by omega) (by decide) (by omega) (by omega) rfl) h.1 (by rw [e]; exact get_bd (by decide))).mono fun e' w' ⟨g', he, hg, hc, hw⟩ => ⟨g', he, lit_of hg hc (by intro j hj; rw [e]), hw⟩
def biK : List Int := [16, 32, 48, 64]
def biL : List Int := [160]
theorem binned_lit {g : Nat} (h : LitAt w g 4 biK) : Calls Tryz.prog 64 #[mapV 2 2 g 4, .int .i64 2] w fun e w' => ∃ g, e = .returned (.tuple #[mapV 1 1 g 1, .int .i64 0]) ∧ LitAt w' g 1 biL ∧ Below w.heap.size w w' :=
  (binned_any 2 2 2 1 1 (by omega) (by omega) rfl rfl g 0 4 4 _ _ w (h.right 2 2 rfl (by omega) (by decide) (by omega) (by omega) rfl) h.1 (fun p => by
    have h1 := get_bd (L := biK) (M := 64) (by decide)
    have e : placesTo 2 (2 * 2) = [(0, 0), (1, 0), (0, 1), (1, 1)] := by decide +kernel
    rw [e]
    simp only [binTo, List.map_cons, List.map_nil, List.sum_cons, List.sum_nil, binCell]
    have a := h1 ((p.2 * 2 + 0) * 2 + (p.1 * 2 + 0))
    have b := h1 ((p.2 * 2 + 0) * 2 + (p.1 * 2 + 1))
    have c := h1 ((p.2 * 2 + 1) * 2 + (p.1 * 2 + 0))
    have d := h1 ((p.2 * 2 + 1) * 2 + (p.1 * 2 + 1))
    omega)).mono fun e w' ⟨g', he, hg, hc, hw⟩ => ⟨g', he, lit_of hg hc (by decide +kernel), hw⟩
def prK : List Int := [16, -8]
def prS : List UInt8 := [109, 97, 112, 32, 50, 32, 49, 10, 114, 111, 119, 32, 49, 54, 32, 45, 56, 10]
theorem itoa_one (u : Nat) (h : u < 10) : Lib.itoa u = [UInt8.ofNat (48 + u)] := by
  have e : Lib.decDigits u = [UInt8.ofNat (48 + u)] := by rw [Lib.decDigits, dif_pos h]
  unfold Lib.itoa
  rw [if_neg (by omega)]
  simpa using e
theorem itoa_two (u : Nat) (h : ¬ u < 10) (h2 : u / 10 < 10) : Lib.itoa u = [UInt8.ofNat (48 + u / 10), UInt8.ofNat (48 + u % 10)] := by
  have e1 : Lib.decDigits (u / 10) = [UInt8.ofNat (48 + u / 10)] := by rw [Lib.decDigits, dif_pos h2]
  have e : Lib.decDigits u = [UInt8.ofNat (48 + u / 10), UInt8.ofNat (48 + u % 10)] := by rw [Lib.decDigits, dif_neg h, e1]; rfl
  unfold Lib.itoa
  rw [if_neg (by omega)]
  simpa using e
theorem itoa_neg (u : Nat) (h : u < 10) (h0 : 0 < u) : Lib.itoa (-(u : Int)) = [45, UInt8.ofNat (48 + u)] := by
  have e : Lib.decDigits u = [UInt8.ofNat (48 + u)] := by rw [Lib.decDigits, dif_pos h]
  unfold Lib.itoa
  rw [if_pos (by omega)]
  simpa using e
theorem pr_text : textL 2 1 prK = prS := by
  have a := itoa_one 2 (by omega)
  have b := itoa_one 1 (by omega)
  have c := itoa_two 16 (by omega) (by omega)
  have d := itoa_neg 8 (by omega) (by omega)
  have r : rowOf 2 prK 0 = [16, -8] := rfl
  simp only [textL, rowsL, lineL, List.range, List.range.loop, List.flatMap_cons, List.flatMap_nil, r, List.map_cons, List.map_nil]
  rw [show Lib.itoa ((2 : Nat) : Int) = _ from a, show Lib.itoa ((1 : Nat) : Int) = _ from b, show Lib.itoa 16 = _ from c, show Lib.itoa (-8) = _ from d]
  simp only [Lib.join_cons, Lib.joinTail]
  decide
theorem print_lit {g : Nat} (h : LitAt w g 2 prK) (ht : TabAt w) : Calls Tryz.prog 92 #[mapV 2 1 g 2] w fun e w' => e = .returned (.tuple #[strV prS, .int .i64 0]) ∧ Below w.heap.size w w' :=
  (print_any 2 1 g 0 2 2 _ _ w (h.right 2 1 rfl (by omega) (by decide) (by omega) (by omega) rfl) h.1 ht).mono fun e w' ⟨he, hw⟩ => ⟨by rw [he, pr_text], hw⟩
theorem pack_lit {g : Nat} (h : LitAt w g 2 prK) : Calls Tryz.prog 88 #[mapV 2 1 g 2] w fun e w' => ∃ ao c, e = .returned (.tuple #[.slice ao 18 c, .int .i64 0]) ∧ Below w.heap.size w w' :=
  (pack_any 2 1 g 0 2 2 _ _ w (h.right 2 1 rfl (by omega) (by decide) (by omega) (by omega) rfl) h.1).mono fun e w' ⟨v, he, ho, hw⟩ => by
    obtain ⟨ao, c, rfl⟩ := owns_slice ho
    exact ⟨ao, c, he, hw⟩
theorem draw_lit : Calls Tryz.prog 20 #[.int .i64 1, .int .i64 2] w fun e w' => ∃ g c, e = .returned (.tuple #[.slice (some ⟨g, 0, none⟩) 2 c, .int .i64 0]) ∧ g < w'.heap.size ∧ (∀ j, j < 2 → w'.cell? ⟨g, j, none⟩ = some (.int .i64 (([1, 0] : List Int)[j]?.getD 0))) ∧ Below w.heap.size w w' :=
  (draw_any 1 2 (by omega) (by omega) w).mono fun e w' ⟨v, he, ho, hw⟩ => by
    obtain ⟨g, c, rfl, hg, _⟩ := owns_some ho (by omega)
    have e2 : drawL 1 2 = [1, 0] := by decide +kernel
    rw [e2] at ho
    exact ⟨g, c, he, hg, fun j hj => owns_cell ho (by
      match j, hj with
      | 0, _ => rfl
      | 1, _ => rfl), hw⟩
end
end Go.Proofs.YtfdkmmllemkogaaGreatDoor

/-
  The walk of awake, chapter 1's fixed examples: regions 1 to 3.
-/
namespace Go.Proofs.YtfdkmmllemkogaaGreatDoor
open Go.RowKit Go.Shelf
set_option linter.unusedVariables false
set_option linter.unusedSimpArgs false

def headsIt1 (n : Nat) : Code → Bool
  | .region m _ _ => m == n
  | .seq a _ => headsIt1 n a
  | .loop c => headsIt1 n c
  | .block _ c => headsIt1 n c
  | .scope c => headsIt1 n c
  | _ => false
/-- The code from the statement on that begins with a region. -/
def tailAt1 (n : Nat) : Code → Option Code
  | .seq a b => if headsIt1 n a then some (.seq a b) else match tailAt1 n b with
    | some c => some c
    | none => tailAt1 n a
  | .block _ c => tailAt1 n c
  | .scope c => tailAt1 n c
  | c => if headsIt1 n c then some c else none
noncomputable def awkOf (n : Nat) : Code := ((Tryz.f19.body.bind (tailAt1 n)).getD .skip)
def TruePost (w : World) (e : Ending) (w' : World) : Prop := e = .returned (.bool true) ∧ Below w.heap.size w w'

/-- A variable with a map that is written out; with the point 2, 1. -/
def MBox (w : World) (B : Nat) (W H : Int) (n : Nat) (L : List Int) : Prop := ∃ g, w.heap[B]? = some (.cells #[.int .i64 W, .int .i64 H, .slice (some ⟨g, 0, none⟩) n n] 54 (0, 0)) ∧ LitAt w g n L
theorem MBox.kept {w w' : World} {B : Nat} {W H : Int} {n : Nat} {L : List Int} (h : MBox w B W H n L) (hb : Below w.heap.size w w') : MBox w' B W H n L := by
  obtain ⟨g, h1, h2⟩ := h
  exact ⟨g, (hb.block _ (lt_of_blk h1)).trans h1, h2.kept hb⟩
theorem MBox.new {w : World} {W H : Int} {g n : Nat} {L : List Int} (h : LitAt w g n L) : MBox (w.alloc (.cells #[.int .i64 W, .int .i64 H, .slice (some ⟨g, 0, none⟩) n n] 54)) w.heap.size W H n L :=
  ⟨g, blk_alloc_new _ _, h.kept ((Below.refl _ w).alloc (Nat.le_refl _) _)⟩
def PBox (w : World) (B : Nat) : Prop := w.heap[B]? = some (.cells #[.int .i64 2, .int .i64 1] 50 (0, 0))
theorem PBox.kept {w w' : World} {B : Nat} (h : PBox w B) (hb : Below w.heap.size w w') : PBox w' B := (hb.block _ (lt_of_blk h)).trans h
theorem PBox.new (w : World) : PBox (w.alloc (.cells #[.int .i64 2, .int .i64 1] 50)) w.heap.size := blk_alloc_new _ _

set_option maxRecDepth 1000000 in
/-- What is still to be shown where the walk stands ahead of region 1. -/
def Awk1 (w : World) : Prop :=
  ∀ (wx : World) (u1 u2 u3 u4 u5 u6 u7 u8 u9 u10 u11 u12 u13 u14 u15 u16 u17 u18 u19 u20 u21 u22 u23 u24 u25 u26 u27 u28 u29 u30 u31 u32 u33 u34 u35 u36 u37 u38 u39 u40 u41 u42 u43 u44 u45 u46 u47 u48 u49 u50 u51 u52 u53 u54 u55 u56 u57 u58 u59 u60 u61 u62 u63 u64 u65 u66 u67 u68 u69 u70 u71 u72 u73 u74 u75 u76 u77 u78 u79 u80 u81 u82 u83 u84 u85 u86 u87 u88 u89 u90 u91 u92 u93 u94 u95 u96 u97 u98 u99 u100 u101 u102 u103 u104 u105 u106 u107 u108 u109 u110 u111 u112 u113 u114 u115 u116 u117 u118 u119 u120 u121 u122 u123 u124 u125 u126 u127 u128 u129 u130 u131 u132 u133 u134 u135 u136 u137 u138 u139 u140 u141 u142 u143 u144 u145 u146 u147 u148 u149 u150 u151 u152 u153 u154 u155 u156 u157 u158 u159 u160 u161 u162 u163 u164 u165 u166 u167 u168 u169 u170 u171 u172 u173 u174 u175 u176 u177 u178 u179 u180 u181 u182 u183 u184 u185 u186 u187 u188 u189 u190 u191 u192 u193 u194 u195 u196 u197 u198 u199 u200 u201 u202 u203 u204 u205 u206 u207 u208 u209 u210 u211 u212 u213 u214 u215 u216 u217 u218 u219 u220 u221 u222 u223 u224 u225 u226 u227 u228 u229 u230 u231 u232 u233 u234 u235 u236 u237 u238 u239 u240 u241 u242 u243 u244 u245 u246 u247 u248 u249 u250 u251 u252 u253 u254 u255 u256 : Value), Below w.heap.size w wx → Code.wp Tryz.prog (awkOf 1) (bodyPost Tryz.prog Tryz.f19 (TruePost w)) ⟨#[.bool false, u1, u2, u3, u4, u5, u6, u7, u8, u9, u10, u11, u12, u13, u14, u15, u16, u17, u18, u19, u20, u21, u22, u23, u24, u25, u26, u27, u28, u29, u30, u31, u32, u33, u34, u35, u36, u37, u38, u39, u40, u41, u42, u43, u44, u45, u46, u47, u48, u49, u50, u51, u52, u53, u54, u55, u56, u57, u58, u59, u60, u61, u62, u63, u64, u65, u66, u67, u68, u69, u70, u71, u72, u73, u74, u75, u76, u77, u78, u79, u80, u81, u82, u83, u84, u85, u86, u87, u88, u89, u90, u91, u92, u93, u94, u95, u96, u97, u98, u99, u100, u101, u102, u103, u104, u105, u106, u107, u108, u109, u110, u111, u112, u113, u114, u115, u116, u117, u118, u119, u120, u121, u122, u123, u124, u125, u126, u127, u128, u129, u130, u131, u132, u133, u134, u135, u136, u137, u138, u139, u140, u141, u142, u143, u144, u145, u146, u147, u148, u149, u150, u151, u152, u153, u154, u155, u156, u157, u158, u159, u160, u161, u162, u163, u164, u165, u166, u167, u168, u169, u170, u171, u172, u173, u174, u175, u176, u177, u178, u179, u180, u181, u182, u183, u184, u185, u186, u187, u188, u189, u190, u191, u192, u193, u194, u195, u196, u197, u198, u199, u200, u201, u202, u203, u204, u205, u206, u207, u208, u209, u210, u211, u212, u213, u214, u215, u216, u217, u218, u219, u220, u221, u222, u223, u224, u225, u226, u227, u228, u229, u230, u231, u232, u233, u234, u235, u236, u237, u238, u239, u240, u241, u242, u243, u244, u245, u246, u247, u248, u249, u250, u251, u252, u253, u254, u255, u256], []⟩ wx

set_option maxRecDepth 1000000 in
/-- What is still to be shown where the walk stands ahead of region 2. -/
def Awk2 (w : World) : Prop :=
  ∀ (wx : World) (u3 u4 u5 u6 u7 u8 u9 u10 u11 u12 u13 u14 u15 u16 u17 u18 u19 u20 u21 u22 u23 u24 u25 u26 u27 u28 u29 u30 u31 u32 u33 u34 u35 u36 u37 u38 u39 u40 u41 u42 u43 u44 u45 u46 u47 u48 u49 u50 u51 u52 u53 u54 u55 u56 u57 u58 u59 u60 u61 u62 u63 u64 u65 u66 u67 u68 u69 u70 u71 u72 u73 u74 u75 u76 u77 u78 u79 u80 u81 u82 u83 u84 u85 u86 u87 u88 u89 u90 u91 u92 u93 u94 u95 u96 u97 u98 u99 u100 u101 u102 u103 u104 u105 u106 u107 u108 u109 u110 u111 u112 u113 u114 u115 u116 u117 u118 u119 u120 u121 u122 u123 u124 u125 u126 u127 u128 u129 u130 u131 u132 u133 u134 u135 u136 u137 u138 u139 u140 u141 u142 u143 u144 u145 u146 u147 u148 u149 u150 u151 u152 u153 u154 u155 u156 u157 u158 u159 u160 u161 u162 u163 u164 u165 u166 u167 u168 u169 u170 u171 u172 u173 u174 u175 u176 u177 u178 u179 u180 u181 u182 u183 u184 u185 u186 u187 u188 u189 u190 u191 u192 u193 u194 u195 u196 u197 u198 u199 u200 u201 u202 u203 u204 u205 u206 u207 u208 u209 u210 u211 u212 u213 u214 u215 u216 u217 u218 u219 u220 u221 u222 u223 u224 u225 u226 u227 u228 u229 u230 u231 u232 u233 u234 u235 u236 u237 u238 u239 u240 u241 u242 u243 u244 u245 u246 u247 u248 u249 u250 u251 u252 u253 u254 u255 u256 : Value), Below w.heap.size w wx → Code.wp Tryz.prog (awkOf 2) (bodyPost Tryz.prog Tryz.f19 (TruePost w)) ⟨#[.bool false, .float .f32 1086324736, .int .i64 0, u3, u4, u5, u6, u7, u8, u9, u10, u11, u12, u13, u14, u15, u16, u17, u18, u19, u20, u21, u22, u23, u24, u25, u26, u27, u28, u29, u30, u31, u32, u33, u34, u35, u36, u37, u38, u39, u40, u41, u42, u43, u44, u45, u46, u47, u48, u49, u50, u51, u52, u53, u54, u55, u56, u57, u58, u59, u60, u61, u62, u63, u64, u65, u66, u67, u68, u69, u70, u71, u72, u73, u74, u75, u76, u77, u78, u79, u80, u81, u82, u83, u84, u85, u86, u87, u88, u89, u90, u91, u92, u93, u94, u95, u96, u97, u98, u99, u100, u101, u102, u103, u104, u105, u106, u107, u108, u109, u110, u111, u112, u113, u114, u115, u116, u117, u118, u119, u120, u121, u122, u123, u124, u125, u126, u127, u128, u129, u130, u131, u132, u133, u134, u135, u136, u137, u138, u139, u140, u141, u142, u143, u144, u145, u146, u147, u148, u149, u150, u151, u152, u153, u154, u155, u156, u157, u158, u159, u160, u161, u162, u163, u164, u165, u166, u167, u168, u169, u170, u171, u172, u173, u174, u175, u176, u177, u178, u179, u180, u181, u182, u183, u184, u185, u186, u187, u188, u189, u190, u191, u192, u193, u194, u195, u196, u197, u198, u199, u200, u201, u202, u203, u204, u205, u206, u207, u208, u209, u210, u211, u212, u213, u214, u215, u216, u217, u218, u219, u220, u221, u222, u223, u224, u225, u226, u227, u228, u229, u230, u231, u232, u233, u234, u235, u236, u237, u238, u239, u240, u241, u242, u243, u244, u245, u246, u247, u248, u249, u250, u251, u252, u253, u254, u255, u256], []⟩ wx

set_option maxRecDepth 1000000 in
/-- What is still to be shown where the walk stands ahead of region 3. -/
def Awk3 (w : World) : Prop :=
  ∀ (wx : World) (u5 u6 u7 u8 u9 u10 u11 u12 u13 u14 u15 u16 u17 u18 u19 u20 u21 u22 u23 u24 u25 u26 u27 u28 u29 u30 u31 u32 u33 u34 u35 u36 u37 u38 u39 u40 u41 u42 u43 u44 u45 u46 u47 u48 u49 u50 u51 u52 u53 u54 u55 u56 u57 u58 u59 u60 u61 u62 u63 u64 u65 u66 u67 u68 u69 u70 u71 u72 u73 u74 u75 u76 u77 u78 u79 u80 u81 u82 u83 u84 u85 u86 u87 u88 u89 u90 u91 u92 u93 u94 u95 u96 u97 u98 u99 u100 u101 u102 u103 u104 u105 u106 u107 u108 u109 u110 u111 u112 u113 u114 u115 u116 u117 u118 u119 u120 u121 u122 u123 u124 u125 u126 u127 u128 u129 u130 u131 u132 u133 u134 u135 u136 u137 u138 u139 u140 u141 u142 u143 u144 u145 u146 u147 u148 u149 u150 u151 u152 u153 u154 u155 u156 u157 u158 u159 u160 u161 u162 u163 u164 u165 u166 u167 u168 u169 u170 u171 u172 u173 u174 u175 u176 u177 u178 u179 u180 u181 u182 u183 u184 u185 u186 u187 u188 u189 u190 u191 u192 u193 u194 u195 u196 u197 u198 u199 u200 u201 u202 u203 u204 u205 u206 u207 u208 u209 u210 u211 u212 u213 u214 u215 u216 u217 u218 u219 u220 u221 u222 u223 u224 u225 u226 u227 u228 u229 u230 u231 u232 u233 u234 u235 u236 u237 u238 u239 u240 u241 u242 u243 u244 u245 u246 u247 u248 u249 u250 u251 u252 u253 u254 u255 u256 : Value), Below w.heap.size w wx → Code.wp Tryz.prog (awkOf 3) (bodyPost Tryz.prog Tryz.f19 (TruePost w)) ⟨#[.bool false, .float .f32 1086324736, .int .i64 0, .int .i64 336, .int .i64 0, u5, u6, u7, u8, u9, u10, u11, u12, u13, u14, u15, u16, u17, u18, u19, u20, u21, u22, u23, u24, u25, u26, u27, u28, u29, u30, u31, u32, u33, u34, u35, u36, u37, u38, u39, u40, u41, u42, u43, u44, u45, u46, u47, u48, u49, u50, u51, u52, u53, u54, u55, u56, u57, u58, u59, u60, u61, u62, u63, u64, u65, u66, u67, u68, u69, u70, u71, u72, u73, u74, u75, u76, u77, u78, u79, u80, u81, u82, u83, u84, u85, u86, u87, u88, u89, u90, u91, u92, u93, u94, u95, u96, u97, u98, u99, u100, u101, u102, u103, u104, u105, u106, u107, u108, u109, u110, u111, u112, u113, u114, u115, u116, u117, u118, u119, u120, u121, u122, u123, u124, u125, u126, u127, u128, u129, u130, u131, u132, u133, u134, u135, u136, u137, u138, u139, u140, u141, u142, u143, u144, u145, u146, u147, u148, u149, u150, u151, u152, u153, u154, u155, u156, u157, u158, u159, u160, u161, u162, u163, u164, u165, u166, u167, u168, u169, u170, u171, u172, u173, u174, u175, u176, u177, u178, u179, u180, u181, u182, u183, u184, u185, u186, u187, u188, u189, u190, u191, u192, u193, u194, u195, u196, u197, u198, u199, u200, u201, u202, u203, u204, u205, u206, u207, u208, u209, u210, u211, u212, u213, u214, u215, u216, u217, u218, u219, u220, u221, u222, u223, u224, u225, u226, u227, u228, u229, u230, u231, u232, u233, u234, u235, u236, u237, u238, u239, u240, u241, u242, u243, u244, u245, u246, u247, u248, u249, u250, u251, u252, u253, u254, u255, u256], []⟩ wx

set_option maxRecDepth 1000000 in
/-- What is still to be shown where the walk stands ahead of region 4. -/
def Awk4 (w : World) : Prop :=
  ∀ (wx : World) (B6 : Nat) (u8 u9 u10 u11 u12 u13 u14 u15 u16 u17 u18 u19 u20 u21 u22 u23 u24 u25 u26 u27 u28 u29 u30 u31 u32 u33 u34 u35 u36 u37 u38 u39 u40 u41 u42 u43 u44 u45 u46 u47 u48 u49 u50 u51 u52 u53 u54 u55 u56 u57 u58 u59 u60 u61 u62 u63 u64 u65 u66 u67 u68 u69 u70 u71 u72 u73 u74 u75 u76 u77 u78 u79 u80 u81 u82 u83 u84 u85 u86 u87 u88 u89 u90 u91 u92 u93 u94 u95 u96 u97 u98 u99 u100 u101 u102 u103 u104 u105 u106 u107 u108 u109 u110 u111 u112 u113 u114 u115 u116 u117 u118 u119 u120 u121 u122 u123 u124 u125 u126 u127 u128 u129 u130 u131 u132 u133 u134 u135 u136 u137 u138 u139 u140 u141 u142 u143 u144 u145 u146 u147 u148 u149 u150 u151 u152 u153 u154 u155 u156 u157 u158 u159 u160 u161 u162 u163 u164 u165 u166 u167 u168 u169 u170 u171 u172 u173 u174 u175 u176 u177 u178 u179 u180 u181 u182 u183 u184 u185 u186 u187 u188 u189 u190 u191 u192 u193 u194 u195 u196 u197 u198 u199 u200 u201 u202 u203 u204 u205 u206 u207 u208 u209 u210 u211 u212 u213 u214 u215 u216 u217 u218 u219 u220 u221 u222 u223 u224 u225 u226 u227 u228 u229 u230 u231 u232 u233 u234 u235 u236 u237 u238 u239 u240 u241 u242 u243 u244 u245 u246 u247 u248 u249 u250 u251 u252 u253 u254 u255 u256 : Value), Below w.heap.size w wx → PBox wx B6 → Code.wp Tryz.prog (awkOf 4) (bodyPost Tryz.prog Tryz.f19 (TruePost w)) ⟨#[.bool false, .float .f32 1086324736, .int .i64 0, .int .i64 336, .int .i64 0, .float .f32 1086324736, .pointer (some ⟨B6, 0, none⟩), .int .i64 0, u8, u9, u10, u11, u12, u13, u14, u15, u16, u17, u18, u19, u20, u21, u22, u23, u24, u25, u26, u27, u28, u29, u30, u31, u32, u33, u34, u35, u36, u37, u38, u39, u40, u41, u42, u43, u44, u45, u46, u47, u48, u49, u50, u51, u52, u53, u54, u55, u56, u57, u58, u59, u60, u61, u62, u63, u64, u65, u66, u67, u68, u69, u70, u71, u72, u73, u74, u75, u76, u77, u78, u79, u80, u81, u82, u83, u84, u85, u86, u87, u88, u89, u90, u91, u92, u93, u94, u95, u96, u97, u98, u99, u100, u101, u102, u103, u104, u105, u106, u107, u108, u109, u110, u111, u112, u113, u114, u115, u116, u117, u118, u119, u120, u121, u122, u123, u124, u125, u126, u127, u128, u129, u130, u131, u132, u133, u134, u135, u136, u137, u138, u139, u140, u141, u142, u143, u144, u145, u146, u147, u148, u149, u150, u151, u152, u153, u154, u155, u156, u157, u158, u159, u160, u161, u162, u163, u164, u165, u166, u167, u168, u169, u170, u171, u172, u173, u174, u175, u176, u177, u178, u179, u180, u181, u182, u183, u184, u185, u186, u187, u188, u189, u190, u191, u192, u193, u194, u195, u196, u197, u198, u199, u200, u201, u202, u203, u204, u205, u206, u207, u208, u209, u210, u211, u212, u213, u214, u215, u216, u217, u218, u219, u220, u221, u222, u223, u224, u225, u226, u227, u228, u229, u230, u231, u232, u233, u234, u235, u236, u237, u238, u239, u240, u241, u242, u243, u244, u245, u246, u247, u248, u249, u250, u251, u252, u253, u254, u255, u256], []⟩ wx

set_option maxRecDepth 1000000 in
set_option maxHeartbeats 12800000 in
theorem awk1 (w : World) (hT : Awk2 w) : Awk1 w := by
  unfold Awk1
  intro wx  u1 u2 u3 u4 u5 u6 u7 u8 u9 u10 u11 u12 u13 u14 u15 u16 u17 u18 u19 u20 u21 u22 u23 u24 u25 u26 u27 u28 u29 u30 u31 u32 u33 u34 u35 u36 u37 u38 u39 u40 u41 u42 u43 u44 u45 u46 u47 u48 u49 u50 u51 u52 u53 u54 u55 u56 u57 u58 u59 u60 u61 u62 u63 u64 u65 u66 u67 u68 u69 u70 u71 u72 u73 u74 u75 u76 u77 u78 u79 u80 u81 u82 u83 u84 u85 u86 u87 u88 u89 u90 u91 u92 u93 u94 u95 u96 u97 u98 u99 u100 u101 u102 u103 u104 u105 u106 u107 u108 u109 u110 u111 u112 u113 u114 u115 u116 u117 u118 u119 u120 u121 u122 u123 u124 u125 u126 u127 u128 u129 u130 u131 u132 u133 u134 u135 u136 u137 u138 u139 u140 u141 u142 u143 u144 u145 u146 u147 u148 u149 u150 u151 u152 u153 u154 u155 u156 u157 u158 u159 u160 u161 u162 u163 u164 u165 u166 u167 u168 u169 u170 u171 u172 u173 u174 u175 u176 u177 u178 u179 u180 u181 u182 u183 u184 u185 u186 u187 u188 u189 u190 u191 u192 u193 u194 u195 u196 u197 u198 u199 u200 u201 u202 u203 u204 u205 u206 u207 u208 u209 u210 u211 u212 u213 u214 u215 u216 u217 u218 u219 u220 u221 u222 u223 u224 u225 u226 u227 u228 u229 u230 u231 u232 u233 u234 u235 u236 u237 u238 u239 u240 u241 u242 u243 u244 u245 u246 u247 u248 u249 u250 u251 u252 u253 u254 u255 u256 hB 
  conv => arg 2; whnf
  dsimp only
  go_upto_region 1 with fail
  go_cut [1, 2] (fun s1 s2 wr => s1 = .float .f32 1086324736 ∧ s2 = .int .i64 0 ∧ Below wx.heap.size wx wr)
  case first =>
    have K := Lib.hid (table_any wx)
    go_wp2_with (first
      | (go_at_call 106; refine K.out.mono ?_; rintro e w1 ⟨g, rfl, hg, hb1⟩
         have K2 := Lib.hid (at_lit w1 hg))
      | (go_at_call 37; refine K2.out.mono ?_; rintro e w2 ⟨rfl, hb2⟩))
    go_meet
    exact ⟨rfl, rfl, hb1.trans (hb2.mono hb1.size)⟩
  case rest =>
    rename_i hK
    obtain ⟨rfl, rfl, hb⟩ := hcut
    refine hK _ _ ?_
    clear hK
    unfold Awk2 at hT
    exact hT _  _ _ _ _ _ _ _ _ _ _ _ _ _ _ _ _ _ _ _ _ _ _ _ _ _ _ _ _ _ _ _ _ _ _ _ _ _ _ _ _ _ _ _ _ _ _ _ _ _ _ _ _ _ _ _ _ _ _ _ _ _ _ _ _ _ _ _ _ _ _ _ _ _ _ _ _ _ _ _ _ _ _ _ _ _ _ _ _ _ _ _ _ _ _ _ _ _ _ _ _ _ _ _ _ _ _ _ _ _ _ _ _ _ _ _ _ _ _ _ _ _ _ _ _ _ _ _ _ _ _ _ _ _ _ _ _ _ _ _ _ _ _ _ _ _ _ _ _ _ _ _ _ _ _ _ _ _ _ _ _ _ _ _ _ _ _ _ _ _ _ _ _ _ _ _ _ _ _ _ _ _ _ _ _ _ _ _ _ _ _ _ _ _ _ _ _ _ _ _ _ _ _ _ _ _ _ _ _ _ _ _ _ _ _ _ _ _ _ _ _ _ _ _ _ _ _ _ _ _ _ _ _ _ _ _ _ _ _ _ _ _ _ _ _ _ _ _ _ _ _ _ _ _ _ (hB.trans (hb.mono hB.size)) 

set_option maxRecDepth 1000000 in
set_option maxHeartbeats 12800000 in
theorem awk2 (w : World) (hT : Awk3 w) : Awk2 w := by
  unfold Awk2
  intro wx  u3 u4 u5 u6 u7 u8 u9 u10 u11 u12 u13 u14 u15 u16 u17 u18 u19 u20 u21 u22 u23 u24 u25 u26 u27 u28 u29 u30 u31 u32 u33 u34 u35 u36 u37 u38 u39 u40 u41 u42 u43 u44 u45 u46 u47 u48 u49 u50 u51 u52 u53 u54 u55 u56 u57 u58 u59 u60 u61 u62 u63 u64 u65 u66 u67 u68 u69 u70 u71 u72 u73 u74 u75 u76 u77 u78 u79 u80 u81 u82 u83 u84 u85 u86 u87 u88 u89 u90 u91 u92 u93 u94 u95 u96 u97 u98 u99 u100 u101 u102 u103 u104 u105 u106 u107 u108 u109 u110 u111 u112 u113 u114 u115 u116 u117 u118 u119 u120 u121 u122 u123 u124 u125 u126 u127 u128 u129 u130 u131 u132 u133 u134 u135 u136 u137 u138 u139 u140 u141 u142 u143 u144 u145 u146 u147 u148 u149 u150 u151 u152 u153 u154 u155 u156 u157 u158 u159 u160 u161 u162 u163 u164 u165 u166 u167 u168 u169 u170 u171 u172 u173 u174 u175 u176 u177 u178 u179 u180 u181 u182 u183 u184 u185 u186 u187 u188 u189 u190 u191 u192 u193 u194 u195 u196 u197 u198 u199 u200 u201 u202 u203 u204 u205 u206 u207 u208 u209 u210 u211 u212 u213 u214 u215 u216 u217 u218 u219 u220 u221 u222 u223 u224 u225 u226 u227 u228 u229 u230 u231 u232 u233 u234 u235 u236 u237 u238 u239 u240 u241 u242 u243 u244 u245 u246 u247 u248 u249 u250 u251 u252 u253 u254 u255 u256 hB 
  conv => arg 2; whnf
  dsimp only
  go_upto_region 2 with fail
  go_cut [3, 4] (fun s3 s4 wr => s3 = .int .i64 336 ∧ s4 = .int .i64 0 ∧ Below wx.heap.size wx wr)
  case first =>
    have K := Lib.hid (table_any wx)
    go_wp2_with (first
      | (go_at_call 106; refine K.out.mono ?_; rintro e w1 ⟨g, rfl, hg, hb1⟩
         have K2 := Lib.hid (total_lit w1 hg))
      | (go_at_call 39; refine K2.out.mono ?_; rintro e w2 ⟨rfl, hb2⟩))
    go_meet
    exact ⟨rfl, rfl, hb1.trans (hb2.mono hb1.size)⟩
  case rest =>
    rename_i hK
    obtain ⟨rfl, rfl, hb⟩ := hcut
    refine hK _ _ ?_
    clear hK
    unfold Awk3 at hT
    exact hT _  _ _ _ _ _ _ _ _ _ _ _ _ _ _ _ _ _ _ _ _ _ _ _ _ _ _ _ _ _ _ _ _ _ _ _ _ _ _ _ _ _ _ _ _ _ _ _ _ _ _ _ _ _ _ _ _ _ _ _ _ _ _ _ _ _ _ _ _ _ _ _ _ _ _ _ _ _ _ _ _ _ _ _ _ _ _ _ _ _ _ _ _ _ _ _ _ _ _ _ _ _ _ _ _ _ _ _ _ _ _ _ _ _ _ _ _ _ _ _ _ _ _ _ _ _ _ _ _ _ _ _ _ _ _ _ _ _ _ _ _ _ _ _ _ _ _ _ _ _ _ _ _ _ _ _ _ _ _ _ _ _ _ _ _ _ _ _ _ _ _ _ _ _ _ _ _ _ _ _ _ _ _ _ _ _ _ _ _ _ _ _ _ _ _ _ _ _ _ _ _ _ _ _ _ _ _ _ _ _ _ _ _ _ _ _ _ _ _ _ _ _ _ _ _ _ _ _ _ _ _ _ _ _ _ _ _ _ _ _ _ _ _ _ _ _ _ _ _ _ _ _ _ (hB.trans (hb.mono hB.size)) 

set_option maxRecDepth 1000000 in
set_option maxHeartbeats 12800000 in
theorem awk3 (w : World) (hT : Awk4 w) : Awk3 w := by
  unfold Awk3
  intro wx  u5 u6 u7 u8 u9 u10 u11 u12 u13 u14 u15 u16 u17 u18 u19 u20 u21 u22 u23 u24 u25 u26 u27 u28 u29 u30 u31 u32 u33 u34 u35 u36 u37 u38 u39 u40 u41 u42 u43 u44 u45 u46 u47 u48 u49 u50 u51 u52 u53 u54 u55 u56 u57 u58 u59 u60 u61 u62 u63 u64 u65 u66 u67 u68 u69 u70 u71 u72 u73 u74 u75 u76 u77 u78 u79 u80 u81 u82 u83 u84 u85 u86 u87 u88 u89 u90 u91 u92 u93 u94 u95 u96 u97 u98 u99 u100 u101 u102 u103 u104 u105 u106 u107 u108 u109 u110 u111 u112 u113 u114 u115 u116 u117 u118 u119 u120 u121 u122 u123 u124 u125 u126 u127 u128 u129 u130 u131 u132 u133 u134 u135 u136 u137 u138 u139 u140 u141 u142 u143 u144 u145 u146 u147 u148 u149 u150 u151 u152 u153 u154 u155 u156 u157 u158 u159 u160 u161 u162 u163 u164 u165 u166 u167 u168 u169 u170 u171 u172 u173 u174 u175 u176 u177 u178 u179 u180 u181 u182 u183 u184 u185 u186 u187 u188 u189 u190 u191 u192 u193 u194 u195 u196 u197 u198 u199 u200 u201 u202 u203 u204 u205 u206 u207 u208 u209 u210 u211 u212 u213 u214 u215 u216 u217 u218 u219 u220 u221 u222 u223 u224 u225 u226 u227 u228 u229 u230 u231 u232 u233 u234 u235 u236 u237 u238 u239 u240 u241 u242 u243 u244 u245 u246 u247 u248 u249 u250 u251 u252 u253 u254 u255 u256 hB 
  conv => arg 2; whnf
  dsimp only
  go_upto_region 3 with fail
  go_cut [5, 6, 7] (fun s5 s6 s7 wr => s5 = .float .f32 1086324736 ∧ (∃ B, s6 = .pointer (some ⟨B, 0, none⟩) ∧ PBox wr B) ∧ s7 = .int .i64 0 ∧ Below wx.heap.size wx wr)
  case first =>
    have K := Lib.hid (table_any wx)
    go_wp2_with (first
      | (go_at_call 106; refine K.out.mono ?_; rintro e w1 ⟨g, rfl, hg, hb1⟩
         have K2 := Lib.hid (peak_lit w1 hg))
      | (go_at_call 40; refine K2.out.mono ?_; rintro e w2 ⟨rfl, hb2⟩))
    go_meet
    exact ⟨rfl, ⟨_, rfl, PBox.new w2⟩, rfl, (hb1.trans (hb2.mono hb1.size)).alloc (by have := hb1.size; have := hb2.size; omega) _⟩
  case rest =>
    rename_i hK
    obtain ⟨rfl, ⟨B6, rfl, hbx⟩, rfl, hb⟩ := hcut
    refine hK _ _ ?_
    clear hK
    unfold Awk4 at hT
    exact hT _ _ _ _ _ _ _ _ _ _ _ _ _ _ _ _ _ _ _ _ _ _ _ _ _ _ _ _ _ _ _ _ _ _ _ _ _ _ _ _ _ _ _ _ _ _ _ _ _ _ _ _ _ _ _ _ _ _ _ _ _ _ _ _ _ _ _ _ _ _ _ _ _ _ _ _ _ _ _ _ _ _ _ _ _ _ _ _ _ _ _ _ _ _ _ _ _ _ _ _ _ _ _ _ _ _ _ _ _ _ _ _ _ _ _ _ _ _ _ _ _ _ _ _ _ _ _ _ _ _ _ _ _ _ _ _ _ _ _ _ _ _ _ _ _ _ _ _ _ _ _ _ _ _ _ _ _ _ _ _ _ _ _ _ _ _ _ _ _ _ _ _ _ _ _ _ _ _ _ _ _ _ _ _ _ _ _ _ _ _ _ _ _ _ _ _ _ _ _ _ _ _ _ _ _ _ _ _ _ _ _ _ _ _ _ _ _ _ _ _ _ _ _ _ _ _ _ _ _ _ _ _ _ _ _ _ _ _ _ _ _ _ _ _ _ _ _ _ _ _ _ (hB.trans (hb.mono hB.size)) hbx

end Go.Proofs.YtfdkmmllemkogaaGreatDoor
