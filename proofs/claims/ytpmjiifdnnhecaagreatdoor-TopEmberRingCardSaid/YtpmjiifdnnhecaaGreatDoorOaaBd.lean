/-
  Contracts of Own, of own and of ShortMap for every map of up to 100000 samples, nil or not.
-/
import Derived.Laws.AppendOwnNone
import Derived.Test.YtpmjiifdnnhecaaGreatDoorOaaBc
import Derived.Test.YtpmjiifdnnhecaaGreatDoorOaaWk
import Derived.Test.YtpmjiifdnnhecaaGreatDoorOaaXe
import Derived.Test.YtpmjiifdnnhecaaGreatDoorOaaXg
namespace Go.Proofs.YtpmjiifdnnhecaaGreatDoor
open Go.RowKit
set_option linter.unusedVariables false
set_option linter.unusedSimpArgs false

/-- Any map in memory: its words. -/
structure AnyMap (w : World) (a : Option Addr) (n c : Nat) (xs : List Nat) : Prop where
  len : xs.length = n
  words : ∀ j, j < n → xs[j]?.getD 0 < 2 ^ 32
  isNil : (a = none ∧ n = 0 ∧ c = 0) ∨ ∃ x, a = some x
  cells : ∀ j, j < n → ∃ b o, a = some ⟨b, o, none⟩ ∧ b < w.heap.size ∧ ∀ j, j < n → w.cell? ⟨b, o + j, none⟩ = some (.float .f32 (xs[j]?.getD 0))

theorem AnyMap.below {B : Nat} {w w' : World} {a : Option Addr} {n c : Nat} {xs : List Nat} (h : AnyMap w a n c xs) (hb : Below B w w') (hB : w.heap.size ≤ B) : AnyMap w' a n c xs :=
  ⟨h.len, h.words, h.isNil, fun j hj => by
    obtain ⟨b, o, ha, hlt, hc⟩ := h.cells j hj
    exact ⟨b, o, ha, by have := hb.size; omega, fun j hj => (hb.cell (by show b < B; omega)).trans (hc j hj)⟩⟩

/-- A right map: its integers. -/
theorem AnyMap.right {w : World} {W H : Int} {a : Option Addr} {n c : Nat} {xs : List Nat} (h : AnyMap w a n c xs) (h0 : mapErr W H n xs = 0) :
    ∃ b o ks, a = some ⟨b, o, none⟩ ∧ b < w.heap.size ∧ RightMap w W H b o n xs ks := by
  obtain ⟨w1, w2, h1, h2, hA, hS⟩ := mapErr_zero h.len h0
  have hn : 1 ≤ W * H := by
    have := Int.mul_le_mul w1 h1 (by omega) (by omega)
    omega
  have hm : W * H ≤ 4096 := by
    have := Int.mul_le_mul w2 h2 (by omega) (by omega)
    omega
  obtain ⟨b, o, ha, hb, hc⟩ := h.cells 0 (by omega)
  obtain ⟨ks, hl, hk⟩ : ∃ ks : List Int, ks.length = n ∧ ∀ j, j < n → Smp (xs[j]?.getD 0) (ks[j]?.getD 0) ∧ (ks[j]?.getD 0).natAbs ≤ 16384 := by
    have key : ∀ m, m ≤ n → ∃ ks : List Int, ks.length = m ∧ ∀ j, j < m → Smp (xs[j]?.getD 0) (ks[j]?.getD 0) ∧ (ks[j]?.getD 0).natAbs ≤ 16384 := by
      intro m
      induction m with
      | zero => intro _; exact ⟨[], rfl, fun j hj => by omega⟩
      | succ m ih =>
        intro hle
        obtain ⟨ks, hl, hk⟩ := ih (by omega)
        obtain ⟨k, hk1, hk2⟩ := hS m (by omega)
        refine ⟨ks ++ [k], by simp [hl], fun j hj => ?_⟩
        by_cases hjm : j < m
        · rw [List.getElem?_append_left (by omega)]; exact hk j hjm
        · obtain rfl : j = m := by omega
          rw [List.getElem?_append_right (by omega), hl, Nat.sub_self]
          exact ⟨hk1, hk2⟩
    exact key n (Nat.le_refl _)
  exact ⟨b, o, ks, ha, hb, ⟨⟨h.len, hl, by omega, hc, h.words, fun j hj => (hk j hj).1, fun j hj => (hk j hj).2⟩, ⟨w1, w2⟩, ⟨h1, h2⟩, hA⟩⟩

theorem OwnPost.map {w w' : World} {W H : Int} {n T : Nat} {xs : List Nat} {e : Ending} (h : OwnPost w W H n xs T e w') (hx : xs.length = n) (hw : ∀ j, j < n → xs[j]?.getD 0 < 2 ^ 32) :
    ∃ g c, e = .returned (.agg #[.int .i64 W, .int .i64 H, .slice (some ⟨g, 0, none⟩) n c]) ∧ AnyMap w' (some ⟨g, 0, none⟩) n c xs ∧ Below w.heap.size w w' := by
  obtain ⟨g, c, he, _, hg, hc, hb, _⟩ := h
  exact ⟨g, c, he, ⟨hx, hw, .inr ⟨_, rfl⟩, fun j hj => ⟨g, 0, rfl, hg, fun j hj => by rw [Nat.zero_add]; exact hc j hj⟩⟩, hb⟩

end Go.Proofs.YtpmjiifdnnhecaaGreatDoor

/-
  Contracts of At and Total for every map: the error of the map, or of the place, or the sample and the light.
-/

namespace Go.Proofs.YtpmjiifdnnhecaaGreatDoor
open Go.RowKit
open Ieee (Format single)
set_option linter.unusedVariables false
set_option linter.unusedSimpArgs false

/-- The integer of a sample's word. -/
def kOf (x : Nat) : Int :=
  match single.read x with
  | .number s m e => sgn s (m * 2 ^ (e - single.leastPlace).toNat / 2 ^ 145)
  | _ => 0

theorem smp_kOf {x : Nat} (h : smpErr x = 0) : Smp x (kOf x) ∧ (kOf x).natAbs ≤ 16384 := by
  rcases smp_class x with ⟨a, b, hd⟩ | ⟨s, hd⟩ | ⟨s, v, hn, _⟩
  · rw [smpErr_nan hd] at h; cases h
  · rw [smpErr_inf hd] at h; cases h
  · rw [smpErr_num hn] at h
    split at h
    · rename_i hh
      obtain ⟨h1, h2⟩ := hh
      have e : v = v / 2 ^ 145 * 2 ^ 145 := by
        have := Nat.div_add_mod v (2 ^ 145)
        rw [h2, Nat.add_zero, Nat.mul_comm] at this; exact this.symm
      have hq : v / 2 ^ 145 ≤ 16384 := by
        have := Nat.div_le_div_right (c := 2 ^ 145) h1
        have e2 : 1024 * 2 ^ 149 = 16384 * 2 ^ 145 := by decide +kernel
        rwa [e2, Nat.mul_div_cancel _ (Nat.two_pow_pos _)] at this
      have hk : kOf x = sgn s (v / 2 ^ 145) := by
        obtain ⟨m, i, k1, _, _, k4⟩ := hn
        unfold kOf
        rw [k1]
        dsimp only
        rw [k4]
      rw [hk]
      generalize v / 2 ^ 145 = p at e hq
      have hpa : (sgn s p).natAbs = p := by unfold sgn; cases s <;> simp
      refine ⟨⟨s, ?_, ?_, ?_⟩, by rw [hpa]; exact hq⟩
      · rw [hpa, ← e]; exact hn
      · intro hs; unfold sgn at hs; cases s
        · simp only [Bool.false_eq_true, if_false] at hs; omega
        · rfl
      · intro hs; unfold sgn at hs; cases s
        · rfl
        · simp only [if_true] at hs; omega
    · cases h

theorem mapErr_smps {W H : Int} {n : Nat} {xs : List Nat} (hx : xs.length = n) (h : mapErr W H n xs = 0) : ∀ j, j < n → smpErr (xs[j]?.getD 0) = 0 := by
  intro j hj
  unfold mapErr at h
  split at h
  · split at h
    · refine firstNZ_all h _ (List.mem_map.2 ⟨xs[j]?.getD 0, ?_, rfl⟩)
      rw [List.getElem?_eq_getElem (by omega)]
      exact List.getElem_mem _
    · cases h
  · rename_i h0; exact absurd h h0

theorem AnyMap.rightK {w : World} {W H : Int} {a : Option Addr} {n c : Nat} {xs : List Nat} (h : AnyMap w a n c xs) (h0 : mapErr W H n xs = 0) :
    ∃ b o, a = some ⟨b, o, none⟩ ∧ b < w.heap.size ∧ RightMap w W H b o n xs (xs.map kOf) := by
  obtain ⟨b, o, ks, ha, hb, hr⟩ := h.right h0
  have hk : ∀ j, j < n → (xs.map kOf)[j]?.getD 0 = kOf (xs[j]?.getD 0) := fun j hj => by
    have := hr.len
    rw [List.getElem?_map, List.getElem?_eq_getElem (by omega)]; rfl
  have hs := mapErr_smps h.len h0
  exact ⟨b, o, ha, hb, ⟨⟨hr.len, by rw [List.length_map]; exact hr.len, hr.small, hr.cells, hr.words, fun j hj => by rw [hk j hj]; exact (smp_kOf (hs j hj)).1, fun j hj => by rw [hk j hj]; exact (smp_kOf (hs j hj)).2⟩, hr.wid, hr.hei, hr.area⟩⟩

/-- CheckMap, in the words of AnyMap. -/
theorem checkMap_map (W H : Int) (a : Option Addr) (n c : Nat) (xs : List Nat) (w : World) (h : AnyMap w a n c xs) :
    Calls Tryz.prog 134 #[.agg #[.int .i64 W, .int .i64 H, .slice a n c]] w fun e w' => e = .returned (.int .i64 (mapErr W H n xs)) ∧ Below w.heap.size w w' :=
  checkMap_all W H a n c xs h.len w h.words h.cells
theorem refCheckMap_map (W H : Int) (a : Option Addr) (n c : Nat) (xs : List Nat) (w : World) (h : AnyMap w a n c xs) :
    Calls Tryz.prog 67 #[.agg #[.int .i64 W, .int .i64 H, .slice a n c]] w fun e w' => e = .returned (.int .i64 (mapErr W H n xs)) ∧ Below w.heap.size w w' :=
  refCheckMap_all W H a n c xs h.len w h.cells

/-! ### At -/

def inPlace (W H X Y : Int) : Prop := 0 ≤ X ∧ X < W ∧ 0 ≤ Y ∧ Y < H
instance (W H X Y : Int) : Decidable (inPlace W H X Y) := by unfold inPlace; infer_instance
end Go.Proofs.YtpmjiifdnnhecaaGreatDoor
