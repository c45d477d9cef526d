/-
  Contracts of countersOf and of mapped at telegrams.
-/
import Derived.Test.YtljfdmoknkhekaaGreatDoorCWu
import Derived.Test.YtljfdmoknkhekaaGreatDoorCXc
import Derived.WalkMore
namespace Go.Proofs.YtljfdmoknkhekaaGreatDoor
open Go.RowKit
set_option linter.unusedVariables false

/-- These telegrams lie at an address. -/
def TelsAt (w : World) (b q : Nat) (L : List Tel) : Prop := ∀ k, k < L.length → w.rangeAt b (q + k * 6) (L[k]?.getD tel0).val
theorem TelsAt.kept {w w' : World} {b q B : Nat} {L : List Tel} (h : TelsAt w b q L) (hb : Below B w w') (hB : b < B) : TelsAt w' b q L := fun k hk j v hv => by
  rw [hb.cell (by exact hB)]; exact h k hk j v hv
/-- The counters of a station's telegrams. -/
def countsOf (L : List Tel) (st : Int) : List Int := (L.filter (fun t => t.s == st)).map (·.c)
theorem countsOf_succ (L : List Tel) (st : Int) (k : Nat) (hk : k < L.length) : countsOf (L.take (k + 1)) st = if (L[k]?.getD tel0).s = st then countsOf (L.take k) st ++ [(L[k]?.getD tel0).c] else countsOf (L.take k) st := by
  rw [List.take_succ_eq_append_getElem hk, List.getElem?_eq_getElem hk]
  simp only [countsOf, List.filter_append, List.map_append, Option.getD_some]
  split
  · rename_i h; simp [h]
  · rename_i h; simp [h]
theorem counts_len (L : List Tel) (st : Int) : (countsOf L st).length ≤ L.length := by
  simp only [countsOf, List.length_map]; exact List.length_filter_le _ _

end Go.Proofs.YtljfdmoknkhekaaGreatDoor

/-
  Contract of mapped at telegrams, with the check of a telegram: of right telegrams, as many zeros.
-/
namespace Go.Proofs.YtljfdmoknkhekaaGreatDoor
open Go.RowKit
set_option linter.unusedVariables false

theorem checkTelegram_tel (t : Tel) (h : t.Good) (w : World) :
    Calls Tryz.prog 97 #[.agg #[.int .i64 t.s, .int .i64 t.c, .int .i64 t.o, .int .i64 t.x, .int .i64 t.y, .int .i64 t.z]] w fun e w' =>
      e = .returned (.int .i64 0) ∧ Below w.heap.size w w' := checkTelegram_any _ _ _ _ _ _ h w

end Go.Proofs.YtljfdmoknkhekaaGreatDoor

/-
  Contract of missing for ascending counters: the counters between each one and the next.
-/
namespace Go.Proofs.YtljfdmoknkhekaaGreatDoor
open Go.RowKit
set_option linter.unusedVariables false

/-- The integers between two. -/
def gap (a b : Int) : List Int := (List.range (b - a - 1).toNat).map (fun j : Nat => a + 1 + (j : Int))
/-- The integers between each of the first k and the next one. -/
def gapsTo (xs : List Int) (k : Nat) : List Int := (List.range k).flatMap (fun i => gap (xs[i]?.getD 0) (xs[i + 1]?.getD 0))
theorem gapsTo_succ (xs : List Int) (k : Nat) : gapsTo xs (k + 1) = gapsTo xs k ++ gap (xs[k]?.getD 0) (xs[k + 1]?.getD 0) := by
  simp [gapsTo, List.range_succ]
theorem gap_len (a b : Int) : (gap a b).length = (b - a - 1).toNat := by simp [gap]

/-- Ascending counters from 0 to 200. -/
structure Asc (xs : List Int) (n : Nat) : Prop where
  len : xs.length = n
  bd : ∀ j, j < n → 0 ≤ xs[j]?.getD 0 ∧ xs[j]?.getD 0 ≤ 200
  up : ∀ j, j + 1 < n → xs[j]?.getD 0 < xs[j + 1]?.getD 0
theorem gapsTo_len {xs : List Int} {n : Nat} (h : Asc xs n) : ∀ k, k < n → ((gapsTo xs k).length : Int) ≤ xs[k]?.getD 0
  | 0, hk => by have := h.bd 0 hk; simp [gapsTo]; omega
  | k + 1, hk => by
    have ih := gapsTo_len h k (by omega)
    have hu := h.up k hk
    rw [gapsTo_succ, List.length_append, gap_len]
    omega

theorem owns_slice {w : World} {B T sz n : Nat} {v : Value} {xs : List Value} (h : w.ownsRow B T sz v n xs) : ∃ ao c, v = .slice ao n c := by
  rcases h.2 with ⟨h, h0⟩ | ⟨g, cap, cur, h, _⟩
  · exact ⟨none, 0, by rw [h, h0]⟩
  · exact ⟨_, _, h⟩

end Go.Proofs.YtljfdmoknkhekaaGreatDoor

/-
  Contract of Lost for telegrams whose numbers are in their ranges and a station whose counters ascend.
-/
namespace Go.Proofs.YtljfdmoknkhekaaGreatDoor
open Go.RowKit
set_option linter.unusedVariables false

theorem owns_some {w : World} {B T sz n : Nat} {v : Value} {xs : List Value} (h : w.ownsRow B T sz v n xs) (hn : 1 ≤ n) : ∃ g c, v = .slice (some ⟨g, 0, none⟩) n c ∧ g < w.heap.size ∧ B ≤ g := by
  rcases h.2 with ⟨_, h0⟩ | ⟨g, cap, cur, h, h2, h3, _⟩
  · omega
  · exact ⟨g, cap, h, (Array.getElem?_eq_some_iff.1 h3).1, h2⟩


end Go.Proofs.YtljfdmoknkhekaaGreatDoor
