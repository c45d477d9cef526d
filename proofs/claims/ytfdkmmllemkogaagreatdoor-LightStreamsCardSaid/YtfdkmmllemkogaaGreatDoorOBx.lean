/-
  Variables that hold maps: what a store of a map into one of them keeps.
-/
import Derived.Test.YtfdkmmllemkogaaGreatDoorOBv
import Derived.Test.YtfdkmmllemkogaaGreatDoorOBe
import Derived.Test.YtfdkmmllemkogaaGreatDoorOWf
namespace Go.Proofs.YtfdkmmllemkogaaGreatDoor
open Go.RowKit
set_option linter.unusedVariables false
set_option linter.unusedSimpArgs false

/-- A world in which one block alone is another one. -/
structure OneBlk (w w' : World) (B : Nat) : Prop where
  other : ∀ k, k ≠ B → w'.heap[k]? = w.heap[k]?
  size : w'.heap.size = w.heap.size
theorem OneBlk.set3 (w : World) (B : Nat) (x y z : Value) : OneBlk w (((w.setCell ⟨B, 0, none⟩ x).setCell ⟨B, 1, none⟩ y).setCell ⟨B, 2, none⟩ z) B :=
  ⟨fun k hk => by simp [World.setCell, Array.getElem?_modify, Ne.symm hk], by simp⟩
theorem below_set3 {w w0 : World} {N B : Nat} (h : Below N w0 w) (hB : N ≤ B) (x y z : Value) : Below N w0 (((w.setCell ⟨B, 0, none⟩ x).setCell ⟨B, 1, none⟩ y).setCell ⟨B, 2, none⟩ z) :=
  ((h.setCell (p := ⟨B, 0, none⟩) hB _).setCell (p := ⟨B, 1, none⟩) hB _).setCell (p := ⟨B, 2, none⟩) hB _

/-- A result stays where a variable that holds a map is written. -/
theorem ResV.stored {w w' : World} {B : Nat} {x y : Int} {s : Value} {T : TypeId} (hB : w.heap[B]? = Option.some (.cells #[.int .i64 x, .int .i64 y, s] T (0, 0))) (ho : OneBlk w w' B) {r W H : Int} {ls : List Int} {X Y : Int} {a : Option Addr} {n c : Nat}
    (h : ResV w r W H ls X Y a n c) : ResV w' r W H ls X Y a n c :=
  ⟨h.bad, fun h0 => by
    obtain ⟨h1, h2, h3, h4, h5, g, h6, h7, h8⟩ := h.ok h0
    refine ⟨h1, h2, h3, h4, h5, g, h6, by rw [ho.size]; exact h7, fun j hj => ?_⟩
    by_cases hg : g = B
    · subst hg
      have h9 := h8 0 (by omega)
      rw [cell_of_row w g 0 _ _ (0, 0) hB] at h9
      simp at h9
    · rw [World.cell?_of_block (ho.other g hg)]
      exact h8 j hj⟩

/-- A variable that holds a result. -/
def ResBox (w : World) (B : Nat) (T : TypeId) (r W H : Int) (ls : List Int) : Prop :=
  ∃ X Y a n c, w.heap[B]? = some (.cells #[.int .i64 X, .int .i64 Y, .slice a n c] T (0, 0)) ∧ ResV w r W H ls X Y a n c
theorem ResBox.kept {w w' : World} {B : Nat} {T : TypeId} {r W H : Int} {ls : List Int} (h : ResBox w B T r W H ls) (hb : Below w.heap.size w w') : ResBox w' B T r W H ls := by
  obtain ⟨X, Y, a, n, c, h1, h2⟩ := h
  exact ⟨_, _, _, _, _, (hb.block _ (lt_of_blk h1)).trans h1, h2.kept hb⟩
theorem ResBox.new {w : World} {T : TypeId} {r W H : Int} {ls : List Int} {X Y : Int} {a : Option Addr} {n c : Nat} (h : ResV w r W H ls X Y a n c) : ResBox (w.alloc (.cells #[.int .i64 X, .int .i64 Y, .slice a n c] T)) w.heap.size T r W H ls :=
  ⟨_, _, _, _, _, blk_alloc_new _ _, h.kept ((Below.refl _ _).alloc (Nat.le_refl _) _)⟩

theorem ResBox.put {w : World} {B : Nat} {T : TypeId} {x y : Int} {s : Value} (hB : w.heap[B]? = some (.cells #[.int .i64 x, .int .i64 y, s] T (0, 0))) {r W H : Int} {ls : List Int} {X Y : Int} {a : Option Addr} {n c : Nat}
    (h : ResV w r W H ls X Y a n c) : ResBox (((w.setCell ⟨B, 0, none⟩ (.int .i64 X)).setCell ⟨B, 1, none⟩ (.int .i64 Y)).setCell ⟨B, 2, none⟩ (.slice a n c)) B T r W H ls :=
  ⟨_, _, _, _, _, blk_set3 hB _ _ _, h.stored hB (OneBlk.set3 w B _ _ _)⟩

/-- A variable of the reference that holds what a result must be, where there is no error. -/
def WantBox (w : World) (B : Nat) (r W H : Int) (ls : List Int) : Prop :=
  ∃ X Y a n c, w.heap[B]? = some (.cells #[.int .i64 X, .int .i64 Y, .slice a n c] 48 (0, 0)) ∧ (r = 0 → ResV w r W H ls X Y a n c)
theorem WantBox.kept {w w' : World} {B : Nat} {r W H : Int} {ls : List Int} (h : WantBox w B r W H ls) (hb : Below w.heap.size w w') : WantBox w' B r W H ls := by
  obtain ⟨X, Y, a, n, c, h1, h2⟩ := h
  exact ⟨_, _, _, _, _, (hb.block _ (lt_of_blk h1)).trans h1, fun h0 => (h2 h0).kept hb⟩
theorem WantBox.zero {w : World} {B : Nat} {r W H : Int} {ls : List Int} (h : w.heap[B]? = some (.cells #[.int .i64 0, .int .i64 0, .slice none 0 0] 48 (0, 0))) (hr : r ≠ 0) : WantBox w B r W H ls :=
  ⟨0, 0, none, 0, 0, h, fun h0 => absurd h0 hr⟩
/-- Another variable is written. -/
theorem WantBox.stored {w w' : World} {B B' : Nat} {x y : Int} {s : Value} {T : TypeId} (hB : w.heap[B]? = some (.cells #[.int .i64 x, .int .i64 y, s] T (0, 0))) (ho : OneBlk w w' B) (hne : B' ≠ B) {r W H : Int} {ls : List Int}
    (h : WantBox w B' r W H ls) : WantBox w' B' r W H ls := by
  obtain ⟨X, Y, a, n, c, h1, h2⟩ := h
  exact ⟨_, _, _, _, _, (ho.other _ hne).trans h1, fun h0 => (h2 h0).stored hB ho⟩
/-- The variable itself is written. -/
theorem WantBox.put {w : World} {B : Nat} {x y : Int} {s : Value} (hB : w.heap[B]? = some (.cells #[.int .i64 x, .int .i64 y, s] 48 (0, 0))) {r W H : Int} {ls : List Int} {X Y : Int} {a : Option Addr} {n c : Nat}
    (h : r = 0 → ResV w r W H ls X Y a n c) : WantBox (((w.setCell ⟨B, 0, none⟩ (.int .i64 X)).setCell ⟨B, 1, none⟩ (.int .i64 Y)).setCell ⟨B, 2, none⟩ (.slice a n c)) B r W H ls :=
  ⟨_, _, _, _, _, blk_set3 hB _ _ _, fun h0 => (h h0).stored hB (OneBlk.set3 w B _ _ _)⟩
end Go.Proofs.YtfdkmmllemkogaaGreatDoor

/-
  What calls that return maps answer; rows of one's own, written at a place; small laws that the rows of chapter 1 share.
-/
namespace Go.Proofs.YtfdkmmllemkogaaGreatDoor
open Go.RowKit
set_option linter.unusedVariables false
set_option linter.unusedSimpArgs false

theorem owns_set {w : World} {B T n N g : Nat} {xs : List Value} (h : w.ownsRow B T 1 (.slice (some ⟨g, 0, none⟩) n N) n xs) {k : Nat} (hk : k < n) (v : Value) : (w.setCell ⟨g, k, none⟩ v).ownsRow B T 1 (.slice (some ⟨g, 0, none⟩) n N) n (xs.set k v) := by
  have hl := h.1
  refine ⟨by simp [hl], ?_⟩
  rcases h.2 with ⟨h, _⟩ | ⟨g', cap, cur, e, hB, hg, hnc, hcm, hcs, ht⟩
  · cases h
  · simp at e
    obtain ⟨rfl, rfl⟩ := e
    refine .inr ⟨g, N, cur.setIfInBounds k v, rfl, hB, ?_, hnc, hcm, by simpa using hcs, ?_⟩
    · rw [setCell_eq_setRow w g k cur T (0, 0) v hg]
      exact setRow_heap w g cur _ T _ hg
    · simp only [Array.toList_setIfInBounds, Nat.mul_one] at ht ⊢
      rw [List.take_set, ht]
theorem owns_free {w : World} {B T n N g : Nat} {xs : List Value} (h : w.ownsRow B T 1 (.slice (some ⟨g, 0, none⟩) n N) n xs) (j : Nat) : w.frozen? ⟨g, j, none⟩ = false := by
  rcases h.2 with ⟨h, _⟩ | ⟨g', cap, cur, e, hB, hg, hnc, hcm, hcs, ht⟩
  · cases h
  · simp at e
    obtain ⟨rfl, rfl⟩ := e
    simp [World.frozen?, hg]
theorem owns_someB {w : World} {B T n : Nat} {v : Value} {xs : List Value} (h : w.ownsRow B T 1 v n xs) (hn : 1 ≤ n) : ∃ g c, v = .slice (some ⟨g, 0, none⟩) n c ∧ B ≤ g ∧ g < w.heap.size := by
  rcases h.2 with ⟨_, h0⟩ | ⟨g, cap, cur, e, hB, hg, _⟩
  · omega
  · exact ⟨g, cap, e, hB, (Array.getElem?_eq_some_iff.1 hg).1⟩

/-- What a call that returns a map and an error answers. -/
def Answers (f : FuncId) (args : Array Value) (w : World) (r W H : Int) (ls : List Int) : Prop :=
  Calls Tryz.prog f args w fun e w' => ∃ X Y a n c, e = .returned (.tuple #[.agg #[.int .i64 X, .int .i64 Y, .slice a n c], .int .i64 r]) ∧ ResV w' r W H ls X Y a n c ∧ Below w.heap.size w w'
/-- What a call of the reference that returns a map answers. -/
def AnswersMap (f : FuncId) (args : Array Value) (w : World) (W H : Int) (ls : List Int) : Prop :=
  Calls Tryz.prog f args w fun e w' => ∃ X Y a n c, e = .returned (.agg #[.int .i64 X, .int .i64 Y, .slice a n c]) ∧ ResV w' 0 W H ls X Y a n c ∧ Below w.heap.size w w'

theorem check_of (W H : Int) (a : Option Addr) (n c : Nat) (xs : List Nat) (w : World) (hM : AnyMap w a n c xs) : ∀ w1 : World, Below w.heap.size w w1 → Calls Tryz.prog 47 #[.agg #[.int .i64 W, .int .i64 H, .slice a n c]] w1 fun e w' => e = .returned (.int .i64 (mapErr W H n xs)) ∧ Below w1.heap.size w1 w' :=
  fun w1 h1 => checkMap_map W H a n c xs w1 (hM.below h1 (Nat.le_refl _))

theorem ks_at {ks : List Int} {n : Nat} (hl : ks.length = n) (hs : ∀ j, j < n → (ks[j]?.getD 0).natAbs ≤ 16384) (i : Nat) : (ks[i]?.getD 0).natAbs ≤ 16384 := by
  by_cases hh : i < n
  · exact hs _ hh
  · rw [List.getElem?_eq_none (by omega)]; decide

theorem firstNZ_three {a b c : Int} (h : firstNZ [a, b, c] = 0) : a = 0 ∧ b = 0 ∧ c = 0 := by
  have := firstNZ_all h
  exact ⟨this a (by simp), this b (by simp), this c (by simp)⟩

theorem list_succ (f : Nat → Int) (k : Nat) : ((List.range (k + 1)).map f).map (Value.int .i64) = ((List.range k).map f).map (Value.int .i64) ++ [.int .i64 (f k)] := by
  rw [List.range_succ]; simp
end Go.Proofs.YtfdkmmllemkogaaGreatDoor
