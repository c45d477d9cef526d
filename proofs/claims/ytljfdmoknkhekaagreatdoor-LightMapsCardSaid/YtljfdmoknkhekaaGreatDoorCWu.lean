/-
  Contract of telegramAt where the stream holds, at the given place, the frame of a telegram whose numbers are in their ranges.
-/
import Derived.Test.YtljfdmoknkhekaaGreatDoorCWq
import Derived.Laws.CopyRow
namespace Go.Proofs.YtljfdmoknkhekaaGreatDoor
open Go.RowKit
set_option linter.unusedVariables false

end Go.Proofs.YtljfdmoknkhekaaGreatDoor

/-
  Telegrams; the contract of Received for a stream of frames of telegrams whose numbers are in their ranges: these telegrams, nothing skipped, no error.
-/
namespace Go.Proofs.YtljfdmoknkhekaaGreatDoor
open Go.RowKit
set_option linter.unusedVariables false

/-- A telegram's numbers. -/
structure Tel where
  s : Int
  c : Int
  o : Int
  x : Int
  y : Int
  z : Int
def Tel.Good (t : Tel) : Prop := GoodT t.s t.c t.o t.x t.y t.z
def Tel.val (t : Tel) : List Value := [.int .i64 t.s, .int .i64 t.c, .int .i64 t.o, .int .i64 t.x, .int .i64 t.y, .int .i64 t.z]
def Tel.bytes (t : Tel) : List Value := (frame t.s t.c t.o t.x t.y t.z).map (Value.int .u8)
theorem Tel.val_len (t : Tel) : t.val.length = 6 := rfl
def tel0 : Tel := ⟨0, 0, 0, 0, 0, 0⟩

theorem owns_kept {w w' : World} {B T sz n N : Nat} {v : Value} {xs : List Value} (h : w.ownsRow B T sz v n xs) (hb : Below N w w') (hN : w.heap.size ≤ N) : w'.ownsRow B T sz v n xs := by
  refine ⟨h.1, ?_⟩
  rcases h.2 with h | ⟨g, cap, cur, h1, h2, h3, h4⟩
  · exact .inl h
  · exact .inr ⟨g, cap, cur, h1, h2, (hb.block g (by have := (Array.getElem?_eq_some_iff.1 h3).1; omega)).trans h3, h4⟩

theorem flat_take_succ (L : List Tel) (k : Nat) (hk : k < L.length) : (L.take (k + 1)).flatMap Tel.val = (L.take k).flatMap Tel.val ++ (L[k]?.getD tel0).val := by
  rw [List.take_succ_eq_append_getElem hk, List.flatMap_append, List.getElem?_eq_getElem hk]; simp

theorem Tryz.infoTel : (Tryz.prog.info? 95).map (fun i => (i.zero, i.size, i.bytes)) = some (some (.agg #[.int .i64 0, .int .i64 0, .int .i64 0, .int .i64 0, .int .i64 0, .int .i64 0]), 6, 48) := by kernel_rfl

theorem cells_new6 (w : World) (T : TypeId) (a b c d e f : Value) : ∀ j u, [a, b, c, d, e, f][j]? = some u → (w.alloc (.cells #[a, b, c, d, e, f] T)).cell? ((⟨w.heap.size, 0, none⟩ : Addr).add j) = some u := fun j u h => by
  rw [Addr.add_mid, cell_of_row _ w.heap.size (0 + j) _ _ (0, 0) (heap_alloc_new w _)]
  simpa using h

theorem cells_new6' (w : World) (o : Obj) (T : TypeId) (a b c d e f : Value) : ∀ j u, [a, b, c, d, e, f][j]? = some u → ((w.alloc o).alloc (.cells #[a, b, c, d, e, f] T)).cell? ((⟨w.heap.size + 1, 0, none⟩ : Addr).add j) = some u := fun j u h => by
  have := cells_new6 (w.alloc o) T a b c d e f j u h
  simpa using this
end Go.Proofs.YtljfdmoknkhekaaGreatDoor
