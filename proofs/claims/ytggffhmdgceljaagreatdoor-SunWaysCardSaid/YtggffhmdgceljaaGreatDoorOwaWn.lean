/-
  Contracts of writeNumber and readNumber for two and four bytes, and of checksum.
-/
import Derived.Test.YtggffhmdgceljaaGreatDoorRows
import Derived.WalkKit
import Derived.WalkSpells
import Derived.WalkLawsBesides
import Derived.Lib.Hide
import Derived.BigQuiet
import Derived.Deep.QuietTactic
import Derived.Handy
import Derived.Deep.RegionHeld3
import Derived.Deep.RegionWith
import Derived.StillTailTactics
import Derived.RangeFuncNested
import Derived.RangeFuncBound
import Derived.RangeFuncCalls
import Derived.RangeFuncLeaves
import Derived.RangeFuncBox
import Derived.Shelf.Abstract
import Derived.Shelf.RegionOpen
import Derived.OwnWalkIn
import Derived.TacticsInMore
import Derived.LoopNIn
import Derived.LoopIn
import Derived.Maps.AppendAt
import Derived.Test.YtggffhmdgceljaaGreatDoorProg
import Derived.Laws.FloatArith
import Derived.Laws.BitsAllLaws
import Derived.Stop.BytesEq
import Derived.Deep.MidRow
import Derived.Laws.CopyRow
import Derived.Deep.DeepCutAuto
import Derived.WalkMore
namespace Go.Proofs.YtggffhmdgceljaaGreatDoor
open Go.RowKit
set_option linter.unusedVariables false

/-- Byte k of a number, the lowest one first. -/
def byt (v : Int) (k : Nat) : Int := v / 256 ^ k % 256
/-- The checksum of some bytes. -/
def chkOf (l : List Int) : Int := l.foldl (fun x b => (277 * x + b) % 16777199) 1
end Go.Proofs.YtggffhmdgceljaaGreatDoor

/-
  A block of bytes that is known whole; writeNumber, checksum and readNumber over it; the contract of frameOf for a telegram whose numbers are in their ranges: its 24 bytes.
-/
namespace Go.Proofs.YtggffhmdgceljaaGreatDoor
open Go.RowKit
set_option linter.unusedVariables false

/-- Block f of the world is these bytes. -/
def HasBlk (w : World) (f : Nat) (T : TypeId) (L : List Int) : Prop := w.heap[f]? = some (.cells (L.map (Value.int .u8)).toArray T (0, 0))

theorem HasBlk.cell {w : World} {f : Nat} {T : TypeId} {L : List Int} (h : HasBlk w f T L) {j : Nat} {v : Int} (hj : L[j]? = some v) : w.cell? ⟨f, j, none⟩ = some (.int .u8 v) := by
  rw [cell_of_row w f j _ T (0, 0) h]
  simp [hj]
theorem HasBlk.frozen {w : World} {f : Nat} {T : TypeId} {L : List Int} (h : HasBlk w f T L) (j : Nat) : w.frozen? ⟨f, j, none⟩ = false := by
  unfold HasBlk at h
  simp [World.frozen?, h]
theorem HasBlk.lt {w : World} {f : Nat} {T : TypeId} {L : List Int} (h : HasBlk w f T L) : f < w.heap.size := (Array.getElem?_eq_some_iff.1 h).1
theorem HasBlk.kept {w w' : World} {f : Nat} {T : TypeId} {L : List Int} (h : HasBlk w f T L) {B : Nat} (hb : Below B w w') (hB : f < B) : HasBlk w' f T L := (hb.block f hB).trans h
theorem HasBlk.drew {w : World} {f : Nat} {T : TypeId} {L : List Int} (h : HasBlk w f T L) : HasBlk w.drew f T L := h
theorem HasBlk.set {w : World} {f : Nat} {T : TypeId} {L : List Int} (h : HasBlk w f T L) (j : Nat) (v : Int) : HasBlk (w.setCell ⟨f, j, none⟩ (.int .u8 v)) f T (L.set j v) := by
  unfold HasBlk at *
  simp only [World.setCell, Array.getElem?_modify, if_true, h, Option.map_some]
  simp [List.map_set]

/-- Only block f has changed. -/
def OnlyBlk (w w' : World) (f : Nat) : Prop := w.grownBy w' (some f) ∧ w'.heap.size = w.heap.size
theorem OnlyBlk.set (w : World) (f j : Nat) (v : Value) : OnlyBlk w (w.setCell ⟨f, j, none⟩ v) f :=
  ⟨⟨rfl, rfl, rfl, by simp, fun k hk hne => Below.heap_setCell _ _ _ _ (fun e => hne (by rw [e]))⟩, by simp⟩
theorem OnlyBlk.trans {a b c : World} {f : Nat} (h : OnlyBlk a b f) (k : OnlyBlk b c f) : OnlyBlk a c f :=
  ⟨⟨k.1.os.trans h.1.os, k.1.tape.trans h.1.tape, k.1.output.trans h.1.output, by rw [k.2, h.2]; exact Nat.le_refl _, fun i hi hne => (k.1.block i (by rw [h.2]; exact hi) hne).trans (h.1.block i hi hne)⟩, k.2.trans h.2⟩
theorem OnlyBlk.drew {a b : World} {f : Nat} (h : OnlyBlk a.drew b f) : OnlyBlk a b f := ⟨⟨h.1.os, h.1.tape, h.1.output, h.1.size, h.1.block⟩, h.2⟩
theorem OnlyBlk.cell {w w' : World} {f : Nat} (h : OnlyBlk w w' f) {b j : Nat} {v : Value} (hc : w.cell? ⟨b, j, none⟩ = some v) (hne : b ≠ f) : w'.cell? ⟨b, j, none⟩ = some v :=
  h.1.cell hc (fun e => hne (Option.some.inj e))
theorem OnlyBlk.frozen {w w' : World} {f : Nat} (h : OnlyBlk w w' f) {b j : Nat} (hb : b < w.heap.size) (hne : b ≠ f) : w'.frozen? ⟨b, j, none⟩ = w.frozen? ⟨b, j, none⟩ :=
  World.frozen?_of_block (h.1.block b hb (fun e => hne (Option.some.inj e)))
theorem OnlyBlk.below {w w' : World} {f B : Nat} (h : OnlyBlk w w' f) (hB : B ≤ w.heap.size) (hf : B ≤ f) : Below B w w' :=
  (Below.refl _ _).grown h.1 hB (fun k hk => by cases hk; exact hf)

def w4 (L : List Int) (o : Nat) (v : Int) : List Int := (((L.set (o + 3) (byt v 0)).set (o + 2) (byt v 1)).set (o + 1) (byt v 2)).set o (byt v 3)
def w2 (L : List Int) (o : Nat) (v : Int) : List Int := (L.set (o + 1) (byt v 0)).set o (byt v 1)

/-- The first 20 bytes of a telegram's frame. -/
def frame20 (s c o x y z : Int) : List Int :=
  [77, s, byt c 1, byt c 0, o, byt (x + 1048576) 3, byt (x + 1048576) 2, byt (x + 1048576) 1, byt (x + 1048576) 0, byt (y + 1048576) 3, byt (y + 1048576) 2, byt (y + 1048576) 1, byt (y + 1048576) 0,
   byt (z + 1048576) 3, byt (z + 1048576) 2, byt (z + 1048576) 1, byt (z + 1048576) 0, 255 - s, 255 - byt c 1, 255 - byt c 0]
/-- A telegram's frame. -/
def frame (s c o x y z : Int) : List Int :=
  frame20 s c o x y z ++ [byt (chkOf (frame20 s c o x y z)) 3, byt (chkOf (frame20 s c o x y z)) 2, byt (chkOf (frame20 s c o x y z)) 1, byt (chkOf (frame20 s c o x y z)) 0]
theorem OnlyBlk.setRow (w : World) (g : Nat) (cs : Array Value) : OnlyBlk w (w.setRow g cs) g :=
  ⟨⟨rfl, rfl, rfl, by simp, fun k hk hne => setRow_other w g k _ (fun e => hne (by rw [e]))⟩, by simp⟩

end Go.Proofs.YtggffhmdgceljaaGreatDoor

/-
  The iterator over the places of a map: its contract for every loop body that keeps what lay below a number.
-/
namespace Go.Proofs.YtggffhmdgceljaaGreatDoor
open Go.RowKit Go.Shelf
set_option linter.unusedVariables false
attribute [local go_sem] Oper.semAt_some

/-- What a round must keep: the width's box. -/
def KeepsWide (Bw W : Nat) (A B : World) : Prop := A.cell? ⟨Bw, 0, none⟩ = some (.int .i64 (W : Nat)) → B.cell? ⟨Bw, 0, none⟩ = some (.int .i64 (W : Nat))
theorem KeepsWide.t {Bw W : Nat} {A B C : World} (h : KeepsWide Bw W A B) (k : KeepsWide Bw W B C) : KeepsWide Bw W A C := fun x => k (h x)
theorem KeepsWide.r (Bw W : Nat) (A : World) : KeepsWide Bw W A A := fun x => x
theorem KeepsWide.b {Bw W N : Nat} (A : World) (l : Nat) (o o' : Obj) (_ : N ≤ l) (hl : A.heap[l]? = some o) (ho : o.isCells = false) (_ : o.isWalk = false) : KeepsWide Bw W A (A.putObj l o') := fun x =>
  cell_kept x (grownBy_putObj' A l o') (fun r e => by cases e; exact ⟨o, hl, ho⟩)
end Go.Proofs.YtggffhmdgceljaaGreatDoor

/-
  Plain facts on binary floating point: the nearest word of a number that the format has, and what that word reads as; no Go, no program.
  Condition: none beyond the hypotheses written at each theorem.
-/
namespace Go.Proofs.YtggffhmdgceljaaGreatDoor
open Ieee

/-- x is the finite word with the sign s that stands for v units of the least place. -/
def IsNum (f : Format) (x : Nat) (s : Bool) (v : Nat) : Prop :=
  ∃ m e, f.read x = .number s m e ∧ f.leastPlace ≤ e ∧ m < 2 ^ (f.fractionBits + 1) ∧ m * 2 ^ (e - f.leastPlace).toNat = v

end Go.Proofs.YtggffhmdgceljaaGreatDoor

/-
  Plain facts on samples: a sample's word stands for an integer over 16; what Go's conversions, comparisons, products and quotients make of it.
  Condition: the hypotheses written at each theorem (sizes of the integers).
-/
namespace Go.Proofs.YtggffhmdgceljaaGreatDoor
open Ieee

/-- x is a word of float32 that stands for k/16 (0 has two words). -/
def Smp (x : Nat) (k : Int) : Prop := ∃ s, IsNum single x s (k.natAbs * 2 ^ 145) ∧ (k < 0 → s = true) ∧ (0 < k → s = false)

end Go.Proofs.YtggffhmdgceljaaGreatDoor

/-
  Contract of gridOf: the grid of a map whose samples' words are known.
-/
namespace Go.Proofs.YtggffhmdgceljaaGreatDoor
open Go.RowKit
set_option linter.unusedVariables false

/-- The samples of a map, word by word, and their integers. -/
structure Words (w : World) (b o n : Nat) (xs : List Nat) (ks : List Int) : Prop where
  len : xs.length = n
  lenk : ks.length = n
  small : n ≤ 4096
  cells : ∀ j, j < n → w.cell? ⟨b, o + j, none⟩ = some (.float .f32 (xs[j]?.getD 0))
  words : ∀ j, j < n → xs[j]?.getD 0 < 2 ^ 32
  smps : ∀ j, j < n → Smp (xs[j]?.getD 0) (ks[j]?.getD 0)
  sizes : ∀ j, j < n → (ks[j]?.getD 0).natAbs ≤ 16384

theorem Words.below {B : Nat} {w w' : World} {b o n : Nat} {xs : List Nat} {ks : List Int} (h : Words w b o n xs ks) (hb : Below B w w') (hB : b < B) : Words w' b o n xs ks :=
  ⟨h.len, h.lenk, h.small, fun j hj => (hb.cell (by exact hB)).trans (h.cells j hj), h.words, h.smps, h.sizes⟩

end Go.Proofs.YtggffhmdgceljaaGreatDoor

/-
  Contract of CheckMap for a map that is right: width and height from 1 to 64, as many samples as places, each one a sample's word.
-/
namespace Go.Proofs.YtggffhmdgceljaaGreatDoor
open Go.RowKit
set_option linter.unusedVariables false

/-- A right map in memory. -/
structure RightMap (w : World) (W H : Int) (b o n : Nat) (xs : List Nat) (ks : List Int) : Prop extends Words w b o n xs ks where
  wid : 1 ≤ W ∧ W ≤ 64
  hei : 1 ≤ H ∧ H ≤ 64
  area : W * H = n

theorem RightMap.below {B : Nat} {w w' : World} {W H : Int} {b o n : Nat} {xs : List Nat} {ks : List Int} (h : RightMap w W H b o n xs ks) (hb : Below B w w') (hB : b < B) : RightMap w' W H b o n xs ks :=
  ⟨h.toWords.below hb hB, h.wid, h.hei, h.area⟩

end Go.Proofs.YtggffhmdgceljaaGreatDoor

/-
  Telegrams; the contract of Received for a stream of frames of telegrams whose numbers are in their ranges: these telegrams, nothing skipped, no error.
-/
namespace Go.Proofs.YtggffhmdgceljaaGreatDoor
open Go.RowKit
set_option linter.unusedVariables false

/-- A telegram's numbers. -/
structure Tel where
  s : Int
  c : Int
  o : Int
  x : Int
  y : Int
  z : Int
def Tel.val (t : Tel) : List Value := [.int .i64 t.s, .int .i64 t.c, .int .i64 t.o, .int .i64 t.x, .int .i64 t.y, .int .i64 t.z]
def Tel.bytes (t : Tel) : List Value := (frame t.s t.c t.o t.x t.y t.z).map (Value.int .u8)
def tel0 : Tel := ⟨0, 0, 0, 0, 0, 0⟩

theorem owns_kept {w w' : World} {B T sz n N : Nat} {v : Value} {xs : List Value} (h : w.ownsRow B T sz v n xs) (hb : Below N w w') (hN : w.heap.size ≤ N) : w'.ownsRow B T sz v n xs := by
  refine ⟨h.1, ?_⟩
  rcases h.2 with h | ⟨g, cap, cur, h1, h2, h3, h4⟩
  · exact .inl h
  · exact .inr ⟨g, cap, cur, h1, h2, (hb.block g (by have := (Array.getElem?_eq_some_iff.1 h3).1; omega)).trans h3, h4⟩

end Go.Proofs.YtggffhmdgceljaaGreatDoor

/-
  Contracts of countersOf and of mapped at telegrams.
-/
namespace Go.Proofs.YtggffhmdgceljaaGreatDoor
open Go.RowKit
set_option linter.unusedVariables false

/-- These telegrams lie at an address. -/
def TelsAt (w : World) (b q : Nat) (L : List Tel) : Prop := ∀ k, k < L.length → w.rangeAt b (q + k * 6) (L[k]?.getD tel0).val
theorem TelsAt.kept {w w' : World} {b q B : Nat} {L : List Tel} (h : TelsAt w b q L) (hb : Below B w w') (hB : b < B) : TelsAt w' b q L := fun k hk j v hv => by
  rw [hb.cell (by exact hB)]; exact h k hk j v hv
end Go.Proofs.YtggffhmdgceljaaGreatDoor

/-
  Contract of painted with the literal of Added: the map whose integers the literal tells for each place.
-/
namespace Go.Proofs.YtggffhmdgceljaaGreatDoor
open Go.RowKit Go.Shelf
set_option linter.unusedVariables false
attribute [local go_sem] Oper.semAt_some

theorem row_own {β : Type} (B : Nat) (cs : Array Value) (t : TypeId) : Own (fun (_ : β) W => W.heap[B]? = some (.cells cs t (0, 0))) := fun s X Y row h hg hr =>
  (hg.block B (Array.getElem?_eq_some_iff.1 h).1 (fun e => by obtain ⟨o, ho, hc⟩ := hr B e.symm; rw [h] at ho; cases ho; cases hc)).trans h

end Go.Proofs.YtggffhmdgceljaaGreatDoor
