/-
  What TopEmberSent's walk keeps: the map, its integers; the code from a region on.
-/
import Derived.Test.YtnlbgikhkpalcaaCXs
import Derived.Test.YtnlbgikhkpalcaaCXh
import Derived.Test.YtnlbgikhkpalcaaCMa
import Derived.Test.YtnlbgikhkpalcaaCWm
import Derived.Test.YtnlbgikhkpalcaaCWr
import Derived.Deep.CutBlock
import Derived.Deep.DeepCutAuto
namespace Go.Proofs.Ytnlbgikhkpalcaa
open Go.RowKit
set_option linter.unusedVariables false

/-- Whether a statement begins with a region. -/
def headsIt (n : Nat) : Code → Bool
  | .region m _ _ => m == n
  | .seq a _ => headsIt n a
  | .loop c => headsIt n c
  | .block _ c => headsIt n c
  | .scope c => headsIt n c
  | _ => false
/-- The code from the statement on that begins with a region. -/
def tailAt (n : Nat) : Code → Option Code
  | .seq a b => if headsIt n a then some (.seq a b) else match tailAt n b with
    | some c => some c
    | none => tailAt n a
  | .block _ c => tailAt n c
  | .scope c => tailAt n c
  | c => if headsIt n c then some c else none
noncomputable def tailOf (n : Nat) : Code := ((Try.f3.body.bind (tailAt n)).getD .skip)

def SentPost (w : World) (e : Ending) (w' : World) : Prop := e = .returned (.bool true) ∧ Below w.heap.size w w'

theorem owns_below {w w' : World} {B T sz n c g N : Nat} {xs : List Value} (h : w.ownsRow B T sz (.slice (some ⟨g, 0, none⟩) n c) n xs) (hb : Below N w w') (hg : g < N) : w'.ownsRow B T sz (.slice (some ⟨g, 0, none⟩) n c) n xs := by
  refine ⟨h.1, ?_⟩
  rcases h.2 with ⟨h, _⟩ | ⟨g', cap, cur, h1, h2, h3, h4⟩
  · cases h
  · simp at h1
    obtain ⟨rfl, rfl⟩ := h1
    exact .inr ⟨g, c, cur, rfl, h2, (hb.block g hg).trans h3, h4⟩

theorem tel_row {w : World} {B : Nat} {T : TypeId} {s c o x y z : Value} (h : w.heap[B]? = some (.cells #[s, c, o, x, y, z] T (0, 0))) : w.cell? ⟨B, 0, none⟩ = some s ∧ w.cell? ⟨B, 1, none⟩ = some c ∧ w.cell? ⟨B, 2, none⟩ = some o ∧ w.cell? ⟨B, 3, none⟩ = some x ∧ w.cell? ⟨B, 4, none⟩ = some y ∧ w.cell? ⟨B, 5, none⟩ = some z ∧ w.frozen? ⟨B, 0, none⟩ = false :=
  ⟨by rw [cell_of_row w B 0 _ _ (0, 0) h]; rfl, by rw [cell_of_row w B 1 _ _ (0, 0) h]; rfl, by rw [cell_of_row w B 2 _ _ (0, 0) h]; rfl, by rw [cell_of_row w B 3 _ _ (0, 0) h]; rfl, by rw [cell_of_row w B 4 _ _ (0, 0) h]; rfl, by rw [cell_of_row w B 5 _ _ (0, 0) h]; rfl, by simp [World.frozen?, h]⟩
theorem tel_set0 {w : World} {B : Nat} {T : TypeId} {s c o x y z : Value} (h : w.heap[B]? = some (.cells #[s, c, o, x, y, z] T (0, 0))) (v : Value) : (w.setCell ⟨B, 0, none⟩ v).heap[B]? = some (.cells #[v, c, o, x, y, z] T (0, 0)) := by
  simp only [World.setCell, Array.getElem?_modify, if_true, h, Option.map_some]
  simp
theorem row24 {F : List Value} (h : F.length = 24) : (List.replicate 24 (Value.int .u8 0)).toArray.size = F.toArray.size ∧ (Try.prog.info? 36).map (·.size) = some F.toArray.size := by
  rw [size24]; simp [h]
theorem setRow_blk {w : World} {B : Nat} {T : TypeId} {old : Array Value} (h : w.heap[B]? = some (.cells old T (0, 0))) (cs : Array Value) : (w.setRow B cs).heap[B]? = some (.cells cs T (0, 0)) := setRow_heap w B old cs T _ h
theorem setRow_blk_other {w : World} {B B' : Nat} {o : Obj} (h : w.heap[B]? = some o) (hne : B ≠ B') (cs : Array Value) : (w.setRow B' cs).heap[B]? = some o := (setRow_other w B' B cs hne).trans h
theorem row_news {w : World} {B : Nat} {T : TypeId} {F : List Value} (h : w.heap[B]? = some (.cells F.toArray T (0, 0))) : ∀ j u, F[j]? = some u → w.cell? ((⟨B, 0, none⟩ : Addr).add j) = some u := fun j u hu => by
  rw [Addr.add_mid, cell_of_row w B (0 + j) _ _ (0, 0) h, Nat.zero_add]
  simpa using hu
theorem bytes_len (L : List Tel) : (L.flatMap Tel.bytes).length = 24 * L.length := by
  induction L with
  | nil => rfl
  | cons t L ih =>
    rw [List.flatMap_cons, List.length_append, ih, List.length_cons]
    have : t.bytes.length = 24 := by simp [Tel.bytes, frame_len]
    omega
theorem Try.infoU8 : (Try.prog.info? 5).map (fun i => (i.zero, i.size, i.bytes)) = some (some (.int .u8 0), 1, 1) := by kernel_rfl
/-- Which telegrams of station 7 are kept. -/
def keptF (lost : Int) (i : Nat) : Bool := bits BinOp.and IntKind.u16 (lost / 2 ^ i) 1 == 0
structure Sent (w : World) (W H : Int) (b o n c : Nat) (xs : List Nat) (ks : List Int) (m g cc : Nat) (lev : List Int) (B : Nat) (wx : World) : Prop where
  below : Below w.heap.size w wx
  box : wx.heap[w.heap.size]? = some (.cells #[.int .i64 W, .int .i64 H, .slice (some ⟨b, o, none⟩) n c] 24 (0, 0))
  right : RightMap wx W H b o n xs ks
  bl : b < w.heap.size
  own : wx.ownsRow B 3 1 (.slice (some ⟨g, 0, none⟩) (3 * m) cc) (3 * m) (lev.map (Value.int .i64))
  base : w.heap.size < B
  levk : ∀ j, j < n → lev[j]?.getD 0 = ks[j]?.getD 0
  levb : ∀ j : Nat, (lev[j]?.getD 0 : Int).natAbs ≤ 16384
  levz : ∀ j, n ≤ j → lev[j]?.getD 0 = 0
  m1 : 1 ≤ m
  m12 : m ≤ 12
  nm : n ≤ 3 * m
  n1 : 1 ≤ n
  n36 : n ≤ 36

section
variable {w : World} {W H : Int} {b o n c : Nat} {xs : List Nat} {ks : List Int} {m g cc : Nat} {lev : List Int} {B : Nat} {wx wy : World}
theorem Sent.len (h : Sent w W H b o n c xs ks m g cc lev B wx) : lev.length = 3 * m := by have := h.own.1; simpa using this
theorem Sent.gl (h : Sent w W H b o n c xs ks m g cc lev B wx) : B ≤ g ∧ g < wx.heap.size := h.own.lt g rfl
theorem Sent.keptN {N : Nat} (h : Sent w W H b o n c xs ks m g cc lev B wx) (hb : Below N wx wy) (hg : g < N) (hw : w.heap.size < N) : Sent w W H b o n c xs ks m g cc lev B wy :=
  { h with
    below := h.below.trans (hb.mono (by omega))
    box := (hb.block _ hw).trans h.box
    right := h.right.below hb (by have := h.bl; omega)
    own := owns_below h.own hb hg }
theorem Sent.kept (h : Sent w W H b o n c xs ks m g cc lev B wx) (hb : Below wx.heap.size wx wy) : Sent w W H b o n c xs ks m g cc lev B wy :=
  h.keptN hb h.gl.2 (by have := h.gl; have := h.base; omega)
theorem Sent.cell (h : Sent w W H b o n c xs ks m g cc lev B wx) {j : Nat} (hj : j < 3 * m) : wx.cell? ⟨g, j, none⟩ = some (.int .i64 (lev[j]?.getD 0)) :=
  owns_cell h.own (by rw [List.getElem?_map, List.getElem?_eq_getElem (by rw [h.len]; exact hj)]; rfl)
theorem Sent.b0 (h : Sent w W H b o n c xs ks m g cc lev B wx) : wx.cell? ⟨w.heap.size, 0, none⟩ = some (.int .i64 W) := by rw [cell_of_row wx _ 0 _ _ (0, 0) h.box]; rfl
theorem Sent.b1 (h : Sent w W H b o n c xs ks m g cc lev B wx) : wx.cell? ⟨w.heap.size, 1, none⟩ = some (.int .i64 H) := by rw [cell_of_row wx _ 1 _ _ (0, 0) h.box]; rfl
theorem Sent.b2 (h : Sent w W H b o n c xs ks m g cc lev B wx) : wx.cell? ⟨w.heap.size, 2, none⟩ = some (.slice (some ⟨b, o, none⟩) n c) := by rw [cell_of_row wx _ 2 _ _ (0, 0) h.box]; rfl
theorem Sent.good (h : Sent w W H b o n c xs ks m g cc lev B wx) (s : Int) (hs : s = 7 ∨ s = 8) (i : Nat) (hi : i < m) : (telOf lev s i).Good := by
  have h1 := h.levb (3 * i)
  have h2 := h.levb (3 * i + 1)
  have h3 := h.levb (3 * i + 2)
  have hm := h.m12
  unfold Tel.Good telOf
  constructor <;> (try dsimp only) <;> omega
end
end Go.Proofs.Ytnlbgikhkpalcaa
