/-
  What stays while Spread's inner loop writes the copy's integers.
-/
import Derived.Test.YtnlbgikhkpalcaaCXn
import Derived.Test.YtnlbgikhkpalcaaCMb
namespace Go.Proofs.Ytnlbgikhkpalcaa
open Go.RowKit Go.Shelf
set_option linter.unusedVariables false

/-- The blocks of Spread's round. -/
structure SpP where
  B7 : Nat
  B8 : Nat
  Bw : Nat
  Bx : Nat
  ga : Nat
  gb : Nat
  gn : Nat
  o7 : Obj
  o8 : Obj
  ow : Obj
  ox : Obj
  oa : Obj
  on : Obj
  N : Nat
  M : Nat
  n : Nat
  cb : Nat
  T : TypeId
  W0 : World
  W1 : World
def SpP.Apart (p : SpP) : Prop := p.gb ≠ p.B7 ∧ p.gb ≠ p.B8 ∧ p.gb ≠ p.Bw ∧ p.gb ≠ p.Bx ∧ p.gb ≠ p.ga ∧ p.gb ≠ p.gn ∧ p.M ≤ p.gb
structure SpW (p : SpP) (cs : List Int) (w : World) : Prop where
  own : w.ownsRow p.N p.T 1 (.slice (some ⟨p.gb, 0, none⟩) p.n p.cb) p.n (cs.map (Value.int .i64))
  b7 : w.heap[p.B7]? = some p.o7
  b8 : w.heap[p.B8]? = some p.o8
  bw : w.heap[p.Bw]? = some p.ow
  bx : w.heap[p.Bx]? = some p.ox
  ba : w.heap[p.ga]? = some p.oa
  bn : w.heap[p.gn]? = some p.on
  bel : Below p.M p.W0 w
  keeps : KeepsOthers p.W1 w
theorem SpW.below {p : SpP} {cs : List Int} {w w' : World} (h : SpW p cs w) (hM : p.M ≤ p.W0.heap.size) (hb : Below w.heap.size w w') : SpW p cs w' :=
  ⟨owns_kept h.own hb (Nat.le_refl _), (hb.block _ (lt_of_blk h.b7)).trans h.b7, (hb.block _ (lt_of_blk h.b8)).trans h.b8, (hb.block _ (lt_of_blk h.bw)).trans h.bw, (hb.block _ (lt_of_blk h.bx)).trans h.bx, (hb.block _ (lt_of_blk h.ba)).trans h.ba,
    (hb.block _ (lt_of_blk h.bn)).trans h.bn, h.bel.trans (hb.mono (Nat.le_trans hM h.bel.size)), h.keeps.trans (KeepsOthers.of_below hb)⟩
theorem SpW.drew {p : SpP} {cs : List Int} {w : World} (h : SpW p cs w) : SpW p cs w.drew :=
  ⟨h.own.drew, h.b7, h.b8, h.bw, h.bx, h.ba, h.bn, h.bel.drew, h.keeps.trans (KeepsOthers.drew w)⟩
theorem SpW.alloc {p : SpP} {cs : List Int} {w : World} (h : SpW p cs w) (hM : p.M ≤ p.W0.heap.size) (o : Obj) : SpW p cs (w.alloc o) :=
  h.below hM ((Below.refl _ w).alloc (Nat.le_refl _) o)
theorem SpW.store {p : SpP} {cs : List Int} {w : World} (h : SpW p cs w) (ha : p.Apart) (j : Nat) (v : Int) : SpW p (cs.set j v) (w.setCell ⟨p.gb, j, none⟩ (.int .i64 v)) := by
  obtain ⟨n1, n2, n3, n4, n5, n6, n7⟩ := ha
  refine ⟨?_, blk_set_other h.b7 n1 _, blk_set_other h.b8 n2 _, blk_set_other h.bw n3 _, blk_set_other h.bx n4 _, blk_set_other h.ba n5 _, blk_set_other h.bn n6 _, h.bel.setCell n7 _, h.keeps.trans (KeepsOthers.setCell _ _ _)⟩
  rw [List.map_set]
  exact (h.own.stored j (.int .i64 v)).1
theorem SpW.cell {p : SpP} {cs : List Int} {w : World} (h : SpW p cs w) {j : Nat} (hj : j < cs.length) : w.cell? ⟨p.gb, j, none⟩ = some (.int .i64 (cs[j]?.getD 0)) :=
  owns_cell h.own (by rw [List.getElem?_map, List.getElem?_eq_getElem hj]; rfl)
theorem SpW.frozen {p : SpP} {cs : List Int} {w : World} (h : SpW p cs w) (j : Nat) : w.frozen? ⟨p.gb, j, none⟩ = false := h.own.frozenAt j
end Go.Proofs.Ytnlbgikhkpalcaa
