/-
  What TopEmberSent's third loop keeps and writes: the telegrams that came, which came, and the two maps.
-/
import Derived.Test.YtnlbgikhkpalcaaCYa
namespace Go.Proofs.Ytnlbgikhkpalcaa
open Go.RowKit
set_option linter.unusedVariables false

/-- Where the made things lie. -/
structure MadeAt where
  N : Nat
  gl : Option Addr
  cl : Nat
  gc : Nat
  B18 : Nat
  gA : Nat
  B19 : Nat
  gR : Nat
  cR : Nat
def MadeAt.Apart (p : MadeAt) : Prop :=
  p.N ≤ p.gc ∧ p.N ≤ p.B18 ∧ p.N ≤ p.gA ∧ p.N ≤ p.B19 ∧ p.N ≤ p.gR ∧ p.gc ≠ p.B18 ∧ p.gc ≠ p.gA ∧ p.gc ≠ p.B19 ∧ p.gc ≠ p.gR ∧ p.B18 ≠ p.gA ∧ p.B18 ≠ p.B19 ∧ p.B18 ≠ p.gR ∧ p.gA ≠ p.B19 ∧ p.gA ≠ p.gR ∧ p.B19 ≠ p.gR ∧
    (∀ k, (Value.slice p.gl 0 p.cl).ownBlock = some k → p.N ≤ k ∧ k ≠ p.gc ∧ k ≠ p.B18 ∧ k ≠ p.gA ∧ k ≠ p.B19 ∧ k ≠ p.gR)
structure Made (p : MadeAt) (W H : Int) (n m : Nat) (L : List Tel) (cs : List Bool) (av rs : List Nat) (wz : World) : Prop where
  tels : wz.ownsRow p.N 35 6 (.slice p.gl L.length p.cl) L.length (L.flatMap Tel.val)
  came : wz.ownsRow p.N 4 1 (.slice (some ⟨p.gc, 0, none⟩) m m) m (cs.map Value.bool)
  b18 : wz.heap[p.B18]? = some (.cells #[.int .i64 W, .int .i64 H, .slice (some ⟨p.gA, 0, none⟩) n n] 24 (0, 0))
  b19 : wz.heap[p.B19]? = some (.cells #[.int .i64 W, .int .i64 H, .slice (some ⟨p.gR, 0, none⟩) n p.cR] 24 (0, 0))
  again : wz.ownsRow p.N 27 1 (.slice (some ⟨p.gA, 0, none⟩) n n) n (av.map (Value.float .f32))
  rest : wz.ownsRow p.N 27 1 (.slice (some ⟨p.gR, 0, none⟩) n p.cR) n (rs.map (Value.float .f32))

section
variable {p : MadeAt} {W H : Int} {n m : Nat} {L : List Tel} {cs : List Bool} {av rs : List Nat} {wz wy : World}
theorem Made.below (h : Made p W H n m L cs av rs wz) (hb : Below wz.heap.size wz wy) : Made p W H n m L cs av rs wy :=
  ⟨owns_kept h.tels hb (Nat.le_refl _), owns_kept h.came hb (Nat.le_refl _), (hb.block _ (lt_of_blk h.b18)).trans h.b18, (hb.block _ (lt_of_blk h.b19)).trans h.b19, owns_kept h.again hb (Nat.le_refl _), owns_kept h.rest hb (Nat.le_refl _)⟩
theorem ownBlock_len {ao : Option Addr} {n c k : Nat} : (Value.slice ao n c).ownBlock = (Value.slice ao k c).ownBlock := by
  cases ao <;> rfl
theorem Made.setCame (h : Made p W H n m L cs av rs wz) (ha : p.Apart) (i : Nat) (v : Bool) : Made p W H n m L (cs.set i v) av rs (wz.setCell ⟨p.gc, i, none⟩ (.bool v)) := by
  obtain ⟨a1, a2, a3, a4, a5, a6, a7, a8, a9, a10, a11, a12, a13, a14, a15, a16⟩ := ha
  have hg := (OnlyBlk.set wz p.gc i (.bool v)).1
  refine ⟨h.tels.kept hg ?_, ?_, blk_set_other h.b18 a6 _, blk_set_other h.b19 a8 _, h.again.kept hg (.inr fun e => a7 (Option.some.inj e).symm), h.rest.kept hg (.inr fun e => a9 (Option.some.inj e).symm)⟩
  · cases e : (Value.slice p.gl L.length p.cl).ownBlock with
    | none => exact .inl rfl
    | some k => exact .inr fun e' => (a16 k (by rw [← e]; exact ownBlock_len)).2.1 (Option.some.inj e')
  · rw [List.map_set]; exact (h.came.stored i (.bool v)).1
theorem Made.setAgain (h : Made p W H n m L cs av rs wz) (ha : p.Apart) (i : Nat) (x : Nat) : Made p W H n m L cs (av.set i x) rs (wz.setCell ⟨p.gA, i, none⟩ (.float .f32 x)) := by
  obtain ⟨a1, a2, a3, a4, a5, a6, a7, a8, a9, a10, a11, a12, a13, a14, a15, a16⟩ := ha
  have hg := (OnlyBlk.set wz p.gA i (.float .f32 x)).1
  refine ⟨h.tels.kept hg ?_, h.came.kept hg (.inr fun e => a7 (Option.some.inj e)), blk_set_other h.b18 (fun e => a10 e.symm) _, blk_set_other h.b19 a13 _, ?_, h.rest.kept hg (.inr fun e => a14 (Option.some.inj e).symm)⟩
  · cases e : (Value.slice p.gl L.length p.cl).ownBlock with
    | none => exact .inl rfl
    | some k => exact .inr fun e' => (a16 k (by rw [← e]; exact ownBlock_len)).2.2.2.1 (Option.some.inj e')
  · rw [List.map_set]; exact (h.again.stored i (.float .f32 x)).1
theorem Made.setRest (h : Made p W H n m L cs av rs wz) (ha : p.Apart) (i : Nat) (x : Nat) : Made p W H n m L cs av (rs.set i x) (wz.setCell ⟨p.gR, i, none⟩ (.float .f32 x)) := by
  obtain ⟨a1, a2, a3, a4, a5, a6, a7, a8, a9, a10, a11, a12, a13, a14, a15, a16⟩ := ha
  have hg := (OnlyBlk.set wz p.gR i (.float .f32 x)).1
  refine ⟨h.tels.kept hg ?_, h.came.kept hg (.inr fun e => a9 (Option.some.inj e)), blk_set_other h.b18 (fun e => a12 e.symm) _, blk_set_other h.b19 (fun e => a15 e.symm) _, h.again.kept hg (.inr fun e => a14 (Option.some.inj e)), ?_⟩
  · cases e : (Value.slice p.gl L.length p.cl).ownBlock with
    | none => exact .inl rfl
    | some k => exact .inr fun e' => (a16 k (by rw [← e]; exact ownBlock_len)).2.2.2.2.2 (Option.some.inj e')
  · rw [List.map_set]; exact (h.rest.stored i (.float .f32 x)).1
theorem Made.cameAt (h : Made p W H n m L cs av rs wz) {i : Nat} (hi : i < cs.length) : wz.cell? ⟨p.gc, i, none⟩ = some (.bool (cs[i]?.getD false)) ∧ wz.frozen? ⟨p.gc, i, none⟩ = false :=
  ⟨owns_cell h.came (by rw [List.getElem?_map, List.getElem?_eq_getElem hi]; rfl), h.came.frozenAt i⟩
theorem Made.againAt (h : Made p W H n m L cs av rs wz) {i : Nat} (hi : i < av.length) : wz.cell? ⟨p.gA, i, none⟩ = some (.float .f32 (av[i]?.getD 0)) ∧ wz.frozen? ⟨p.gA, i, none⟩ = false :=
  ⟨owns_cell h.again (by rw [List.getElem?_map, List.getElem?_eq_getElem hi]; rfl), h.again.frozenAt i⟩
theorem Made.restAt (h : Made p W H n m L cs av rs wz) {i : Nat} (hi : i < rs.length) : wz.cell? ⟨p.gR, i, none⟩ = some (.float .f32 (rs[i]?.getD 0)) ∧ wz.frozen? ⟨p.gR, i, none⟩ = false :=
  ⟨owns_cell h.rest (by rw [List.getElem?_map, List.getElem?_eq_getElem hi]; rfl), h.rest.frozenAt i⟩
theorem Made.lens (h : Made p W H n m L cs av rs wz) : cs.length = m ∧ av.length = n ∧ rs.length = n :=
  ⟨by have := h.came.1; simpa using this, by have := h.again.1; simpa using this, by have := h.rest.1; simpa using this⟩
end
end Go.Proofs.Ytnlbgikhkpalcaa
