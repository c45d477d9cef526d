/-
  The statement that takes the parts of two vectors at once: two new blocks, whatever the order in which they were made.
-/
import Derived.Test.YtggffhmdgceljaaGreatDoorRows
import Derived.WalkKit
import Derived.WalkSpells
import Derived.WalkLawsBesides
import Derived.Lib.Hide
import Derived.BigQuiet
import Derived.Deep.QuietTactic
import Derived.Handy
import Derived.Deep.RegionHeld3
import Derived.Deep.RegionWith
import Derived.StillTailTactics
import Derived.RangeFuncNested
import Derived.RangeFuncBound
import Derived.RangeFuncCalls
import Derived.RangeFuncLeaves
import Derived.RangeFuncBox
import Derived.Shelf.Abstract
import Derived.Shelf.RegionOpen
import Derived.OwnWalkIn
import Derived.TacticsInMore
import Derived.LoopNIn
import Derived.LoopIn
import Derived.Maps.AppendAt
import Derived.Test.YtggffhmdgceljaaGreatDoorProg
import Derived.Laws.FloatArith
import Derived.Laws.BitsAllLaws
import Derived.Deep.DeepCutAuto
import Derived.Stop.BytesEq
import Derived.Deep.MidRow
import Derived.Laws.CopyRow
import Derived.WalkMore
import Derived.Deep.DrawnRows
import Derived.Deep.CutBlock
import Derived.Orders
import Derived.LoopTactic
import Derived.Laws.StructEq
import Derived.Deep.RegionLaw
import Derived.RegionTactic
import Derived.StillTail
import Derived.Test.YtggffhmdgceljaaGreatDoorOwaWn
import Derived.Test.YtggffhmdgceljaaGreatDoorOwaXe
import Derived.Test.YtggffhmdgceljaaGreatDoorOwaWa
import Derived.Test.YtggffhmdgceljaaGreatDoorOwaIb
namespace Go.Proofs.YtggffhmdgceljaaGreatDoor
open Go.RowKit
set_option linter.unusedVariables false
set_option linter.unusedSimpArgs false

def twoOps (l1 c1 l2 c2 n7 n8 pa pb : Nat) (s : String) : Array Oper :=
  #[{ dst := some l1, op := Op.load 23 (Operand.tmp pa), type := 23, pos := s, after := #[], guard := none },
    { dst := some c1, op := Op.call { callee := Callee.value (Operand.func 45), args := #[Operand.tmp l1], argTypes := #[23] }, type := 94, pos := s, after := #[{ on := 0, ground := Ground.data }], guard := none },
    { dst := some l2, op := Op.load 23 (Operand.tmp pb), type := 23, pos := s, after := #[], guard := none },
    { dst := some c2, op := Op.call { callee := Callee.value (Operand.func 45), args := #[Operand.tmp l2], argTypes := #[23] }, type := 94, pos := s, after := #[{ on := 2, ground := Ground.data }, { on := 1, ground := Ground.chain }], guard := none },
    { dst := some n7, op := Op.alloc 94, type := 0, pos := s, after := #[], guard := none },
    { dst := some n8, op := Op.alloc 94, type := 0, pos := s, after := #[], guard := none },
    { dst := none, op := Op.store 94 (Operand.tmp n7) (Operand.tmp c1), type := 0, pos := s,
      after := #[{ on := 4, ground := Ground.data }, { on := 1, ground := Ground.data }, { on := 3, ground := Ground.chain }, { on := 0, ground := Ground.phase }, { on := 1, ground := Ground.phase },
        { on := 2, ground := Ground.textOnly Departure.lateStores }, { on := 3, ground := Ground.textOnly Departure.lateStoresUnsure }, { on := 4, ground := Ground.phase }, { on := 5, ground := Ground.phase }], guard := none },
    { dst := none, op := Op.store 94 (Operand.tmp n8) (Operand.tmp c2), type := 0, pos := s,
      after := #[{ on := 5, ground := Ground.data }, { on := 3, ground := Ground.data }, { on := 6, ground := Ground.chain }, { on := 0, ground := Ground.phase }, { on := 1, ground := Ground.phase }, { on := 2, ground := Ground.phase },
        { on := 3, ground := Ground.phase }, { on := 4, ground := Ground.phase }, { on := 5, ground := Ground.phase }, { on := 6, ground := Ground.phase }], guard := none }]

/-- What holds after the operations that are listed. -/
structure TwoI (l1 c1 l2 c2 n7 n8 : Nat) (a : Act) (w : World) (x y z x' y' z' : Int) (l : Array Bool) (a' : Act) (w' : World) : Prop where
  size : l.size = 8
  dfs : a'.defers = a.defers
  tsz : a'.tmps.size = a.tmps.size
  rest : ∀ k, k ≠ l1 → k ≠ c1 → k ≠ l2 → k ≠ c2 → k ≠ n7 → k ≠ n8 → a'.tmps[k]? = a.tmps[k]?
  blw : Below w.heap.size w w'
  v0 : l.getD 0 false = true → a'.tmps[l1]? = some (.agg #[.int .i64 x, .int .i64 y, .int .i64 z])
  v1 : l.getD 1 false = true → a'.tmps[c1]? = some (.agg #[.int .i64 x, .int .i64 y, .int .i64 z])
  v2 : l.getD 2 false = true → a'.tmps[l2]? = some (.agg #[.int .i64 x', .int .i64 y', .int .i64 z'])
  v3 : l.getD 3 false = true → a'.tmps[c2]? = some (.agg #[.int .i64 x', .int .i64 y', .int .i64 z'])
  m7 : l.getD 4 false = true → ∃ B u v t, a'.tmps[n7]? = some (.pointer (some ⟨B, 0, none⟩)) ∧ w.heap.size ≤ B ∧ w'.heap[B]? = some (.cells #[u, v, t] 94 (0, 0)) ∧
    (l.getD 6 false = true → u = .int .i64 x ∧ v = .int .i64 y ∧ t = .int .i64 z)
  m8 : l.getD 5 false = true → ∃ B u v t, a'.tmps[n8]? = some (.pointer (some ⟨B, 0, none⟩)) ∧ w.heap.size ≤ B ∧ w'.heap[B]? = some (.cells #[u, v, t] 94 (0, 0)) ∧
    (l.getD 7 false = true → u = .int .i64 x' ∧ v = .int .i64 y' ∧ t = .int .i64 z')
  c6 : l.getD 6 false = true → l.getD 4 false = true
  c7 : l.getD 7 false = true → l.getD 5 false = true
  ne : l.getD 4 false = true → l.getD 5 false = true → a'.tmps[n7]? ≠ a'.tmps[n8]?

def Apart6 (l1 c1 l2 c2 n7 n8 : Nat) : Prop := (l1 ≠ c1 ∧ l1 ≠ l2 ∧ l1 ≠ c2 ∧ l1 ≠ n7 ∧ l1 ≠ n8) ∧ (c1 ≠ l2 ∧ c1 ≠ c2 ∧ c1 ≠ n7 ∧ c1 ≠ n8) ∧ (l2 ≠ c2 ∧ l2 ≠ n7 ∧ l2 ≠ n8) ∧ (c2 ≠ n7 ∧ c2 ≠ n8) ∧ n7 ≠ n8

theorem set_get {l : Array Bool} {i j : Nat} (hi : i < l.size) : (l.setIfInBounds i true).getD j false = if i = j then true else l.getD j false := by
  by_cases h : i = j
  · subst h; simp [hi]
  · rw [getD_set_ne false h, if_neg h]
theorem eval_get {a : Act} {t : Nat} {v : Value} (h : a.tmps[t]? = some v) : a.eval (.tmp t) = v := by
  show a.tmps.getD t undef = v
  rw [Array.getD_eq_getD_getElem?, h]
  rfl

section
variable {l1 c1 l2 c2 n7 n8 pa pb : Nat} {s : String} {a : Act} {w : World} {x y z x' y' z' : Int} {BA BB : Nat} {Q : Exit → Act → World → Prop}
    (hA : Apart6 l1 c1 l2 c2 n7 n8) (hz : l1 < a.tmps.size ∧ c1 < a.tmps.size ∧ l2 < a.tmps.size ∧ c2 < a.tmps.size ∧ n7 < a.tmps.size ∧ n8 < a.tmps.size)
    (hpa : a.tmps[pa]? = some (.pointer (some ⟨BA, 0, none⟩))) (hpb : a.tmps[pb]? = some (.pointer (some ⟨BB, 0, none⟩)))
    (hna : pa ≠ l1 ∧ pa ≠ c1 ∧ pa ≠ l2 ∧ pa ≠ c2 ∧ pa ≠ n7 ∧ pa ≠ n8) (hnb : pb ≠ l1 ∧ pb ≠ c1 ∧ pb ≠ l2 ∧ pb ≠ c2 ∧ pb ≠ n7 ∧ pb ≠ n8)
    (hBA : w.heap[BA]? = some (.cells #[.int .i64 x, .int .i64 y, .int .i64 z] 23 (0, 0))) (hBB : w.heap[BB]? = some (.cells #[.int .i64 x', .int .i64 y', .int .i64 z'] 23 (0, 0)))
include hA hz hpa hpb hna hnb hBA hBB

set_option maxRecDepth 100000 in
set_option maxHeartbeats 1600000 in
theorem two_step0 (l : Array Bool) (a' : Act) (w' : World) (hI : TwoI l1 c1 l2 c2 n7 n8 a w x y z x' y' z' l a' w') :
    wpOp Tryz.prog (twoOps l1 c1 l2 c2 n7 n8 pa pb s) Q 0 (fun a'' w'' => TwoI l1 c1 l2 c2 n7 n8 a w x y z x' y' z' (l.setIfInBounds 0 true) a'' w'') a' w' := by
  have y0 := hpb; have y1 := hnb; have y2 := hBB
  clear y0 y1 y2
  obtain ⟨⟨h_l1_c1, h_l1_l2, h_l1_c2, h_l1_n7, h_l1_n8⟩, ⟨h_c1_l2, h_c1_c2, h_c1_n7, h_c1_n8⟩, ⟨h_l2_c2, h_l2_n7, h_l2_n8⟩, ⟨h_c2_n7, h_c2_n8⟩, h_n7_n8⟩ := hA
  have hp : a'.eval (.tmp pa) = .pointer (some ⟨BA, 0, none⟩) := eval_get ((hI.rest pa hna.1 hna.2.1 hna.2.2.1 hna.2.2.2.1 hna.2.2.2.2.1 hna.2.2.2.2.2).trans hpa)
  obtain ⟨k0, k1, k2⟩ := cells3 ((hI.blw.block _ (lt_of_blk hBA)).trans hBA)
  unfold wpOp
  rw [show (twoOps l1 c1 l2 c2 n7 n8 pa pb s)[0]? = some ({ dst := some l1, op := Op.load 23 (Operand.tmp pa), type := 23, pos := s, after := #[], guard := none } : Oper) from rfl]
  simp only [Region.wanted, if_true]
  refine .inl ?_
  unfold Oper.wp
  simp only [execOp, hp]
  go_simp
  have G : ∀ k, (a'.tmps.setIfInBounds l1 (.agg #[.int .i64 x, .int .i64 y, .int .i64 z]))[k]? = if l1 = k then some (.agg #[.int .i64 x, .int .i64 y, .int .i64 z]) else a'.tmps[k]? := fun k => by
    rw [Array.getElem?_setIfInBounds]
    by_cases h : l1 = k
    · subst h; simp [hI.tsz, hz]
    · simp [h]
  have L : ∀ j, (l.setIfInBounds 0 true).getD j false = if 0 = j then true else l.getD j false := fun j => set_get (by rw [hI.size]; omega)
  exact {
    size := by simp [hI.size]
    dfs := hI.dfs
    tsz := by simp [hI.tsz]
    rest := fun k q1 q2 q3 q4 q5 q6 => by rw [G, if_neg (Ne.symm q1)]; exact hI.rest k q1 q2 q3 q4 q5 q6
    blw := hI.blw
    v0 := fun _ => by rw [G, if_pos rfl]
    v1 := fun h => by rw [L, if_neg (by decide)] at h; rw [G, if_neg h_l1_c1]; exact hI.v1 h
    v2 := fun h => by rw [L, if_neg (by decide)] at h; rw [G, if_neg h_l1_l2]; exact hI.v2 h
    v3 := fun h => by rw [L, if_neg (by decide)] at h; rw [G, if_neg h_l1_c2]; exact hI.v3 h
    m7 := fun h => by
      rw [L, if_neg (by decide)] at h
      obtain ⟨B', u', v', t', e1, e2, e3, e4⟩ := hI.m7 h
      exact ⟨B', u', v', t', by rw [G, if_neg h_l1_n7]; exact e1, e2, e3, fun hh => by rw [L, if_neg (by decide)] at hh; exact e4 hh⟩
    m8 := fun h => by
      rw [L, if_neg (by decide)] at h
      obtain ⟨B', u', v', t', e1, e2, e3, e4⟩ := hI.m8 h
      exact ⟨B', u', v', t', by rw [G, if_neg h_l1_n8]; exact e1, e2, e3, fun hh => by rw [L, if_neg (by decide)] at hh; exact e4 hh⟩
    c6 := fun h => by rw [L, if_neg (by decide)] at h ⊢; exact hI.c6 h
    c7 := fun h => by rw [L, if_neg (by decide)] at h ⊢; exact hI.c7 h
    ne := fun h4 h5 => by rw [L, if_neg (by decide)] at h4 h5; rw [G, if_neg h_l1_n7, G, if_neg h_l1_n8]; exact hI.ne h4 h5 }

set_option maxRecDepth 100000 in
set_option maxHeartbeats 1600000 in
theorem two_step1 (l : Array Bool) (a' : Act) (w' : World) (hd : l.getD 0 false = true) (hI : TwoI l1 c1 l2 c2 n7 n8 a w x y z x' y' z' l a' w') :
    wpOp Tryz.prog (twoOps l1 c1 l2 c2 n7 n8 pa pb s) Q 1 (fun a'' w'' => TwoI l1 c1 l2 c2 n7 n8 a w x y z x' y' z' (l.setIfInBounds 1 true) a'' w'') a' w' := by
  have y0 := hpa; have y1 := hpb; have y2 := hna; have y3 := hnb; have y4 := hBA; have y5 := hBB
  clear y0 y1 y2 y3 y4 y5
  obtain ⟨⟨h_l1_c1, h_l1_l2, h_l1_c2, h_l1_n7, h_l1_n8⟩, ⟨h_c1_l2, h_c1_c2, h_c1_n7, h_c1_n8⟩, ⟨h_l2_c2, h_l2_n7, h_l2_n8⟩, ⟨h_c2_n7, h_c2_n8⟩, h_n7_n8⟩ := hA
  have hp : a'.eval (.tmp l1) = .agg #[.int .i64 x, .int .i64 y, .int .i64 z] := eval_get (hI.v0 hd)
  have KP := Lib.hid (partsOf_any x y z w')
  unfold wpOp
  rw [show (twoOps l1 c1 l2 c2 n7 n8 pa pb s)[1]? = some ({ dst := some c1, op := Op.call { callee := Callee.value (Operand.func 45), args := #[Operand.tmp l1], argTypes := #[23] }, type := 94, pos := s, after := #[{ on := 0, ground := Ground.data }], guard := none } : Oper) from rfl]
  simp only [Region.wanted, if_true]
  refine .inl ?_
  unfold Oper.wp
  simp only [execOp]
  go_simp
  rw [hI.v0 hd]
  simp only [Option.getD_some]
  refine KP.out.mono ?_
  rintro e w1 ⟨rfl, hb⟩
  have G : ∀ k, (a'.tmps.setIfInBounds c1 (.agg #[.int .i64 x, .int .i64 y, .int .i64 z]))[k]? = if c1 = k then some (.agg #[.int .i64 x, .int .i64 y, .int .i64 z]) else a'.tmps[k]? := fun k => by
    rw [Array.getElem?_setIfInBounds]
    by_cases h : c1 = k
    · subst h; simp [hI.tsz, hz]
    · simp [h]
  have L : ∀ j, (l.setIfInBounds 1 true).getD j false = if 1 = j then true else l.getD j false := fun j => set_get (by rw [hI.size]; omega)
  exact {
    size := by simp [hI.size]
    dfs := hI.dfs
    tsz := by simp [hI.tsz]
    rest := fun k q1 q2 q3 q4 q5 q6 => by rw [G, if_neg (Ne.symm q2)]; exact hI.rest k q1 q2 q3 q4 q5 q6
    blw := below_call hb hI.blw
    v0 := fun h => by rw [L, if_neg (by decide)] at h; rw [G, if_neg (Ne.symm h_l1_c1)]; exact hI.v0 h
    v1 := fun _ => by rw [G, if_pos rfl]
    v2 := fun h => by rw [L, if_neg (by decide)] at h; rw [G, if_neg h_c1_l2]; exact hI.v2 h
    v3 := fun h => by rw [L, if_neg (by decide)] at h; rw [G, if_neg h_c1_c2]; exact hI.v3 h
    m7 := fun h => by
      rw [L, if_neg (by decide)] at h
      obtain ⟨B', u', v', t', e1, e2, e3, e4⟩ := hI.m7 h
      exact ⟨B', u', v', t', by rw [G, if_neg h_c1_n7]; exact e1, e2, (blk_call hb e3), fun hh => by rw [L, if_neg (by decide)] at hh; exact e4 hh⟩
    m8 := fun h => by
      rw [L, if_neg (by decide)] at h
      obtain ⟨B', u', v', t', e1, e2, e3, e4⟩ := hI.m8 h
      exact ⟨B', u', v', t', by rw [G, if_neg h_c1_n8]; exact e1, e2, (blk_call hb e3), fun hh => by rw [L, if_neg (by decide)] at hh; exact e4 hh⟩
    c6 := fun h => by rw [L, if_neg (by decide)] at h ⊢; exact hI.c6 h
    c7 := fun h => by rw [L, if_neg (by decide)] at h ⊢; exact hI.c7 h
    ne := fun h4 h5 => by rw [L, if_neg (by decide)] at h4 h5; rw [G, if_neg h_c1_n7, G, if_neg h_c1_n8]; exact hI.ne h4 h5 }

set_option maxRecDepth 100000 in
set_option maxHeartbeats 1600000 in
theorem two_step2 (l : Array Bool) (a' : Act) (w' : World) (hI : TwoI l1 c1 l2 c2 n7 n8 a w x y z x' y' z' l a' w') :
    wpOp Tryz.prog (twoOps l1 c1 l2 c2 n7 n8 pa pb s) Q 2 (fun a'' w'' => TwoI l1 c1 l2 c2 n7 n8 a w x y z x' y' z' (l.setIfInBounds 2 true) a'' w'') a' w' := by
  have y0 := hpa; have y1 := hna; have y2 := hBA
  clear y0 y1 y2
  obtain ⟨⟨h_l1_c1, h_l1_l2, h_l1_c2, h_l1_n7, h_l1_n8⟩, ⟨h_c1_l2, h_c1_c2, h_c1_n7, h_c1_n8⟩, ⟨h_l2_c2, h_l2_n7, h_l2_n8⟩, ⟨h_c2_n7, h_c2_n8⟩, h_n7_n8⟩ := hA
  have hp : a'.eval (.tmp pb) = .pointer (some ⟨BB, 0, none⟩) := eval_get ((hI.rest pb hnb.1 hnb.2.1 hnb.2.2.1 hnb.2.2.2.1 hnb.2.2.2.2.1 hnb.2.2.2.2.2).trans hpb)
  obtain ⟨k0, k1, k2⟩ := cells3 ((hI.blw.block _ (lt_of_blk hBB)).trans hBB)
  unfold wpOp
  rw [show (twoOps l1 c1 l2 c2 n7 n8 pa pb s)[2]? = some ({ dst := some l2, op := Op.load 23 (Operand.tmp pb), type := 23, pos := s, after := #[], guard := none } : Oper) from rfl]
  simp only [Region.wanted, if_true]
  refine .inl ?_
  unfold Oper.wp
  simp only [execOp, hp]
  go_simp
  have G : ∀ k, (a'.tmps.setIfInBounds l2 (.agg #[.int .i64 x', .int .i64 y', .int .i64 z']))[k]? = if l2 = k then some (.agg #[.int .i64 x', .int .i64 y', .int .i64 z']) else a'.tmps[k]? := fun k => by
    rw [Array.getElem?_setIfInBounds]
    by_cases h : l2 = k
    · subst h; simp [hI.tsz, hz]
    · simp [h]
  have L : ∀ j, (l.setIfInBounds 2 true).getD j false = if 2 = j then true else l.getD j false := fun j => set_get (by rw [hI.size]; omega)
  exact {
    size := by simp [hI.size]
    dfs := hI.dfs
    tsz := by simp [hI.tsz]
    rest := fun k q1 q2 q3 q4 q5 q6 => by rw [G, if_neg (Ne.symm q3)]; exact hI.rest k q1 q2 q3 q4 q5 q6
    blw := hI.blw
    v0 := fun h => by rw [L, if_neg (by decide)] at h; rw [G, if_neg (Ne.symm h_l1_l2)]; exact hI.v0 h
    v1 := fun h => by rw [L, if_neg (by decide)] at h; rw [G, if_neg (Ne.symm h_c1_l2)]; exact hI.v1 h
    v2 := fun _ => by rw [G, if_pos rfl]
    v3 := fun h => by rw [L, if_neg (by decide)] at h; rw [G, if_neg h_l2_c2]; exact hI.v3 h
    m7 := fun h => by
      rw [L, if_neg (by decide)] at h
      obtain ⟨B', u', v', t', e1, e2, e3, e4⟩ := hI.m7 h
      exact ⟨B', u', v', t', by rw [G, if_neg h_l2_n7]; exact e1, e2, e3, fun hh => by rw [L, if_neg (by decide)] at hh; exact e4 hh⟩
    m8 := fun h => by
      rw [L, if_neg (by decide)] at h
      obtain ⟨B', u', v', t', e1, e2, e3, e4⟩ := hI.m8 h
      exact ⟨B', u', v', t', by rw [G, if_neg h_l2_n8]; exact e1, e2, e3, fun hh => by rw [L, if_neg (by decide)] at hh; exact e4 hh⟩
    c6 := fun h => by rw [L, if_neg (by decide)] at h ⊢; exact hI.c6 h
    c7 := fun h => by rw [L, if_neg (by decide)] at h ⊢; exact hI.c7 h
    ne := fun h4 h5 => by rw [L, if_neg (by decide)] at h4 h5; rw [G, if_neg h_l2_n7, G, if_neg h_l2_n8]; exact hI.ne h4 h5 }

set_option maxRecDepth 100000 in
set_option maxHeartbeats 1600000 in
theorem two_step3 (l : Array Bool) (a' : Act) (w' : World) (hd : l.getD 2 false = true) (hI : TwoI l1 c1 l2 c2 n7 n8 a w x y z x' y' z' l a' w') :
    wpOp Tryz.prog (twoOps l1 c1 l2 c2 n7 n8 pa pb s) Q 3 (fun a'' w'' => TwoI l1 c1 l2 c2 n7 n8 a w x y z x' y' z' (l.setIfInBounds 3 true) a'' w'') a' w' := by
  have y0 := hpa; have y1 := hpb; have y2 := hna; have y3 := hnb; have y4 := hBA; have y5 := hBB
  clear y0 y1 y2 y3 y4 y5
  obtain ⟨⟨h_l1_c1, h_l1_l2, h_l1_c2, h_l1_n7, h_l1_n8⟩, ⟨h_c1_l2, h_c1_c2, h_c1_n7, h_c1_n8⟩, ⟨h_l2_c2, h_l2_n7, h_l2_n8⟩, ⟨h_c2_n7, h_c2_n8⟩, h_n7_n8⟩ := hA
  have hp : a'.eval (.tmp l2) = .agg #[.int .i64 x', .int .i64 y', .int .i64 z'] := eval_get (hI.v2 hd)
  have KP := Lib.hid (partsOf_any x' y' z' w')
  unfold wpOp
  rw [show (twoOps l1 c1 l2 c2 n7 n8 pa pb s)[3]? = some ({ dst := some c2, op := Op.call { callee := Callee.value (Operand.func 45), args := #[Operand.tmp l2], argTypes := #[23] }, type := 94, pos := s, after := #[{ on := 2, ground := Ground.data }, { on := 1, ground := Ground.chain }], guard := none } : Oper) from rfl]
  simp only [Region.wanted, if_true]
  refine .inl ?_
  unfold Oper.wp
  simp only [execOp]
  go_simp
  rw [hI.v2 hd]
  simp only [Option.getD_some]
  refine KP.out.mono ?_
  rintro e w1 ⟨rfl, hb⟩
  have G : ∀ k, (a'.tmps.setIfInBounds c2 (.agg #[.int .i64 x', .int .i64 y', .int .i64 z']))[k]? = if c2 = k then some (.agg #[.int .i64 x', .int .i64 y', .int .i64 z']) else a'.tmps[k]? := fun k => by
    rw [Array.getElem?_setIfInBounds]
    by_cases h : c2 = k
    · subst h; simp [hI.tsz, hz]
    · simp [h]
  have L : ∀ j, (l.setIfInBounds 3 true).getD j false = if 3 = j then true else l.getD j false := fun j => set_get (by rw [hI.size]; omega)
  exact {
    size := by simp [hI.size]
    dfs := hI.dfs
    tsz := by simp [hI.tsz]
    rest := fun k q1 q2 q3 q4 q5 q6 => by rw [G, if_neg (Ne.symm q4)]; exact hI.rest k q1 q2 q3 q4 q5 q6
    blw := below_call hb hI.blw
    v0 := fun h => by rw [L, if_neg (by decide)] at h; rw [G, if_neg (Ne.symm h_l1_c2)]; exact hI.v0 h
    v1 := fun h => by rw [L, if_neg (by decide)] at h; rw [G, if_neg (Ne.symm h_c1_c2)]; exact hI.v1 h
    v2 := fun h => by rw [L, if_neg (by decide)] at h; rw [G, if_neg (Ne.symm h_l2_c2)]; exact hI.v2 h
    v3 := fun _ => by rw [G, if_pos rfl]
    m7 := fun h => by
      rw [L, if_neg (by decide)] at h
      obtain ⟨B', u', v', t', e1, e2, e3, e4⟩ := hI.m7 h
      exact ⟨B', u', v', t', by rw [G, if_neg h_c2_n7]; exact e1, e2, (blk_call hb e3), fun hh => by rw [L, if_neg (by decide)] at hh; exact e4 hh⟩
    m8 := fun h => by
      rw [L, if_neg (by decide)] at h
      obtain ⟨B', u', v', t', e1, e2, e3, e4⟩ := hI.m8 h
      exact ⟨B', u', v', t', by rw [G, if_neg h_c2_n8]; exact e1, e2, (blk_call hb e3), fun hh => by rw [L, if_neg (by decide)] at hh; exact e4 hh⟩
    c6 := fun h => by rw [L, if_neg (by decide)] at h ⊢; exact hI.c6 h
    c7 := fun h => by rw [L, if_neg (by decide)] at h ⊢; exact hI.c7 h
    ne := fun h4 h5 => by rw [L, if_neg (by decide)] at h4 h5; rw [G, if_neg h_c2_n7, G, if_neg h_c2_n8]; exact hI.ne h4 h5 }

set_option maxRecDepth 100000 in
set_option maxHeartbeats 1600000 in
theorem two_step4 (l : Array Bool) (a' : Act) (w' : World) (hu : l.getD 4 false = false) (hI : TwoI l1 c1 l2 c2 n7 n8 a w x y z x' y' z' l a' w') :
    wpOp Tryz.prog (twoOps l1 c1 l2 c2 n7 n8 pa pb s) Q 4 (fun a'' w'' => TwoI l1 c1 l2 c2 n7 n8 a w x y z x' y' z' (l.setIfInBounds 4 true) a'' w'') a' w' := by
  have y0 := hpa; have y1 := hpb; have y2 := hna; have y3 := hnb; have y4 := hBA; have y5 := hBB
  clear y0 y1 y2 y3 y4 y5
  obtain ⟨⟨h_l1_c1, h_l1_l2, h_l1_c2, h_l1_n7, h_l1_n8⟩, ⟨h_c1_l2, h_c1_c2, h_c1_n7, h_c1_n8⟩, ⟨h_l2_c2, h_l2_n7, h_l2_n8⟩, ⟨h_c2_n7, h_c2_n8⟩, h_n7_n8⟩ := hA
  unfold wpOp
  rw [show (twoOps l1 c1 l2 c2 n7 n8 pa pb s)[4]? = some ({ dst := some n7, op := Op.alloc 94, type := 0, pos := s, after := #[], guard := none } : Oper) from rfl]
  simp only [Region.wanted, if_true]
  refine .inl ?_
  unfold Oper.wp
  simp only [execOp]
  go_simp
  have G : ∀ k, (a'.tmps.setIfInBounds n7 (.pointer (some ⟨w'.heap.size, 0, none⟩)))[k]? = if n7 = k then some (.pointer (some ⟨w'.heap.size, 0, none⟩)) else a'.tmps[k]? := fun k => by
    rw [Array.getElem?_setIfInBounds]
    by_cases h : n7 = k
    · subst h; simp [hI.tsz, hz]
    · simp [h]
  have L : ∀ j, (l.setIfInBounds 4 true).getD j false = if 4 = j then true else l.getD j false := fun j => set_get (by rw [hI.size]; omega)
  exact {
    size := by simp [hI.size]
    dfs := hI.dfs
    tsz := by simp [hI.tsz]
    rest := fun k q1 q2 q3 q4 q5 q6 => by rw [G, if_neg (Ne.symm q5)]; exact hI.rest k q1 q2 q3 q4 q5 q6
    blw := below_allocS hI.blw _
    v0 := fun h => by rw [L, if_neg (by decide)] at h; rw [G, if_neg (Ne.symm h_l1_n7)]; exact hI.v0 h
    v1 := fun h => by rw [L, if_neg (by decide)] at h; rw [G, if_neg (Ne.symm h_c1_n7)]; exact hI.v1 h
    v2 := fun h => by rw [L, if_neg (by decide)] at h; rw [G, if_neg (Ne.symm h_l2_n7)]; exact hI.v2 h
    v3 := fun h => by rw [L, if_neg (by decide)] at h; rw [G, if_neg (Ne.symm h_c2_n7)]; exact hI.v3 h
    m7 := fun _ => ⟨w'.heap.size, _, _, _, by rw [G, if_pos rfl], hI.blw.size, blk_alloc_new _ _, fun hh => by rw [L, if_neg (by decide)] at hh; have := hI.c6 hh; rw [hu] at this; cases this⟩
    m8 := fun h => by
      rw [L, if_neg (by decide)] at h
      obtain ⟨B', u', v', t', e1, e2, e3, e4⟩ := hI.m8 h
      exact ⟨B', u', v', t', by rw [G, if_neg h_n7_n8]; exact e1, e2, (blk_alloc_other e3 _), fun hh => by rw [L, if_neg (by decide)] at hh; exact e4 hh⟩
    c6 := fun _ => by rw [L, if_pos rfl]
    c7 := fun h => by rw [L, if_neg (by decide)] at h ⊢; exact hI.c7 h
    ne := fun h4 h5 => by
      rw [L, if_neg (by decide)] at h5
      obtain ⟨B', u', v', t', e1, e2, e3, e4⟩ := hI.m8 h5
      have := lt_of_blk e3
      rw [G, if_pos rfl, G, if_neg h_n7_n8]
      rw [e1]
      intro hh
      simp at hh <;> omega }

set_option maxRecDepth 100000 in
set_option maxHeartbeats 1600000 in
theorem two_step5 (l : Array Bool) (a' : Act) (w' : World) (hu : l.getD 5 false = false) (hI : TwoI l1 c1 l2 c2 n7 n8 a w x y z x' y' z' l a' w') :
    wpOp Tryz.prog (twoOps l1 c1 l2 c2 n7 n8 pa pb s) Q 5 (fun a'' w'' => TwoI l1 c1 l2 c2 n7 n8 a w x y z x' y' z' (l.setIfInBounds 5 true) a'' w'') a' w' := by
  have y0 := hpa; have y1 := hpb; have y2 := hna; have y3 := hnb; have y4 := hBA; have y5 := hBB
  clear y0 y1 y2 y3 y4 y5
  obtain ⟨⟨h_l1_c1, h_l1_l2, h_l1_c2, h_l1_n7, h_l1_n8⟩, ⟨h_c1_l2, h_c1_c2, h_c1_n7, h_c1_n8⟩, ⟨h_l2_c2, h_l2_n7, h_l2_n8⟩, ⟨h_c2_n7, h_c2_n8⟩, h_n7_n8⟩ := hA
  unfold wpOp
  rw [show (twoOps l1 c1 l2 c2 n7 n8 pa pb s)[5]? = some ({ dst := some n8, op := Op.alloc 94, type := 0, pos := s, after := #[], guard := none } : Oper) from rfl]
  simp only [Region.wanted, if_true]
  refine .inl ?_
  unfold Oper.wp
  simp only [execOp]
  go_simp
  have G : ∀ k, (a'.tmps.setIfInBounds n8 (.pointer (some ⟨w'.heap.size, 0, none⟩)))[k]? = if n8 = k then some (.pointer (some ⟨w'.heap.size, 0, none⟩)) else a'.tmps[k]? := fun k => by
    rw [Array.getElem?_setIfInBounds]
    by_cases h : n8 = k
    · subst h; simp [hI.tsz, hz]
    · simp [h]
  have L : ∀ j, (l.setIfInBounds 5 true).getD j false = if 5 = j then true else l.getD j false := fun j => set_get (by rw [hI.size]; omega)
  exact {
    size := by simp [hI.size]
    dfs := hI.dfs
    tsz := by simp [hI.tsz]
    rest := fun k q1 q2 q3 q4 q5 q6 => by rw [G, if_neg (Ne.symm q6)]; exact hI.rest k q1 q2 q3 q4 q5 q6
    blw := below_allocS hI.blw _
    v0 := fun h => by rw [L, if_neg (by decide)] at h; rw [G, if_neg (Ne.symm h_l1_n8)]; exact hI.v0 h
    v1 := fun h => by rw [L, if_neg (by decide)] at h; rw [G, if_neg (Ne.symm h_c1_n8)]; exact hI.v1 h
    v2 := fun h => by rw [L, if_neg (by decide)] at h; rw [G, if_neg (Ne.symm h_l2_n8)]; exact hI.v2 h
    v3 := fun h => by rw [L, if_neg (by decide)] at h; rw [G, if_neg (Ne.symm h_c2_n8)]; exact hI.v3 h
    m7 := fun h => by
      rw [L, if_neg (by decide)] at h
      obtain ⟨B', u', v', t', e1, e2, e3, e4⟩ := hI.m7 h
      exact ⟨B', u', v', t', by rw [G, if_neg (Ne.symm h_n7_n8)]; exact e1, e2, (blk_alloc_other e3 _), fun hh => by rw [L, if_neg (by decide)] at hh; exact e4 hh⟩
    m8 := fun _ => ⟨w'.heap.size, _, _, _, by rw [G, if_pos rfl], hI.blw.size, blk_alloc_new _ _, fun hh => by rw [L, if_neg (by decide)] at hh; have := hI.c7 hh; rw [hu] at this; cases this⟩
    c6 := fun h => by rw [L, if_neg (by decide)] at h ⊢; exact hI.c6 h
    c7 := fun _ => by rw [L, if_pos rfl]
    ne := fun h4 h5 => by
      rw [L, if_neg (by decide)] at h4
      obtain ⟨B', u', v', t', e1, e2, e3, e4⟩ := hI.m7 h4
      have := lt_of_blk e3
      rw [G, if_neg (Ne.symm h_n7_n8), G, if_pos rfl]
      rw [e1]
      intro hh
      simp at hh <;> omega }

set_option maxRecDepth 100000 in
set_option maxHeartbeats 1600000 in
theorem two_step6 (l : Array Bool) (a' : Act) (w' : World) (hd : l.getD 1 false = true) (hd4 : l.getD 4 false = true) (hI : TwoI l1 c1 l2 c2 n7 n8 a w x y z x' y' z' l a' w') :
    wpOp Tryz.prog (twoOps l1 c1 l2 c2 n7 n8 pa pb s) Q 6 (fun a'' w'' => TwoI l1 c1 l2 c2 n7 n8 a w x y z x' y' z' (l.setIfInBounds 6 true) a'' w'') a' w' := by
  have y0 := hz; have y1 := hpa; have y2 := hpb; have y3 := hna; have y4 := hnb; have y5 := hBA; have y6 := hBB
  clear y0 y1 y2 y3 y4 y5 y6
  obtain ⟨⟨h_l1_c1, h_l1_l2, h_l1_c2, h_l1_n7, h_l1_n8⟩, ⟨h_c1_l2, h_c1_c2, h_c1_n7, h_c1_n8⟩, ⟨h_l2_c2, h_l2_n7, h_l2_n8⟩, ⟨h_c2_n7, h_c2_n8⟩, h_n7_n8⟩ := hA
  obtain ⟨B, u, v, t, g1, g2, g3, g4⟩ := hI.m7 hd4
  clear g4
  have hp : a'.eval (.tmp n7) = .pointer (some ⟨B, 0, none⟩) := eval_get g1
  have hv : a'.eval (.tmp c1) = .agg #[.int .i64 x, .int .i64 y, .int .i64 z] := eval_get (hI.v1 hd)
  obtain ⟨k0, k1, k2⟩ := cells3 g3
  have kz : ∀ j, w'.frozen? ⟨B, j, none⟩ = false := fun j => frozen_of_row w' B j _ _ g3
  unfold wpOp
  rw [show (twoOps l1 c1 l2 c2 n7 n8 pa pb s)[6]? = some ({ dst := none, op := Op.store 94 (Operand.tmp n7) (Operand.tmp c1), type := 0, pos := s,       after := #[{ on := 4, ground := Ground.data }, { on := 1, ground := Ground.data }, { on := 3, ground := Ground.chain }, { on := 0, ground := Ground.phase }, { on := 1, ground := Ground.phase },         { on := 2, ground := Ground.textOnly Departure.lateStores }, { on := 3, ground := Ground.textOnly Departure.lateStoresUnsure }, { on := 4, ground := Ground.phase }, { on := 5, ground := Ground.phase }], guard := none } : Oper) from rfl]
  simp only [Region.wanted, if_true]
  refine .inl ?_
  unfold Oper.wp
  simp only [execOp, hp, hv]
  go_simp
  have L : ∀ j, (l.setIfInBounds 6 true).getD j false = if 6 = j then true else l.getD j false := fun j => set_get (by rw [hI.size]; omega)
  exact {
    size := by simp [hI.size]
    dfs := hI.dfs
    tsz := hI.tsz
    rest := fun k q1 q2 q3 q4 q5 q6 => by exact hI.rest k q1 q2 q3 q4 q5 q6
    blw := ((hI.blw.setCell (p := ⟨B, 0, none⟩) g2 _).setCell (p := ⟨B, 1, none⟩) g2 _).setCell (p := ⟨B, 2, none⟩) g2 _
    v0 := fun h => by rw [L, if_neg (by decide)] at h; exact hI.v0 h
    v1 := fun h => by rw [L, if_neg (by decide)] at h; exact hI.v1 h
    v2 := fun h => by rw [L, if_neg (by decide)] at h; exact hI.v2 h
    v3 := fun h => by rw [L, if_neg (by decide)] at h; exact hI.v3 h
    m7 := fun _ => ⟨B, _, _, _, g1, g2, blk_set3 g3 _ _ _, fun _ => ⟨rfl, rfl, rfl⟩⟩
    m8 := fun h => by
      rw [L, if_neg (by decide)] at h
      obtain ⟨B', u', v', t', e1, e2, e3, e4⟩ := hI.m8 h
      have hne : B' ≠ B := fun hh => by
        subst hh
        exact hI.ne hd4 h (by rw [e1, g1])
      exact ⟨B', u', v', t', e1, e2, blk_setO hne e3, fun hh => by rw [L, if_neg (by decide)] at hh; exact e4 hh⟩
    c6 := fun _ => by rw [L, if_neg (by decide)]; exact hd4
    c7 := fun h => by rw [L, if_neg (by decide)] at h ⊢; exact hI.c7 h
    ne := fun h4 h5 => by rw [L, if_neg (by decide)] at h4 h5; exact hI.ne h4 h5 }

set_option maxRecDepth 100000 in
set_option maxHeartbeats 1600000 in
theorem two_step7 (l : Array Bool) (a' : Act) (w' : World) (hd : l.getD 3 false = true) (hd5 : l.getD 5 false = true) (hI : TwoI l1 c1 l2 c2 n7 n8 a w x y z x' y' z' l a' w') :
    wpOp Tryz.prog (twoOps l1 c1 l2 c2 n7 n8 pa pb s) Q 7 (fun a'' w'' => TwoI l1 c1 l2 c2 n7 n8 a w x y z x' y' z' (l.setIfInBounds 7 true) a'' w'') a' w' := by
  have y0 := hz; have y1 := hpa; have y2 := hpb; have y3 := hna; have y4 := hnb; have y5 := hBA; have y6 := hBB
  clear y0 y1 y2 y3 y4 y5 y6
  obtain ⟨⟨h_l1_c1, h_l1_l2, h_l1_c2, h_l1_n7, h_l1_n8⟩, ⟨h_c1_l2, h_c1_c2, h_c1_n7, h_c1_n8⟩, ⟨h_l2_c2, h_l2_n7, h_l2_n8⟩, ⟨h_c2_n7, h_c2_n8⟩, h_n7_n8⟩ := hA
  obtain ⟨B, u, v, t, g1, g2, g3, g4⟩ := hI.m8 hd5
  clear g4
  have hp : a'.eval (.tmp n8) = .pointer (some ⟨B, 0, none⟩) := eval_get g1
  have hv : a'.eval (.tmp c2) = .agg #[.int .i64 x', .int .i64 y', .int .i64 z'] := eval_get (hI.v3 hd)
  obtain ⟨k0, k1, k2⟩ := cells3 g3
  have kz : ∀ j, w'.frozen? ⟨B, j, none⟩ = false := fun j => frozen_of_row w' B j _ _ g3
  unfold wpOp
  rw [show (twoOps l1 c1 l2 c2 n7 n8 pa pb s)[7]? = some ({ dst := none, op := Op.store 94 (Operand.tmp n8) (Operand.tmp c2), type := 0, pos := s,       after := #[{ on := 5, ground := Ground.data }, { on := 3, ground := Ground.data }, { on := 6, ground := Ground.chain }, { on := 0, ground := Ground.phase }, { on := 1, ground := Ground.phase }, { on := 2, ground := Ground.phase },         { on := 3, ground := Ground.phase }, { on := 4, ground := Ground.phase }, { on := 5, ground := Ground.phase }, { on := 6, ground := Ground.phase }], guard := none } : Oper) from rfl]
  simp only [Region.wanted, if_true]
  refine .inl ?_
  unfold Oper.wp
  simp only [execOp, hp, hv]
  go_simp
  have L : ∀ j, (l.setIfInBounds 7 true).getD j false = if 7 = j then true else l.getD j false := fun j => set_get (by rw [hI.size]; omega)
  exact {
    size := by simp [hI.size]
    dfs := hI.dfs
    tsz := hI.tsz
    rest := fun k q1 q2 q3 q4 q5 q6 => by exact hI.rest k q1 q2 q3 q4 q5 q6
    blw := ((hI.blw.setCell (p := ⟨B, 0, none⟩) g2 _).setCell (p := ⟨B, 1, none⟩) g2 _).setCell (p := ⟨B, 2, none⟩) g2 _
    v0 := fun h => by rw [L, if_neg (by decide)] at h; exact hI.v0 h
    v1 := fun h => by rw [L, if_neg (by decide)] at h; exact hI.v1 h
    v2 := fun h => by rw [L, if_neg (by decide)] at h; exact hI.v2 h
    v3 := fun h => by rw [L, if_neg (by decide)] at h; exact hI.v3 h
    m7 := fun h => by
      rw [L, if_neg (by decide)] at h
      obtain ⟨B', u', v', t', e1, e2, e3, e4⟩ := hI.m7 h
      have hne : B' ≠ B := fun hh => by
        subst hh
        exact hI.ne h hd5 (by rw [e1, g1])
      exact ⟨B', u', v', t', e1, e2, blk_setO hne e3, fun hh => by rw [L, if_neg (by decide)] at hh; exact e4 hh⟩
    m8 := fun _ => ⟨B, _, _, _, g1, g2, blk_set3 g3 _ _ _, fun _ => ⟨rfl, rfl, rfl⟩⟩
    c6 := fun h => by rw [L, if_neg (by decide)] at h ⊢; exact hI.c6 h
    c7 := fun _ => by rw [L, if_neg (by decide)]; exact hd5
    ne := fun h4 h5 => by rw [L, if_neg (by decide)] at h4 h5; exact hI.ne h4 h5 }

set_option maxRecDepth 100000 in
set_option maxHeartbeats 1600000 in
theorem two_parts {id : Nat}
    (hK : ∀ (Bp Bq : Nat) (wr : World), Bp ≠ Bq → w.heap.size ≤ Bp → w.heap.size ≤ Bq → Below w.heap.size w wr → wr.heap[Bp]? = some (.cells #[.int .i64 x, .int .i64 y, .int .i64 z] 94 (0, 0)) → wr.heap[Bq]? = some (.cells #[.int .i64 x', .int .i64 y', .int .i64 z'] 94 (0, 0)) →
      Q .normal ((((((a.put (some l1) (.agg #[.int .i64 x, .int .i64 y, .int .i64 z])).put (some c1) (.agg #[.int .i64 x, .int .i64 y, .int .i64 z])).put (some l2) (.agg #[.int .i64 x', .int .i64 y', .int .i64 z'])).put (some c2) (.agg #[.int .i64 x', .int .i64 y', .int .i64 z'])).put (some n7) (.pointer (some ⟨Bp, 0, none⟩))).put (some n8) (.pointer (some ⟨Bq, 0, none⟩))) wr) :
    (Code.region id (twoOps l1 c1 l2 c2 n7 n8 pa pb s) true).wp Tryz.prog Q a w := by
  refine wp_region_any (by kernel_rfl) (wpAny_inv (TwoI l1 c1 l2 c2 n7 n8 a w x y z x' y' z') ?_ ?_ _ _ _ _ ?_ ?_)
  · intro l a' w' hI hr
    have hall : ∀ i (A : Array Edge), ((twoOps l1 c1 l2 c2 n7 n8 pa pb s)[i]?).map (·.after) = some A → (∀ e ∈ A, Region.binds .any e = true → l.getD e.on false = true) → i < 8 → l.getD i false = true := fun i A hA' he hi => by
      obtain ⟨o, ho, rfl⟩ := Option.map_eq_some_iff.1 hA'
      cases h : l.getD i true with
      | true =>
        have hs := hI.size
        simp [Array.getD, hs, hi] at h ⊢
        exact h
      | false =>
        have h1 : i ∈ Region.ready .any (twoOps l1 c1 l2 c2 n7 n8 pa pb s) l := mem_ready.2 ⟨h, o, ho, he⟩
        rw [hr] at h1
        cases h1
    have a0 : l.getD 0 false = true := hall 0 #[] rfl (by simp) (by omega)
    have a1 : l.getD 1 false = true := hall 1 #[{ on := 0, ground := Ground.data }] rfl (by intro e he hb; simp only [Array.mem_def, List.mem_cons, List.not_mem_nil, or_false] at he; subst he; exact a0) (by omega)
    have a2 : l.getD 2 false = true := hall 2 #[] rfl (by simp) (by omega)
    have a3 : l.getD 3 false = true := hall 3 #[{ on := 2, ground := Ground.data }, { on := 1, ground := Ground.chain }] rfl (by intro e he hb; simp only [Array.mem_def, List.mem_cons, List.not_mem_nil, or_false] at he; rcases he with rfl | rfl <;> assumption) (by omega)
    have a4 : l.getD 4 false = true := hall 4 #[] rfl (by simp) (by omega)
    have a5 : l.getD 5 false = true := hall 5 #[] rfl (by simp) (by omega)
    have a6 : l.getD 6 false = true := hall 6 #[{ on := 4, ground := Ground.data }, { on := 1, ground := Ground.data }, { on := 3, ground := Ground.chain }, { on := 0, ground := Ground.phase }, { on := 1, ground := Ground.phase }, { on := 2, ground := Ground.textOnly Departure.lateStores }, { on := 3, ground := Ground.textOnly Departure.lateStoresUnsure }, { on := 4, ground := Ground.phase }, { on := 5, ground := Ground.phase }] rfl (by intro e he hb; simp only [Array.mem_def, List.mem_cons, List.not_mem_nil, or_false] at he; rcases he with rfl | rfl | rfl | rfl | rfl | rfl | rfl | rfl | rfl <;> assumption) (by omega)
    have a7 : l.getD 7 false = true := hall 7 #[{ on := 5, ground := Ground.data }, { on := 3, ground := Ground.data }, { on := 6, ground := Ground.chain }, { on := 0, ground := Ground.phase }, { on := 1, ground := Ground.phase }, { on := 2, ground := Ground.phase }, { on := 3, ground := Ground.phase }, { on := 4, ground := Ground.phase }, { on := 5, ground := Ground.phase }, { on := 6, ground := Ground.phase }] rfl (by intro e he hb; simp only [Array.mem_def, List.mem_cons, List.not_mem_nil, or_false] at he; rcases he with rfl | rfl | rfl | rfl | rfl | rfl | rfl | rfl | rfl | rfl <;> assumption) (by omega)
    obtain ⟨Bp, u, v, t, e1, e2, e3, e4⟩ := hI.m7 a4
    obtain ⟨Bq, u', v', t', f1, f2, f3, f4⟩ := hI.m8 a5
    obtain ⟨rfl, rfl, rfl⟩ := e4 a6
    obtain ⟨rfl, rfl, rfl⟩ := f4 a7
    have hne : Bp ≠ Bq := fun hh => hI.ne a4 a5 (by rw [e1, f1, hh])
    have h := hK Bp Bq w' hne e2 f2 hI.blw e3 f3
    have hfr : a' = (((((a.put (some l1) (.agg #[.int .i64 x, .int .i64 y, .int .i64 z])).put (some c1) (.agg #[.int .i64 x, .int .i64 y, .int .i64 z])).put (some l2) (.agg #[.int .i64 x', .int .i64 y', .int .i64 z'])).put (some c2) (.agg #[.int .i64 x', .int .i64 y', .int .i64 z'])).put (some n7) (.pointer (some ⟨Bp, 0, none⟩))).put (some n8) (.pointer (some ⟨Bq, 0, none⟩)) := by
      obtain ⟨⟨h_l1_c1, h_l1_l2, h_l1_c2, h_l1_n7, h_l1_n8⟩, ⟨h_c1_l2, h_c1_c2, h_c1_n7, h_c1_n8⟩, ⟨h_l2_c2, h_l2_n7, h_l2_n8⟩, ⟨h_c2_n7, h_c2_n8⟩, h_n7_n8⟩ := hA
      have hd := hI.dfs
      have hsz := hI.tsz
      have hrest := hI.rest
      have w0 := hI.v0 a0
      have w1 := hI.v1 a1
      have w2 := hI.v2 a2
      have w3 := hI.v3 a3
      clear hI h hK hall e3 f3 hr
      obtain ⟨tm, df⟩ := a'
      obtain ⟨tm0, df0⟩ := a
      simp only at hd hsz hrest w0 w1 w2 w3 e1 f1 hz
      subst hd
      show Act.mk tm df = Act.mk ((((((tm0.setIfInBounds l1 (.agg #[.int .i64 x, .int .i64 y, .int .i64 z])).setIfInBounds c1 (.agg #[.int .i64 x, .int .i64 y, .int .i64 z])).setIfInBounds l2 (.agg #[.int .i64 x', .int .i64 y', .int .i64 z'])).setIfInBounds c2 (.agg #[.int .i64 x', .int .i64 y', .int .i64 z'])).setIfInBounds n7 (.pointer (some ⟨Bp, 0, none⟩))).setIfInBounds n8 (.pointer (some ⟨Bq, 0, none⟩))) df
      congr 1
      apply Array.ext_getElem?
      intro k
      by_cases q6 : n8 = k
      · subst q6; rw [f1, Array.getElem?_setIfInBounds_self_of_lt (by simpa using hz.2.2.2.2.2)]
      · rw [Array.getElem?_setIfInBounds_ne q6]
        by_cases q5 : n7 = k
        · subst q5; rw [e1, Array.getElem?_setIfInBounds_self_of_lt (by simpa using hz.2.2.2.2.1)]
        · rw [Array.getElem?_setIfInBounds_ne q5]
          by_cases q4 : c2 = k
          · subst q4; rw [w3, Array.getElem?_setIfInBounds_self_of_lt (by simpa using hz.2.2.2.1)]
          · rw [Array.getElem?_setIfInBounds_ne q4]
            by_cases q3 : l2 = k
            · subst q3; rw [w2, Array.getElem?_setIfInBounds_self_of_lt (by simpa using hz.2.2.1)]
            · rw [Array.getElem?_setIfInBounds_ne q3]
              by_cases q2 : c1 = k
              · subst q2; rw [w1, Array.getElem?_setIfInBounds_self_of_lt (by simpa using hz.2.1)]
              · rw [Array.getElem?_setIfInBounds_ne q2]
                by_cases q1 : l1 = k
                · subst q1; rw [w0, Array.getElem?_setIfInBounds_self_of_lt (by simpa using hz.1)]
                · rw [Array.getElem?_setIfInBounds_ne q1]
                  exact hrest k (Ne.symm q1) (Ne.symm q2) (Ne.symm q3) (Ne.symm q4) (Ne.symm q5) (Ne.symm q6)
    rw [hfr]
    exact h
  · intro l a' w' i hI hi
    obtain ⟨hu, o, ho, hall⟩ := mem_ready.1 hi
    have hlt : i < 8 := (Array.getElem?_eq_some_iff.1 ho).1
    have hu' : l.getD i false = false := getD_both hu
    match i, hlt, ho, hu' with
    | 0, _, ho, _ => exact two_step0 hA hz hpa hpb hna hnb hBA hBB l a' w' hI
    | 1, _, ho, _ =>
      have hA' : o.after = #[{ on := 0, ground := Ground.data }] := (Option.some.inj (congrArg (Option.map (·.after)) ho)).symm
      exact two_step1 hA hz hpa hpb hna hnb hBA hBB l a' w' (hall { on := 0, ground := Ground.data } (by rw [hA']; simp) rfl) hI
    | 2, _, ho, _ => exact two_step2 hA hz hpa hpb hna hnb hBA hBB l a' w' hI
    | 3, _, ho, _ =>
      have hA' : o.after = #[{ on := 2, ground := Ground.data }, { on := 1, ground := Ground.chain }] := (Option.some.inj (congrArg (Option.map (·.after)) ho)).symm
      exact two_step3 hA hz hpa hpb hna hnb hBA hBB l a' w' (hall { on := 2, ground := Ground.data } (by rw [hA']; simp) rfl) hI
    | 4, _, ho, hu' => exact two_step4 hA hz hpa hpb hna hnb hBA hBB l a' w' hu' hI
    | 5, _, ho, hu' => exact two_step5 hA hz hpa hpb hna hnb hBA hBB l a' w' hu' hI
    | 6, _, ho, _ =>
      have hA' : o.after = #[{ on := 4, ground := Ground.data }, { on := 1, ground := Ground.data }, { on := 3, ground := Ground.chain }, { on := 0, ground := Ground.phase }, { on := 1, ground := Ground.phase }, { on := 2, ground := Ground.textOnly Departure.lateStores }, { on := 3, ground := Ground.textOnly Departure.lateStoresUnsure }, { on := 4, ground := Ground.phase }, { on := 5, ground := Ground.phase }] := (Option.some.inj (congrArg (Option.map (·.after)) ho)).symm
      exact two_step6 hA hz hpa hpb hna hnb hBA hBB l a' w' (hall { on := 1, ground := Ground.data } (by rw [hA']; simp) rfl) (hall { on := 4, ground := Ground.data } (by rw [hA']; simp) rfl) hI
    | 7, _, ho, _ =>
      have hA' : o.after = #[{ on := 5, ground := Ground.data }, { on := 3, ground := Ground.data }, { on := 6, ground := Ground.chain }, { on := 0, ground := Ground.phase }, { on := 1, ground := Ground.phase }, { on := 2, ground := Ground.phase }, { on := 3, ground := Ground.phase }, { on := 4, ground := Ground.phase }, { on := 5, ground := Ground.phase }, { on := 6, ground := Ground.phase }] := (Option.some.inj (congrArg (Option.map (·.after)) ho)).symm
      exact two_step7 hA hz hpa hpb hna hnb hBA hBB l a' w' (hall { on := 3, ground := Ground.data } (by rw [hA']; simp) rfl) (hall { on := 5, ground := Ground.data } (by rw [hA']; simp) rfl) hI
  · show (Array.replicate 8 false).toList.count false ≤ 8
    decide
  · exact {
      size := rfl
      dfs := rfl
      tsz := rfl
      rest := fun k _ _ _ _ _ _ => rfl
      blw := (Below.refl _ w).drew
      v0 := fun h => by cases h
      v1 := fun h => by cases h
      v2 := fun h => by cases h
      v3 := fun h => by cases h
      m7 := fun h => by cases h
      m8 := fun h => by cases h
      c6 := fun h => by cases h
      c7 := fun h => by cases h
      ne := fun h => by cases h }
end
end Go.Proofs.YtggffhmdgceljaaGreatDoor
