/-
  Contracts of the instances of the program's generic function 'mapped': the new slice's cells are what the given function makes of each cell.
  Condition: at most 4096 elements, each of which the given function takes.
-/
import Derived.Test.YtpflbkgmgfhhnaaGreatDoorRows
import Derived.WalkKit
import Derived.WalkSpells
import Derived.WalkLawsBesides
import Derived.Lib.Hide
import Derived.BigQuiet
import Derived.Deep.QuietTactic
import Derived.Laws.FloatArith
import Derived.Laws.BitsAllLaws
import Derived.Deep.RegionHeld3
import Derived.Handy
import Derived.Deep.DeepCutAuto
import Derived.Deep.RegionWith
import Derived.StillTailTactics
import Derived.Stop.BytesEq
import Derived.Deep.MidRow
import Derived.Laws.CopyRow
import Derived.WalkMore
import Derived.Deep.CutBlock
import Derived.LoopTactic
import Derived.Laws.StructEq
import Derived.RangeFuncNested
import Derived.RangeFuncBound
import Derived.RangeFuncCalls
import Derived.RangeFuncLeaves
import Derived.RangeFuncBox
import Derived.Shelf.Abstract
import Derived.Shelf.RegionOpen
import Derived.OwnWalkIn
import Derived.TacticsInMore
import Derived.LoopNIn
import Derived.LoopIn
import Derived.Maps.AppendAt
import Derived.Test.YtpflbkgmgfhhnaaGreatDoorProg
import Derived.Deep.DrawnRows
import Derived.Deep.RegionLaw
import Derived.Orders
import Derived.RegionTactic
import Derived.StillTail
import Derived.Test.YtpflbkgmgfhhnaaGreatDoorOtaXc
import Derived.Test.YtpflbkgmgfhhnaaGreatDoorOtaXe
import Derived.Test.YtpflbkgmgfhhnaaGreatDoorOtaIl
import Derived.Test.YtpflbkgmgfhhnaaGreatDoorOtaNd
import Derived.Test.YtpflbkgmgfhhnaaGreatDoorOtaIk
import Derived.Shelf.Strings.Builder1
import Derived.Shelf.Strings.OnBuilder
import Derived.Shelf.LaysM
import Derived.Shelf.Strconv.Itoa3
import Derived.Lib.AppendIntMem
import Derived.Lib.ItoaLen
import Derived.Test.YtpflbkgmgfhhnaaGreatDoorOtaWa
import Derived.RowKit
namespace Go.Proofs.YtpflbkgmgfhhnaaGreatDoor
open Go.RowKit
set_option linter.unusedVariables false

theorem take_map_succ {α : Type} [Inhabited α] (f : α → Value) (l : List α) (k : Nat) (hk : k < l.length) (d : α) : (l.take (k + 1)).map f = (l.take k).map f ++ [f (l[k]?.getD d)] := by
  rw [List.take_succ_eq_append_getElem hk, List.map_append, List.getElem?_eq_getElem hk]; rfl

theorem Tryz.info26_check : (Tryz.prog.info? 26).map (fun i => (i.zero, i.size, i.bytes)) = some (some (.int .i64 0), 1, 8) := by kernel_rfl

end Go.Proofs.YtpflbkgmgfhhnaaGreatDoor

/-
  Contracts: two maps with equal integers are told as the same; a map's own copy; whether a map is small.
-/
namespace Go.Proofs.YtpflbkgmgfhhnaaGreatDoor
open Go.RowKit
set_option linter.unusedVariables false

/-- What the call that copies the samples leaves. -/
theorem owns_base {w : World} {B B' T sz n : Nat} {v : Value} {xs : List Value} (h : w.ownsRow B' T sz v n xs) (hB : B ≤ B') : w.ownsRow B T sz v n xs := by
  refine ⟨h.1, ?_⟩
  rcases h.2 with h | ⟨g, cap, cur, h1, h2, h3⟩
  · exact .inl h
  · exact .inr ⟨g, cap, cur, h1, Nat.le_trans hB h2, h3⟩
end Go.Proofs.YtpflbkgmgfhhnaaGreatDoor

/-
  Contract of Lost for telegrams whose numbers are in their ranges and a station whose counters ascend.
-/
namespace Go.Proofs.YtpflbkgmgfhhnaaGreatDoor
open Go.RowKit
set_option linter.unusedVariables false

theorem owns_some {w : World} {B T sz n : Nat} {v : Value} {xs : List Value} (h : w.ownsRow B T sz v n xs) (hn : 1 ≤ n) : ∃ g c, v = .slice (some ⟨g, 0, none⟩) n c ∧ g < w.heap.size ∧ B ≤ g := by
  rcases h.2 with ⟨_, h0⟩ | ⟨g, cap, cur, h, h2, h3, _⟩
  · omega
  · exact ⟨g, cap, h, (Array.getElem?_eq_some_iff.1 h3).1, h2⟩


end Go.Proofs.YtpflbkgmgfhhnaaGreatDoor

/-
  A law for a statement whose order Go leaves open, some of whose operations make blocks.
-/
namespace Go.Proofs.YtpflbkgmgfhhnaaGreatDoor
open Go.RowKit
set_option linter.unusedVariables false
set_option linter.unusedSimpArgs false

section
variable {P : Program} {ops : Array Oper} {S : World → Prop}
def GivesM (P : Program) (S : World → Prop) (a : Act) : List Bool → List Oper → List Value → Prop
  | true :: m, _ :: r, _ :: vs => GivesM P S a m r vs
  | false :: m, o :: r, v :: vs => Gives P S o v a ∧ GivesM P S a m r vs
  | [], [], [] => True
  | _, _, _ => False
theorem GivesM.get {a : Act} : ∀ {m : List Bool} {l : List Oper} {vs : List Value}, GivesM P S a m l vs → ∀ i o, m[i]? = some false → l[i]? = some o → Gives P S o (vs.getD i undef) a
  | true :: m, p :: r, v :: vs, hg, 0, o, hi, h => by simp at hi
  | true :: m, p :: r, v :: vs, hg, i + 1, o, hi, h => by
    have := GivesM.get (show GivesM P S a m r vs from hg) i o (by simpa using hi) (by simpa using h)
    simpa using this
  | false :: m, p :: r, v :: vs, hg, 0, o, _, h => by
    have : p = o := by simpa using h
    subst this
    exact hg.1
  | false :: m, p :: r, v :: vs, hg, i + 1, o, hi, h => by
    have := GivesM.get hg.2 i o (by simpa using hi) (by simpa using h)
    simpa using this
  | [], _, _, _, _, _, hi, _ => by simp at hi
  | _ :: _, [], _, hg, _, _, _, h => by simp at h
  | true :: _, _ :: _, [], hg, _, _, _, _ => hg.elim
  | false :: _, _ :: _, [], hg, _, _, _, _ => hg.elim

theorem MadeR.fresh {wc w : World} {Z Z' : Array Value} {T T' : TypeId} {v : Value} (h : MadeR wc Z T v w) : v ≠ .pointer (some ⟨w.heap.size, 0, none⟩) := by
  obtain ⟨B, h1, h2, h3⟩ := h
  have h4 := lt_of_blk h3
  intro h5
  rw [h1] at h5
  injection h5 with h6
  injection h6 with h7
  injection h7 with h8
  omega

end
end Go.Proofs.YtpflbkgmgfhhnaaGreatDoor

/-
  A law for a statement whose order Go leaves open, some of whose operations make blocks that others of it fill.
-/
namespace Go.Proofs.YtpflbkgmgfhhnaaGreatDoor
open Go.RowKit
set_option linter.unusedVariables false
set_option linter.unusedSimpArgs false

section
variable {P : Program} {ops : Array Oper}

/-- As YieldsW.wpOp, where the operation leads from one kind of world to another one. -/
theorem step_wpOp {S S' : World → Prop} {i : Nat} {o : Oper} {v : Value} {a b : Act} (hi : ops[i]? = some o) (hg : o.guard = none) (h2 : ∀ w, S w → o.wp P a w (fun b w' => b = a.put o.dst v ∧ S' w') (fun _ _ _ => False)) (he : execOp b.eval o = execOp a.eval o)
    (hz : a.tmps.size = b.tmps.size)
    {Q : Exit → Act → World → Prop} {w : World} (hS : S w) : wpOp P ops Q i (fun c w' => c = b.put o.dst v ∧ S' w') b w := by
  unfold Go.wpOp
  simp only [hi]
  have h1 : Region.wanted o (yielded ops b.tmps) = true := by unfold Region.wanted; rw [hg]
  simp only [h1, if_true]
  refine .inl ?_
  have h := h2 w hS
  unfold Oper.wp at h ⊢
  rw [he]
  generalize (execOp a.eval o).run P w = r at h ⊢
  cases r with
  | ok n w' =>
    cases n <;> simp only [Oper.upon] at h ⊢
    case value u => exact ⟨put_same hz h.1, h.2⟩
    case skip => exact ⟨put_same hz h.1, h.2⟩
    case enter f args =>
      refine h.mono fun e w'' h' => ?_
      cases e with
      | returned u => exact ⟨put_same hz h'.1, h'.2⟩
      | panicked c => exact h'.elim
      | outgrown => obtain ⟨_, _, hf⟩ := h'; exact hf.elim
    case defer d =>
      exfalso
      have hd : ({ a with defers := d :: a.defers } : Act).defers = a.defers := by
        have := congrArg Act.defers h.1
        cases ho : o.dst with
        | none => rw [ho] at this; exact this
        | some x => rw [ho] at this; exact this
      have := congrArg List.length hd
      simp at this
    case row r args => exact h.mono fun u w'' h' => ⟨put_same hz h'.1, h'.2⟩
  | halt x w' => cases x <;> simp only [Oper.upon] at h

def ordB (ops : Array Oper) : Bool :=
  Region.noSelect ops &&
  ((List.range ops.size).all fun i => (List.range ops.size).all fun j => (i == j || dstB ops i j) && (lookB ops i j || (i != j && Region.waitsFor .any ops i j))) &&
  ((List.range ops.size).all fun i => match ops[i]? with
    | some o => o.guard.isNone && o.after.all fun e => !Region.binds .any e || decide (e.on < i)
    | none => false)

theorem unlisted_hd {n i : Nat} {l : Array Bool} (h : l.getD i false = false) : i ∉ hdJs n l := fun hi => by
  have h1 := (List.mem_filter.1 hi).2
  rw [h] at h1
  cases h1
theorem hdJs_set {n i : Nat} {l : Array Bool} (hs : l.size = n) (hi : i < n) (hu : l.getD i false = false) : (hdJs n l ++ [i]).Perm (hdJs n (l.setIfInBounds i true)) := by
  refine (List.perm_ext_iff_of_nodup ?_ ?_).2 fun x => ?_
  · refine List.nodup_append.2 ⟨List.nodup_range.filter _, by simp, fun x hx y hy => ?_⟩
    have hy' : y = i := by simpa using hy
    subst hy'
    intro hxy
    subst hxy
    have := (List.mem_filter.1 hx).2
    rw [hu] at this
    cases this
  · exact List.nodup_range.filter _
  · constructor
    · intro hx
      rcases List.mem_append.1 hx with hx | hx
      · have h1 := List.mem_filter.1 hx
        refine List.mem_filter.2 ⟨h1.1, ?_⟩
        rw [set_get (by omega)]
        split
        · rfl
        · exact h1.2
      · have hx' : x = i := by simpa using hx
        subst hx'
        refine List.mem_filter.2 ⟨List.mem_range.2 hi, ?_⟩
        rw [set_get (by omega), if_pos rfl]
    · intro hx
      have h1 := List.mem_filter.1 hx
      by_cases hix : i = x
      · subst hix; exact List.mem_append.2 (.inr (.head _))
      · refine List.mem_append.2 (.inl (List.mem_filter.2 ⟨h1.1, ?_⟩))
        have h2 := h1.2
        rwa [set_get (by omega), if_neg hix] at h2

/-- Where a block lies and what it holds. -/
def BlkAt (wc w : World) (v : Value) (C : Array Value) (T : TypeId) : Prop := ∃ B, v = .pointer (some ⟨B, 0, none⟩) ∧ wc.heap.size ≤ B ∧ w.heap[B]? = some (.cells C T (0, 0))

theorem wp_region_blocks {id : Nat} {Q : Exit → Act → World → Prop} {a : Act} {wc : World} {l : List Oper} (K : List (Nat × Nat)) (Z Y : Nat → Array Value) (T : Nat → TypeId) (val : Nat → Value) (hm : P.follows .mixedOrders = true) (hB : ordB l.toArray = true)
    (hK0 : ∀ p ∈ K, p.1 < l.length ∧ p.2 < l.length ∧ Region.waitsFor .any l.toArray p.2 p.1 = true)
    (hK : ∀ p ∈ K, ∀ p' ∈ K, (p.1 = p'.1 → p = p') ∧ (p.2 = p'.2 → p = p') ∧ p.1 ≠ p'.2)
    (hA : ∀ p ∈ K, ∀ o, l[p.1]? = some o → ∀ (b : Act) (w1 : World), (execOp b.eval o).run P w1 = .ok (.value (.pointer (some ⟨w1.heap.size, 0, none⟩))) (w1.alloc (.cells (Z p.1) (T p.1))))
    (hG : ∀ (V : Nat → Value) (Tt : World → Prop) (i : Nat) (o : Oper), (∀ j, j ∉ K.map Prod.fst → V j = val j) → Stable Tt → i ∉ K.map Prod.fst → i ∉ K.map Prod.snd → l[i]? = some o →
      Gives P (fun w => Blw wc.heap.size wc w ∧ Tt w) o (val i) (putJs l.toArray V (List.range l.length) a))
    (hSt : ∀ (V : Nat → Value) (p : Nat × Nat) (o : Oper) (B : Nat) (w1 : World), (∀ j, j ∉ K.map Prod.fst → V j = val j) → p ∈ K → l[p.2]? = some o → V p.1 = .pointer (some ⟨B, 0, none⟩) → Blw wc.heap.size wc w1 → wc.heap.size ≤ B → w1.heap[B]? = some (.cells (Z p.1) (T p.1) (0, 0)) →
      o.wp P (putJs l.toArray V (List.range l.length) a) w1 (fun c w' => c = (putJs l.toArray V (List.range l.length) a).put o.dst (V p.2) ∧ Blw wc.heap.size wc w' ∧ w'.heap[B]? = some (.cells (Y p.1) (T p.1) (0, 0)) ∧ ∀ B', B' ≠ B → w'.heap[B']? = w1.heap[B']?) (fun _ _ _ => False))
    (hQ : ∀ (V : Nat → Value) (w' : World), (∀ j, j ∉ K.map Prod.fst → V j = val j) → Blw wc.heap.size wc w' → (∀ p ∈ K, BlkAt wc w' (V p.1) (Y p.1) (T p.1)) → (∀ p ∈ K, ∀ p' ∈ K, p.1 ≠ p'.1 → V p.1 ≠ V p'.1) →
      Q .normal (putJs l.toArray V (List.range l.length) a) w') : (Code.region id l.toArray true).wp P Q a wc := by
  simp only [ordB, Bool.and_eq_true] at hB
  obtain ⟨⟨hsel, hab⟩, hord⟩ := hB
  obtain ⟨n, hn⟩ : ∃ n, l.length = n := ⟨_, rfl⟩
  have hN : l.toArray.size = n := by simpa using hn
  rw [hn] at hK0 hG hSt hQ
  rw [hN] at hab hord
  have hdst : ∀ i j, i < n → j < n → i ≠ j → dstB l.toArray i j = true := fun i j hi hj hij => by
    have h1 := List.all_eq_true.1 (List.all_eq_true.1 hab i (List.mem_range.2 hi)) j (List.mem_range.2 hj)
    simp only [Bool.and_eq_true, Bool.or_eq_true, beq_iff_eq] at h1
    exact h1.1.resolve_left hij
  have hlook : ∀ i j, i < n → j < n → lookB l.toArray i j = true ∨ (i ≠ j ∧ Region.waitsFor .any l.toArray i j = true) := fun i j hi hj => by
    have h1 := List.all_eq_true.1 (List.all_eq_true.1 hab i (List.mem_range.2 hi)) j (List.mem_range.2 hj)
    simp only [Bool.and_eq_true, Bool.or_eq_true, beq_iff_eq, bne_iff_ne, ne_eq] at h1
    exact h1.2
  have hbef : ∀ i o, i < n → l.toArray[i]? = some o → o.guard = none ∧ ∀ e ∈ o.after, Region.binds .any e = true → e.on < i := fun i o hi ho => by
    have h1 := List.all_eq_true.1 hord i (List.mem_range.2 hi)
    rw [ho] at h1
    simp only [Bool.and_eq_true, Option.isNone_iff_eq_none] at h1
    refine ⟨h1.1, fun e he hb => ?_⟩
    have h2 := Array.all_eq_true_iff_forall_mem.1 h1.2 e he
    rw [hb] at h2
    simpa using h2
  let I : Array Bool → Act → World → Prop := fun l' a' w' => l'.size = n ∧ ∃ V : Nat → Value, (∀ j, j ∉ K.map Prod.fst → V j = val j) ∧ a' = putJs l.toArray V (hdJs n l') a ∧ Blw wc.heap.size wc w' ∧
    (∀ p ∈ K, l'.getD p.1 false = true → BlkAt wc w' (V p.1) (if l'.getD p.2 false = true then Y p.1 else Z p.1) (T p.1)) ∧
    (∀ p ∈ K, ∀ p' ∈ K, p.1 ≠ p'.1 → l'.getD p.1 false = true → l'.getD p'.1 false = true → V p.1 ≠ V p'.1) ∧ (∀ p ∈ K, l'.getD p.2 false = true → l'.getD p.1 false = true)
  refine wp_region_any hm ?_
  refine wpAny_inv I ?_ ?_ _ _ _ _ (by simp) ⟨by simp [hN], val, fun _ _ => rfl, ?_, show Below _ _ _ from (Below.refl _ _).drew, fun p _ h0 => (by rw [getD_replicate_false] at h0; cases h0), fun p _ p' _ _ h0 => (by rw [getD_replicate_false] at h0; cases h0), fun p _ h0 => (by rw [getD_replicate_false] at h0; cases h0)⟩
  · -- the end
    rintro l' a' w' ⟨hs, V, hV, ha, hS, hb, hd, hst⟩ hr
    have hall : ∀ i, i < n → l'.getD i false = true := fun i => by
      induction i using Nat.strongRecOn with
      | _ i ih =>
        intro hi
        cases hg : l'.getD i false with
        | true => rfl
        | false =>
          exfalso
          obtain ⟨o, ho⟩ : ∃ o, l.toArray[i]? = some o := ⟨_, Array.getElem?_eq_getElem (by omega)⟩
          have : i ∈ Region.ready .any l.toArray l' := mem_ready.2 ⟨getD_in (by omega) hg, o, ho, fun e he hbd => ih _ ((hbef i o hi ho).2 e he hbd) (by have := (hbef i o hi ho).2 e he hbd; omega)⟩
          rw [hr] at this
          cases this
    have hF : hdJs n l' = List.range n := List.filter_eq_self.2 fun i hi => hall i (List.mem_range.1 hi)
    rw [ha, hF]
    exact hQ V w' hV hS (fun p hp => by
      have h1 := hb p hp (hall _ (hK0 p hp).1)
      rwa [if_pos (hall _ (hK0 p hp).2.1)] at h1) (fun p hp p' hp' hne => hd p hp p' hp' hne (hall _ (hK0 p hp).1) (hall _ (hK0 p' hp').1))
  · -- a step
    rintro l' a' w' i ⟨hs, V, hV, ha, hS, hb, hd, hst⟩ hi
    obtain ⟨hun, o, ho, hall⟩ := mem_ready.1 hi
    have huf : l'.getD i false = false := getD_both hun
    have hin : i < n := by
      rcases Nat.lt_or_ge i n with h | h
      · exact h
      · rw [Array.getElem?_eq_none (by omega)] at ho; cases ho
    have hgd := (hbef i o hin ho).1
    have ho' : l[i]? = some o := by simpa using ho
    have hw8 : ∀ j, j < n → Region.waitsFor .any l.toArray i j = true → l'.getD j false = true := fun j hj h1 => by
      obtain ⟨o', ho', e, he, hbd, hon⟩ := Region.waitsFor_spec h1
      have : o' = o := Option.some.inj (ho'.symm.trans ho)
      subst this
      have h2 := hall e he hbd
      rwa [hon] at h2
    have hput : ∀ V' : Nat → Value, (putJs l.toArray V' (hdJs n l') a).put o.dst (V' i) = putJs l.toArray V' (hdJs n (l'.setIfInBounds i true)) a := fun V' => by
      have hperm := hdJs_set hs hin huf
      have e1 : (putJs l.toArray V' (hdJs n l') a).put o.dst (V' i) = putJs l.toArray V' (hdJs n l' ++ [i]) a := by
        rw [putJs_append, putJs_cons, putJs_nil, ho]
        rfl
      rw [e1]
      refine putJs_perm hperm a fun x hx y hy hxy => ?_
      have m1 := hperm.mem_iff.1 hx
      have m2 := hperm.mem_iff.1 hy
      exact hdst x y (List.mem_range.1 (List.mem_filter.1 m1).1) (List.mem_range.1 (List.mem_filter.1 m2).1) hxy
    have hsz' : (l'.setIfInBounds i true).size = n := by simpa using hs
    have hG' : ∀ j, (l'.setIfInBounds i true).getD j false = if i = j then true else l'.getD j false := fun j => set_get (by omega)
    have hF : putJs l.toArray V (List.range n) a = putJs l.toArray V (unJs n l') a' := by
      rw [ha, ← putJs_append]
      exact (putJs_perm (hd_un_perm n l') a fun x hx y hy hxy => hdst x y (by have := (hd_un_perm n l').mem_iff.1 hx; simpa using this) (by have := (hd_un_perm n l').mem_iff.1 hy; simpa using this) hxy).symm
    have hex := exec_putJs (val := V) ho (Region.noSelect_spec hsel i o · · ho) (unJs n l') a' fun j hj => by
      have hj1 := List.mem_filter.1 hj
      have hj2 := List.mem_range.1 hj1.1
      rcases hlook i j hin hj2 with h1 | ⟨hne, h1⟩
      · exact h1
      · have h2 := hw8 j hj2 h1
        simp [h2] at hj1
    rw [← hF] at hex
    have hzz : (putJs l.toArray V (List.range n) a).tmps.size = a'.tmps.size := by rw [hF, putJs_size]
    by_cases hi1 : i ∈ K.map Prod.fst
    · obtain ⟨p, hp, rfl⟩ := List.mem_map.1 hi1
      unfold Go.wpOp
      simp only [ho]
      have hw : Region.wanted o (yielded l.toArray a'.tmps) = true := by unfold Region.wanted; rw [hgd]
      rw [hw]
      simp only [if_true]
      refine .inl ?_
      unfold Oper.wp
      rw [hA p hp o ho' a' w']
      have hS' : Below wc.heap.size wc w' := hS
      refine ⟨hsz', upd1 V p.1 (.pointer (some ⟨w'.heap.size, 0, none⟩)), fun j hj => ?_, ?_, below_allocS hS' _, fun q hq hql => ?_, fun q hq q' hq' hne hql hql' => ?_, fun q hq hql => ?_⟩
      · rw [upd1_ne _ _ (fun hji => hj (by rw [hji]; exact hi1))]
        exact hV j hj
      · have h4 := hput (upd1 V p.1 (.pointer (some ⟨w'.heap.size, 0, none⟩)))
        rw [upd1_self] at h4
        rw [← h4, ha]
        congr 1
        exact putJs_congr _ a fun j hj => by
          rw [upd1_ne _ _ (fun hji => unlisted_hd huf (by rw [← hji]; exact hj))]
      · have hq2 : p.1 ≠ q.2 := (hK p hp q hq).2.2
        rw [hG', if_neg hq2]
        by_cases hqp : q = p
        · subst hqp
          rw [upd1_self]
          have h2 : l'.getD q.2 false = false := by
            cases h3 : l'.getD q.2 false with
            | false => rfl
            | true => rw [hst q hq h3] at huf; cases huf
          rw [h2, if_neg (by decide)]
          exact ⟨_, rfl, hS'.size, blk_alloc_new _ _⟩
        · have hne : q.1 ≠ p.1 := fun h => hqp ((hK q hq p hp).1 h)
          rw [hG', if_neg (Ne.symm hne)] at hql
          rw [upd1_ne _ _ hne]
          obtain ⟨B, h1, h2, h3⟩ := hb q hq hql
          exact ⟨B, h1, h2, blk_alloc_other h3 _⟩
      · have fresh : ∀ q ∈ K, l'.getD q.1 false = true → V q.1 ≠ .pointer (some ⟨w'.heap.size, 0, none⟩) := fun q hq hl he => by
          obtain ⟨B, h1, h2, h3⟩ := hb q hq hl
          have h4 := lt_of_blk h3
          rw [h1] at he
          injection he with h6
          injection h6 with h7
          injection h7 with h8
          omega
        rw [hG'] at hql hql'
        by_cases h1 : p.1 = q.1
        · have h2 : p.1 ≠ q'.1 := fun h => hne (h1.symm.trans h)
          rw [if_neg h2] at hql'
          rw [← h1, upd1_self, upd1_ne _ _ (Ne.symm h2)]
          exact (fresh q' hq' hql').symm
        · rw [if_neg h1] at hql
          rw [upd1_ne _ _ (Ne.symm h1)]
          by_cases h2 : p.1 = q'.1
          · rw [← h2, upd1_self]
            exact fresh q hq hql
          · rw [if_neg h2] at hql'
            rw [upd1_ne _ _ (Ne.symm h2)]
            exact hd q hq q' hq' hne hql hql'
      · rw [hG', if_neg ((hK p hp q hq).2.2)] at hql
        rw [hG']
        split
        · rfl
        · exact hst q hq hql
    · by_cases hi2 : i ∈ K.map Prod.snd
      · obtain ⟨p, hp, rfl⟩ := List.mem_map.1 hi2
        have hl1 := hw8 p.1 (hK0 p hp).1 (hK0 p hp).2.2
        obtain ⟨B, h1, h2, h3⟩ := hb p hp hl1
        rw [huf, if_neg (by decide)] at h3
        refine wpOp_mono (fun c w'' hcw => ?_) (step_wpOp (S := fun w => w = w') (S' := fun w'' => Blw wc.heap.size wc w'' ∧ w''.heap[B]? = some (.cells (Y p.1) (T p.1) (0, 0)) ∧ ∀ B', B' ≠ B → w''.heap[B']? = w'.heap[B']?) (v := V p.2) ho hgd (fun w1 hw1 => by
          subst hw1
          exact hSt V p o B w1 hV hp ho' h1 hS h2 h3) hex.1.symm hzz rfl)
        obtain ⟨hc, hS'', hB1, hB2⟩ := hcw
        refine ⟨hsz', V, hV, ?_, hS'', fun q hq hql => ?_, fun q hq q' hq' hne hql hql' => ?_, fun q hq hql => ?_⟩
        · rw [hc, ha]
          exact hput V
        · by_cases hqp : q = p
          · subst hqp
            rw [hG', if_pos rfl, if_pos rfl]
            exact ⟨B, h1, h2, hB1⟩
          · have hne : q.1 ≠ p.1 := fun h => hqp ((hK q hq p hp).1 h)
            have hne2 : p.2 ≠ q.2 := fun h => hqp ((hK p hp q hq).2.1 h).symm
            have hne3 : p.2 ≠ q.1 := Ne.symm ((hK q hq p hp).2.2)
            rw [hG', if_neg hne3] at hql
            rw [hG', if_neg hne2]
            obtain ⟨B', g1, g2, g3⟩ := hb q hq hql
            refine ⟨B', g1, g2, ?_⟩
            rw [hB2 B' (fun hBB => hd q hq p hp hne hql hl1 (by rw [g1, h1, hBB]))]
            exact g3
        · have hne3 : p.2 ≠ q.1 := Ne.symm ((hK q hq p hp).2.2)
          have hne4 : p.2 ≠ q'.1 := Ne.symm ((hK q' hq' p hp).2.2)
          rw [hG', if_neg hne3] at hql
          rw [hG', if_neg hne4] at hql'
          exact hd q hq q' hq' hne hql hql'
        · rw [hG']
          split
          · rfl
          · rw [hG'] at hql
            by_cases hqp : p.2 = q.2
            · rw [← (hK p hp q hq).2.1 hqp]; exact hl1
            · rw [if_neg hqp] at hql
              exact hst q hq hql
      · let Tt : World → Prop := fun w => ∀ p ∈ K, l'.getD p.1 false = true → BlkAt wc w (V p.1) (if l'.getD p.2 false = true then Y p.1 else Z p.1) (T p.1)
        have hTt : Stable Tt := fun w w1 h1 h2 p hp hl => by
          obtain ⟨B, g1, g2, g3⟩ := h1 p hp hl
          exact ⟨B, g1, g2, (h2.block _ (lt_of_blk g3)).trans g3⟩
        have hne1 : ∀ q ∈ K, i ≠ q.1 := fun q hq h => hi1 (by rw [h]; exact List.mem_map.2 ⟨q, hq, rfl⟩)
        have hne2 : ∀ q ∈ K, i ≠ q.2 := fun q hq h => hi2 (by rw [h]; exact List.mem_map.2 ⟨q, hq, rfl⟩)
        refine wpOp_mono (fun c w'' hcw => ?_) (step_wpOp (S := fun w => Blw wc.heap.size wc w ∧ Tt w) (S' := fun w => Blw wc.heap.size wc w ∧ Tt w) (v := val i) ho hgd (hG V Tt i o hV hTt hi1 hi2 ho') hex.1.symm hzz ⟨hS, hb⟩)
        obtain ⟨hc, hS'', hT''⟩ := hcw
        refine ⟨hsz', V, hV, ?_, hS'', fun q hq hql => ?_, fun q hq q' hq' hne hql hql' => ?_, fun q hq hql => ?_⟩
        · have h4 := hput V
          rw [hV i hi1] at h4
          rw [hc, ha, h4]
        · rw [hG', if_neg (hne1 q hq)] at hql
          rw [hG', if_neg (hne2 q hq)]
          exact hT'' q hq hql
        · rw [hG', if_neg (hne1 q hq)] at hql
          rw [hG', if_neg (hne1 q' hq')] at hql'
          exact hd q hq q' hq' hne hql hql'
        · rw [hG', if_neg (hne2 q hq)] at hql
          rw [hG', if_neg (hne1 q hq)]
          exact hst q hq hql
  · have : hdJs n (Array.replicate l.toArray.size false) = [] := List.filter_eq_nil_iff.2 fun i _ => by rw [getD_replicate_false]; simp
    rw [this]
    rfl
theorem oper_mono {o : Oper} {a : Act} {w : World} {K K' : Act → World → Prop} (h : ∀ c w', K c w' → K' c w') (k : o.wp P a w K (fun _ _ _ => False)) : o.wp P a w K' (fun _ _ _ => False) := by
  unfold Oper.wp at k ⊢
  generalize (execOp a.eval o).run P w = r at k ⊢
  cases r with
  | ok n w' =>
    cases n <;> simp only [Oper.upon] at k ⊢
    case value u => exact h _ _ k
    case skip => exact h _ _ k
    case enter f args =>
      refine k.mono fun e w'' h' => ?_
      cases e with
      | returned u => exact h _ _ h'
      | panicked c => exact h'.elim
      | outgrown => obtain ⟨_, _, hf⟩ := h'; exact hf.elim
    case defer d => exact h _ _ k
    case row r args => exact k.mono fun u w'' h' => h _ _ h'
  | halt x w' => cases x <;> simp only [Oper.upon] at k

/-- Two blocks of three cells are made, and filled. -/
theorem wp_region_put2 {id : Nat} {Q : Exit → Act → World → Prop} {a : Act} {aF : Value → Value → Act} {wc : World} {l : List Oper} (k1 s1 k2 s2 : Nat) (m : List Bool) (c0 c1 c2 d0 d1 d2 x0 x1 x2 y0 y1 y2 : Value) (T1 T2 : TypeId) (vals : List Value) (o1 o2 p1 p2 : Oper)
    (hm : P.follows .mixedOrders = true) (hB : ordB l.toArray = true)
    (hK : (k1 < l.length ∧ s1 < l.length ∧ k2 < l.length ∧ s2 < l.length) ∧ (k1 ≠ k2 ∧ s1 ≠ s2 ∧ k1 ≠ s1 ∧ k1 ≠ s2 ∧ k2 ≠ s1 ∧ k2 ≠ s2) ∧ m = (List.range l.length).map fun i => i == k1 || i == k2 || i == s1 || i == s2)
    (hW : Region.waitsFor .any l.toArray s1 k1 = true ∧ Region.waitsFor .any l.toArray s2 k2 = true)
    (ho1 : l[k1]? = some o1) (ho2 : l[k2]? = some o2) (hp1 : l[s1]? = some p1) (hp2 : l[s2]? = some p2) (hd1 : p1.dst = none) (hd2 : p2.dst = none)
    (hz1 : ∀ (b : Act) (w1 : World), (execOp b.eval o1).run P w1 = .ok (.value (.pointer (some ⟨w1.heap.size, 0, none⟩))) (w1.alloc (.cells #[c0, c1, c2] T1)))
    (hz2 : ∀ (b : Act) (w1 : World), (execOp b.eval o2).run P w1 = .ok (.value (.pointer (some ⟨w1.heap.size, 0, none⟩))) (w1.alloc (.cells #[d0, d1, d2] T2)))
    (haF : ∀ u v, putJs l.toArray (upd1 (upd1 (fun i => vals.getD i undef) k1 u) k2 v) (List.range l.length) a = aF u v)
    (hG : ∀ u v Tt, Stable Tt → GivesM P (fun w => Blw wc.heap.size wc w ∧ Tt w) (aF u v) m l vals)
    (hS1 : ∀ B v w1, w1.heap[B]? = some (.cells #[c0, c1, c2] T1 (0, 0)) → p1.wp P (aF (.pointer (some ⟨B, 0, none⟩)) v) w1 (fun c w' => c = aF (.pointer (some ⟨B, 0, none⟩)) v ∧ w' = put3 w1 B x0 x1 x2) (fun _ _ _ => False))
    (hS2 : ∀ u B w1, w1.heap[B]? = some (.cells #[d0, d1, d2] T2 (0, 0)) → p2.wp P (aF u (.pointer (some ⟨B, 0, none⟩))) w1 (fun c w' => c = aF u (.pointer (some ⟨B, 0, none⟩)) ∧ w' = put3 w1 B y0 y1 y2) (fun _ _ _ => False))
    (hQ : ∀ B1 B2 w', B1 ≠ B2 → wc.heap.size ≤ B1 → wc.heap.size ≤ B2 → Blw wc.heap.size wc w' → w'.heap[B1]? = some (.cells #[x0, x1, x2] T1 (0, 0)) → w'.heap[B2]? = some (.cells #[y0, y1, y2] T2 (0, 0)) →
      Q .normal (aF (.pointer (some ⟨B1, 0, none⟩)) (.pointer (some ⟨B2, 0, none⟩))) w') : (Code.region id l.toArray true).wp P Q a wc := by
  obtain ⟨⟨b1, b2, b3, b4⟩, ⟨n1, n2, n3, n4, n5, n6⟩, hmm⟩ := hK
  have hV : ∀ V : Nat → Value, (∀ j, j ∉ [(k1, s1), (k2, s2)].map Prod.fst → V j = vals.getD j undef) → putJs l.toArray V (List.range l.length) a = aF (V k1) (V k2) := fun V hV => by
    rw [← haF]
    refine putJs_congr _ a fun j _ => ?_
    by_cases h2 : j = k2
    · subst h2; rw [upd1_self]
    · rw [upd1_ne _ _ h2]
      by_cases h1 : j = k1
      · subst h1; rw [upd1_self]
      · rw [upd1_ne _ _ h1]
        exact hV j (by simp [h1, h2])
  have e1 : (if k2 = k1 then (#[c0, c1, c2] : Array Value) else #[d0, d1, d2]) = #[d0, d1, d2] := if_neg (Ne.symm n1)
  have e2 : (if k2 = k1 then (#[x0, x1, x2] : Array Value) else #[y0, y1, y2]) = #[y0, y1, y2] := if_neg (Ne.symm n1)
  have e3 : (if k2 = k1 then T1 else T2) = T2 := if_neg (Ne.symm n1)
  have f1 : (if k1 = k1 then (#[c0, c1, c2] : Array Value) else #[d0, d1, d2]) = #[c0, c1, c2] := if_pos rfl
  have f2 : (if k1 = k1 then (#[x0, x1, x2] : Array Value) else #[y0, y1, y2]) = #[x0, x1, x2] := if_pos rfl
  have f3 : (if k1 = k1 then T1 else T2) = T1 := if_pos rfl
  have put : ∀ {w1 : World} {B : Nat} {T : TypeId} {c0 c1 c2 : Value} (x0 x1 x2 : Value), Blw wc.heap.size wc w1 → wc.heap.size ≤ B → w1.heap[B]? = some (.cells #[c0, c1, c2] T (0, 0)) →
      Blw wc.heap.size wc (put3 w1 B x0 x1 x2) ∧ (put3 w1 B x0 x1 x2).heap[B]? = some (.cells #[x0, x1, x2] T (0, 0)) ∧ ∀ B', B' ≠ B → (put3 w1 B x0 x1 x2).heap[B']? = w1.heap[B']? := fun {w1 B T c0 c1 c2} x0 x1 x2 h1 h2 h3 =>
    ⟨show Below _ _ _ from put3_below (show Below _ _ _ from h1) h2 _ _ _, put3_self h3 _ _ _, fun B' hB' => put3_other _ hB' _ _ _⟩
  refine wp_region_blocks [(k1, s1), (k2, s2)] (fun i => if i = k1 then #[c0, c1, c2] else #[d0, d1, d2]) (fun i => if i = k1 then #[x0, x1, x2] else #[y0, y1, y2]) (fun i => if i = k1 then T1 else T2) (fun i => vals.getD i undef) hm hB ?_ ?_ ?_ ?_ ?_ ?_
  · intro p hp
    rcases (show p = (k1, s1) ∨ p = (k2, s2) by simpa using hp) with rfl | rfl
    · exact ⟨b1, b2, hW.1⟩
    · exact ⟨b3, b4, hW.2⟩
  · intro p hp q hq
    rcases (show p = (k1, s1) ∨ p = (k2, s2) by simpa using hp) with rfl | rfl <;> rcases (show q = (k1, s1) ∨ q = (k2, s2) by simpa using hq) with rfl | rfl
    · exact ⟨fun _ => rfl, fun _ => rfl, n3⟩
    · exact ⟨fun h => absurd h n1, fun h => absurd h n2, n4⟩
    · exact ⟨fun h => absurd h (Ne.symm n1), fun h => absurd h (Ne.symm n2), n5⟩
    · exact ⟨fun _ => rfl, fun _ => rfl, n6⟩
  · intro p hp o ho b w1
    rcases (show p = (k1, s1) ∨ p = (k2, s2) by simpa using hp) with rfl | rfl
    · obtain rfl : o1 = o := Option.some.inj (ho1.symm.trans ho)
      simp only [f1, f3]
      exact hz1 b w1
    · obtain rfl : o2 = o := Option.some.inj (ho2.symm.trans ho)
      simp only [e1, e3]
      exact hz2 b w1
  · intro V Tt i o hV' hT hi1 hi2 ho
    rw [hV V hV']
    have hin : i < l.length := by
      rcases Nat.lt_or_ge i l.length with h | h
      · exact h
      · rw [List.getElem?_eq_none h] at ho; cases ho
    refine (hG (V k1) (V k2) Tt hT).get i o ?_ ho
    rw [hmm, List.getElem?_map, List.getElem?_range hin]
    simp at hi1 hi2
    simp [hi1, hi2]
  · intro V p o B w1 hV' hp ho hv hS hB' hb
    rcases (show p = (k1, s1) ∨ p = (k2, s2) by simpa using hp) with rfl | rfl
    · obtain rfl : p1 = o := Option.some.inj (hp1.symm.trans ho)
      simp only [f1, f2, f3] at hb ⊢
      rw [hV V hV', show V k1 = _ from hv, hd1]
      have h := hS1 B (V k2) w1 hb
      have h4 := put x0 x1 x2 hS hB' hb
      exact oper_mono (fun c w' h => ⟨h.1, by rw [h.2]; exact h4.1, by rw [h.2]; exact h4.2.1, by rw [h.2]; exact h4.2.2⟩) h
    · obtain rfl : p2 = o := Option.some.inj (hp2.symm.trans ho)
      simp only [e1, e2, e3] at hb ⊢
      rw [hV V hV', show V k2 = _ from hv, hd2]
      have h := hS2 (V k1) B w1 hb
      have h4 := put y0 y1 y2 hS hB' hb
      exact oper_mono (fun c w' h => ⟨h.1, by rw [h.2]; exact h4.1, by rw [h.2]; exact h4.2.1, by rw [h.2]; exact h4.2.2⟩) h
  · intro V w' hV' hS hb hne
    rw [hV V hV']
    obtain ⟨B1, g1, g2, g3⟩ := hb (k1, s1) (by simp)
    obtain ⟨B2, q1, q2, q3⟩ := hb (k2, s2) (by simp)
    have h5 := hne (k1, s1) (by simp) (k2, s2) (by simp) n1
    simp only [f2, f3] at g3
    simp only [e2, e3] at q3
    simp only at g1 q1 h5
    rw [g1, q1] at h5 ⊢
    exact hQ B1 B2 w' (fun h => h5 (by rw [h])) g2 q2 hS g3 q3
end
end Go.Proofs.YtpflbkgmgfhhnaaGreatDoor

/-
  A law for a statement whose order Go leaves open, some of whose operations fill blocks that are there.
-/
namespace Go.Proofs.YtpflbkgmgfhhnaaGreatDoor
open Go.RowKit
set_option linter.unusedVariables false
set_option linter.unusedSimpArgs false

section
variable {P : Program} {ops : Array Oper}
/-- As wp_region_blocks, where blocks that are there already are filled: F names the stores and the blocks. -/
theorem wp_region_fills {id : Nat} {Q : Exit → Act → World → Prop} {a : Act} {wb wc : World} {l : List Oper} (F : List (Nat × Nat)) (Z Y : Nat → Array Value) (T : Nat → TypeId) (val : Nat → Value) (hm : P.follows .mixedOrders = true) (hB : ordB l.toArray = true)
    (hF0 : ∀ p ∈ F, p.1 < l.length ∧ wb.heap.size ≤ p.2 ∧ wc.heap[p.2]? = some (.cells (Z p.1) (T p.1) (0, 0)))
    (hF : ∀ p ∈ F, ∀ p' ∈ F, (p.1 = p'.1 → p = p') ∧ (p.2 = p'.2 → p = p'))
    (hW : Blw wb.heap.size wb wc)
    (hG : ∀ (Tt : World → Prop) (i : Nat) (o : Oper), Stable Tt → i ∉ F.map Prod.fst → l[i]? = some o → Gives P (fun w => Blw wb.heap.size wb w ∧ Tt w) o (val i) (putJs l.toArray val (List.range l.length) a))
    (hSt : ∀ (p : Nat × Nat) (o : Oper) (w1 : World), p ∈ F → l[p.1]? = some o → Blw wb.heap.size wb w1 → w1.heap[p.2]? = some (.cells (Z p.1) (T p.1) (0, 0)) →
      o.wp P (putJs l.toArray val (List.range l.length) a) w1 (fun c w' => c = (putJs l.toArray val (List.range l.length) a).put o.dst (val p.1) ∧ Blw wb.heap.size wb w' ∧ w'.heap[p.2]? = some (.cells (Y p.1) (T p.1) (0, 0)) ∧ ∀ B', B' ≠ p.2 → w'.heap[B']? = w1.heap[B']?) (fun _ _ _ => False))
    (hQ : ∀ (w' : World), Blw wb.heap.size wb w' → (∀ p ∈ F, w'.heap[p.2]? = some (.cells (Y p.1) (T p.1) (0, 0))) → Q .normal (putJs l.toArray val (List.range l.length) a) w') : (Code.region id l.toArray true).wp P Q a wc := by
  simp only [ordB, Bool.and_eq_true] at hB
  obtain ⟨⟨hsel, hab⟩, hord⟩ := hB
  obtain ⟨n, hn⟩ : ∃ n, l.length = n := ⟨_, rfl⟩
  have hN : l.toArray.size = n := by simpa using hn
  rw [hn] at hF0 hG hSt hQ
  rw [hN] at hab hord
  have hdst : ∀ i j, i < n → j < n → i ≠ j → dstB l.toArray i j = true := fun i j hi hj hij => by
    have h1 := List.all_eq_true.1 (List.all_eq_true.1 hab i (List.mem_range.2 hi)) j (List.mem_range.2 hj)
    simp only [Bool.and_eq_true, Bool.or_eq_true, beq_iff_eq] at h1
    exact h1.1.resolve_left hij
  have hlook : ∀ i j, i < n → j < n → lookB l.toArray i j = true ∨ (i ≠ j ∧ Region.waitsFor .any l.toArray i j = true) := fun i j hi hj => by
    have h1 := List.all_eq_true.1 (List.all_eq_true.1 hab i (List.mem_range.2 hi)) j (List.mem_range.2 hj)
    simp only [Bool.and_eq_true, Bool.or_eq_true, beq_iff_eq, bne_iff_ne, ne_eq] at h1
    exact h1.2
  have hbef : ∀ i o, i < n → l.toArray[i]? = some o → o.guard = none ∧ ∀ e ∈ o.after, Region.binds .any e = true → e.on < i := fun i o hi ho => by
    have h1 := List.all_eq_true.1 hord i (List.mem_range.2 hi)
    rw [ho] at h1
    simp only [Bool.and_eq_true, Option.isNone_iff_eq_none] at h1
    refine ⟨h1.1, fun e he hb => ?_⟩
    have h2 := Array.all_eq_true_iff_forall_mem.1 h1.2 e he
    rw [hb] at h2
    simpa using h2
  have aF := putJs l.toArray val (List.range n) a
  let I : Array Bool → Act → World → Prop := fun l' a' w' => l'.size = n ∧ a' = putJs l.toArray val (hdJs n l') a ∧ Blw wb.heap.size wb w' ∧
    (∀ p ∈ F, w'.heap[p.2]? = some (.cells (if l'.getD p.1 false = true then Y p.1 else Z p.1) (T p.1) (0, 0)))
  refine wp_region_any hm ?_
  refine wpAny_inv I ?_ ?_ _ _ _ _ (by simp) ⟨by simp [hN], ?_, show Below _ _ _ from (show Below _ _ _ from hW).drew, fun p hp => ?_⟩
  · -- the end
    rintro l' a' w' ⟨hs, ha, hS, hb⟩ hr
    have hall : ∀ i, i < n → l'.getD i false = true := fun i => by
      induction i using Nat.strongRecOn with
      | _ i ih =>
        intro hi
        cases hg : l'.getD i false with
        | true => rfl
        | false =>
          exfalso
          obtain ⟨o, ho⟩ : ∃ o, l.toArray[i]? = some o := ⟨_, Array.getElem?_eq_getElem (by omega)⟩
          have : i ∈ Region.ready .any l.toArray l' := mem_ready.2 ⟨getD_in (by omega) hg, o, ho, fun e he hbd => ih _ ((hbef i o hi ho).2 e he hbd) (by have := (hbef i o hi ho).2 e he hbd; omega)⟩
          rw [hr] at this
          cases this
    have hF1 : hdJs n l' = List.range n := List.filter_eq_self.2 fun i hi => hall i (List.mem_range.1 hi)
    rw [ha, hF1]
    exact hQ w' hS (fun p hp => by
      have h1 := hb p hp
      rwa [if_pos (hall _ (hF0 p hp).1)] at h1)
  · -- a step
    rintro l' a' w' i ⟨hs, ha, hS, hb⟩ hi
    obtain ⟨hun, o, ho, hall⟩ := mem_ready.1 hi
    have huf : l'.getD i false = false := getD_both hun
    have hin : i < n := by
      rcases Nat.lt_or_ge i n with h | h
      · exact h
      · rw [Array.getElem?_eq_none (by omega)] at ho; cases ho
    have hgd := (hbef i o hin ho).1
    have ho' : l[i]? = some o := by simpa using ho
    have hw8 : ∀ j, j < n → Region.waitsFor .any l.toArray i j = true → l'.getD j false = true := fun j hj h1 => by
      obtain ⟨o', ho', e, he, hbd, hon⟩ := Region.waitsFor_spec h1
      have : o' = o := Option.some.inj (ho'.symm.trans ho)
      subst this
      have h2 := hall e he hbd
      rwa [hon] at h2
    have hput : (putJs l.toArray val (hdJs n l') a).put o.dst (val i) = putJs l.toArray val (hdJs n (l'.setIfInBounds i true)) a := by
      have hperm := hdJs_set hs hin huf
      have e1 : (putJs l.toArray val (hdJs n l') a).put o.dst (val i) = putJs l.toArray val (hdJs n l' ++ [i]) a := by
        rw [putJs_append, putJs_cons, putJs_nil, ho]
        rfl
      rw [e1]
      refine putJs_perm hperm a fun x hx y hy hxy => ?_
      have m1 := hperm.mem_iff.1 hx
      have m2 := hperm.mem_iff.1 hy
      exact hdst x y (List.mem_range.1 (List.mem_filter.1 m1).1) (List.mem_range.1 (List.mem_filter.1 m2).1) hxy
    have hsz' : (l'.setIfInBounds i true).size = n := by simpa using hs
    have hG' : ∀ j, (l'.setIfInBounds i true).getD j false = if i = j then true else l'.getD j false := fun j => set_get (by omega)
    have hFr : putJs l.toArray val (List.range n) a = putJs l.toArray val (unJs n l') a' := by
      rw [ha, ← putJs_append]
      exact (putJs_perm (hd_un_perm n l') a fun x hx y hy hxy => hdst x y (by have := (hd_un_perm n l').mem_iff.1 hx; simpa using this) (by have := (hd_un_perm n l').mem_iff.1 hy; simpa using this) hxy).symm
    have hex := exec_putJs (val := val) ho (Region.noSelect_spec hsel i o · · ho) (unJs n l') a' fun j hj => by
      have hj1 := List.mem_filter.1 hj
      have hj2 := List.mem_range.1 hj1.1
      rcases hlook i j hin hj2 with h1 | ⟨hne, h1⟩
      · exact h1
      · have h2 := hw8 j hj2 h1
        simp [h2] at hj1
    rw [← hFr] at hex
    have hzz : (putJs l.toArray val (List.range n) a).tmps.size = a'.tmps.size := by rw [hFr, putJs_size]
    by_cases hi2 : i ∈ F.map Prod.fst
    · obtain ⟨p, hp, rfl⟩ := List.mem_map.1 hi2
      have h3 := hb p hp
      rw [huf, if_neg (by decide)] at h3
      refine wpOp_mono (fun c w'' hcw => ?_) (step_wpOp (S := fun w => w = w') (S' := fun w'' => Blw wb.heap.size wb w'' ∧ w''.heap[p.2]? = some (.cells (Y p.1) (T p.1) (0, 0)) ∧ ∀ B', B' ≠ p.2 → w''.heap[B']? = w'.heap[B']?) (v := val p.1) ho hgd (fun w1 hw1 => by
        subst hw1
        exact hSt p o w1 hp ho' hS h3) hex.1.symm hzz rfl)
      obtain ⟨hc, hS'', hB1, hB2⟩ := hcw
      refine ⟨hsz', ?_, hS'', fun q hq => ?_⟩
      · rw [hc, ha]
        exact hput
      · by_cases hqp : q = p
        · subst hqp
          rw [hG', if_pos rfl, if_pos rfl]
          exact hB1
        · have hne : p.1 ≠ q.1 := fun h => hqp ((hF p hp q hq).1 h).symm
          have hne2 : q.2 ≠ p.2 := fun h => hqp ((hF q hq p hp).2 h)
          rw [hG', if_neg hne, hB2 _ hne2]
          exact hb q hq
    · let Tt : World → Prop := fun w => ∀ p ∈ F, w.heap[p.2]? = some (.cells (if l'.getD p.1 false = true then Y p.1 else Z p.1) (T p.1) (0, 0))
      have hTt : Stable Tt := fun w w1 h1 h2 p hp => by
        have g3 := h1 p hp
        exact (h2.block _ (lt_of_blk g3)).trans g3
      have hne2 : ∀ q ∈ F, i ≠ q.1 := fun q hq h => hi2 (by rw [h]; exact List.mem_map.2 ⟨q, hq, rfl⟩)
      refine wpOp_mono (fun c w'' hcw => ?_) (step_wpOp (S := fun w => Blw wb.heap.size wb w ∧ Tt w) (S' := fun w => Blw wb.heap.size wb w ∧ Tt w) (v := val i) ho hgd (hG Tt i o hTt hi2 ho') hex.1.symm hzz ⟨hS, hb⟩)
      obtain ⟨hc, hS'', hT''⟩ := hcw
      refine ⟨hsz', ?_, hS'', fun q hq => ?_⟩
      · rw [hc, ha, hput]
      · rw [hG', if_neg (hne2 q hq)]
        exact hT'' q hq
  · have : hdJs n (Array.replicate l.toArray.size false) = [] := List.filter_eq_nil_iff.2 fun i _ => by rw [getD_replicate_false]; simp
    rw [this]
    rfl
  · rw [getD_replicate_false, if_neg (by decide)]
    have h1 := (hF0 p hp).2.2
    have h2 : Below wc.heap.size wc wc.drew := (Below.refl _ _).drew
    exact (h2.block _ (lt_of_blk h1)).trans h1

/-- Two blocks that are there are filled, the rest gives values. -/
theorem wp_region_fill2 {id : Nat} {Q : Exit → Act → World → Prop} {a aF : Act} {wb wc : World} {l : List Oper} (s1 s2 B1 B2 : Nat) (m : List Bool) (Z1 Z2 Y1 Y2 : Array Value) (T1 T2 : TypeId) (vals : List Value) (p1 p2 : Oper) (hm : P.follows .mixedOrders = true) (hB : ordB l.toArray = true)
    (hs : s1 < l.length ∧ s2 < l.length ∧ s1 ≠ s2 ∧ m = (List.range l.length).map fun i => i == s1 || i == s2) (hp1 : l[s1]? = some p1) (hp2 : l[s2]? = some p2) (hd1 : p1.dst = none) (hd2 : p2.dst = none)
    (hne : B1 ≠ B2) (hb1 : wb.heap.size ≤ B1) (hb2 : wb.heap.size ≤ B2) (hz1 : wc.heap[B1]? = some (.cells Z1 T1 (0, 0))) (hz2 : wc.heap[B2]? = some (.cells Z2 T2 (0, 0))) (hW : Blw wb.heap.size wb wc)
    (haF : putJs l.toArray (fun i => vals.getD i undef) (List.range l.length) a = aF)
    (hG : ∀ Tt, Stable Tt → GivesM P (fun w => Blw wb.heap.size wb w ∧ Tt w) aF m l vals)
    (hS1 : ∀ w1, w1.heap[B1]? = some (.cells Z1 T1 (0, 0)) → Blw wb.heap.size wb w1 → p1.wp P aF w1 (fun c w' => c = aF ∧ Blw wb.heap.size wb w' ∧ w'.heap[B1]? = some (.cells Y1 T1 (0, 0)) ∧ ∀ B', B' ≠ B1 → w'.heap[B']? = w1.heap[B']?) (fun _ _ _ => False))
    (hS2 : ∀ w1, w1.heap[B2]? = some (.cells Z2 T2 (0, 0)) → Blw wb.heap.size wb w1 → p2.wp P aF w1 (fun c w' => c = aF ∧ Blw wb.heap.size wb w' ∧ w'.heap[B2]? = some (.cells Y2 T2 (0, 0)) ∧ ∀ B', B' ≠ B2 → w'.heap[B']? = w1.heap[B']?) (fun _ _ _ => False))
    (hQ : ∀ w', Blw wb.heap.size wb w' → w'.heap[B1]? = some (.cells Y1 T1 (0, 0)) → w'.heap[B2]? = some (.cells Y2 T2 (0, 0)) → Q .normal aF w') : (Code.region id l.toArray true).wp P Q a wc := by
  obtain ⟨b1, b2, n1, hmm⟩ := hs
  refine wp_region_fills [(s1, B1), (s2, B2)] (fun i => if i = s1 then Z1 else Z2) (fun i => if i = s1 then Y1 else Y2) (fun i => if i = s1 then T1 else T2) (fun i => vals.getD i undef) hm hB ?_ ?_ hW ?_ ?_ ?_
  · intro p hp
    rcases (show p = (s1, B1) ∨ p = (s2, B2) by simpa using hp) with rfl | rfl
    · simp only [if_true]
      exact ⟨b1, hb1, hz1⟩
    · simp only [if_neg (Ne.symm n1)]
      exact ⟨b2, hb2, hz2⟩
  · intro p hp q hq
    rcases (show p = (s1, B1) ∨ p = (s2, B2) by simpa using hp) with rfl | rfl <;> rcases (show q = (s1, B1) ∨ q = (s2, B2) by simpa using hq) with rfl | rfl
    · exact ⟨fun _ => rfl, fun _ => rfl⟩
    · exact ⟨fun h => absurd h n1, fun h => absurd h hne⟩
    · exact ⟨fun h => absurd h (Ne.symm n1), fun h => absurd h (Ne.symm hne)⟩
    · exact ⟨fun _ => rfl, fun _ => rfl⟩
  · intro Tt i o hT hi1 ho
    rw [haF]
    have hin : i < l.length := by
      rcases Nat.lt_or_ge i l.length with h | h
      · exact h
      · rw [List.getElem?_eq_none h] at ho; cases ho
    refine (hG Tt hT).get i o ?_ ho
    rw [hmm, List.getElem?_map, List.getElem?_range hin]
    simp at hi1
    simp [hi1]
  · intro p o w1 hp ho hS hb
    rw [haF]
    rcases (show p = (s1, B1) ∨ p = (s2, B2) by simpa using hp) with rfl | rfl
    · obtain rfl : p1 = o := Option.some.inj (hp1.symm.trans ho)
      simp only [if_true] at hb ⊢
      rw [hd1]
      exact hS1 w1 hb hS
    · obtain rfl : p2 = o := Option.some.inj (hp2.symm.trans ho)
      simp only [if_neg (Ne.symm n1)] at hb ⊢
      rw [hd2]
      exact hS2 w1 hb hS
  · intro w' hS hb
    rw [haF]
    have g1 := hb (s1, B1) (by simp)
    have g2 := hb (s2, B2) (by simp)
    simp only [if_true] at g1
    simp only [if_neg (Ne.symm n1)] at g2
    exact hQ w' hS g1 g2
end
end Go.Proofs.YtpflbkgmgfhhnaaGreatDoor

/-
  The shelf's contracts of strings.Join, Builder.String and strconv.Itoa over this program, as the kit's command lays them in plain words.
-/
namespace Go.Proofs
open Go.Shelf
def Tryz.lays156_ren : Go.Shelf.Ren := ⟨fun | 156 => 90 | 165 => 105 | 166 => 106 | 169 => 107 | 240 => 111 | 241 => 112 | 276 => 114 | 277 => 115 | n => n, fun | 31 => 145 | 9 => 9 | 3 => 3 | 4 => 4 | 0 => 0 | 20 => 20 | 72 => 165 | 76 => 169 | 70 => 162 | 37 => 163 | 75 => 168 | 127 => 174 | 164 => 176 | 5 => 5 | 80 => 171 | n => n, fun | n => n⟩
theorem Tryz.lays156 : Go.Proofs.Lays.n156 Tryz.prog Tryz.lays156_ren := {
  mixed := by kernel_rfl
  f156 := Tryz.func90.trans (congrArg some (by kernel_rfl))
  f165 := Tryz.func105.trans (congrArg some (by kernel_rfl))
  f166 := Tryz.func106.trans (congrArg some (by kernel_rfl))
  f169 := Tryz.func107.trans (congrArg some (by kernel_rfl))
  f240 := Tryz.func111.trans (congrArg some (by kernel_rfl))
  f241 := Tryz.func112.trans (congrArg some (by kernel_rfl))
  f276 := Tryz.func114.trans (congrArg some (by kernel_rfl))
  f277 := Tryz.func115.trans (congrArg some (by kernel_rfl))
  t0 := Tryz.underlying0
  a0 := Tryz.isAgg0
  z0 := Tryz.sizeOf0
  v0 := Tryz.zeroValue0
  t3 := Tryz.underlying3
  a3 := Tryz.isAgg3
  z3 := Tryz.sizeOf3
  v3 := Tryz.zeroValue3
  t4 := Tryz.underlying4
  a4 := Tryz.isAgg4
  z4 := Tryz.sizeOf4
  v4 := Tryz.zeroValue4
  t9 := Tryz.underlying9
  a9 := Tryz.isAgg9
  z9 := Tryz.sizeOf9
  v9 := Tryz.zeroValue9
  t20 := Tryz.underlying20
  a20 := Tryz.isAgg20
  z20 := Tryz.sizeOf20
  v20 := Tryz.zeroValue20
  t31 := Tryz.underlying145
  a31 := Tryz.isAgg145
  z31 := Tryz.sizeOf145
  v31 := Tryz.zeroValue145
  t37 := Tryz.underlying163
  a37 := Tryz.isAgg163
  z37 := Tryz.sizeOf163
  v37 := Tryz.zeroValue163
  t70 := Tryz.underlying162
  a70 := Tryz.isAgg162
  z70 := Tryz.sizeOf162
  v70 := Tryz.zeroValue162
  t72 := Tryz.underlying165
  a72 := Tryz.isAgg165
  z72 := Tryz.sizeOf165
  v72 := Tryz.zeroValue165
  t75 := Tryz.underlying168
  a75 := Tryz.isAgg168
  z75 := Tryz.sizeOf168
  v75 := Tryz.zeroValue168
  t76 := Tryz.underlying169
  a76 := Tryz.isAgg169
  z76 := Tryz.sizeOf169
  v76 := Tryz.zeroValue169
  t127 := Tryz.underlying174
  a127 := Tryz.isAgg174
  z127 := Tryz.sizeOf174
  v127 := Tryz.zeroValue174
  t164 := Tryz.underlying176
  a164 := Tryz.isAgg176
  z164 := Tryz.sizeOf176
  v164 := Tryz.zeroValue176 }
theorem Tryz.Builder_Extra_156 : Builder.Extra Tryz.prog Tryz.lays156_ren := {
  sizeBuilder := by kernel_rfl
  liesBuilder := by kernel_rfl
  t5 := Tryz.underlying5
  a5 := Tryz.isAgg5
  z5 := Tryz.sizeOf5
  v5 := Tryz.zeroValue5
  infoByte := by kernel_rfl
  cellsByte := by kernel_rfl
  sizeByte := by kernel_rfl
  neB5 := by decide }
open Go.RowKit in
theorem Tryz.strings_Join (bk o c : Nat) (xs : List ByteArray) (sep : ByteArray) (w : World) (hcells : ∀ (j : Nat) x, xs[j]? = some x → w.cell? ⟨bk, o + j, none⟩ = some (.string x)) (hbk : bk < w.heap.size) (hN : xs.length ≤ 140737488355328) (hcap : xs.length ≤ c) (hlen : (Lib.join (xs.map (·.data.toList)) sep.data.toList).length ≤ 140737488355328) :
    Calls Tryz.prog 90 #[.slice (some ⟨bk, o, none⟩) xs.length c, .string sep] w fun e w' => e = .returned (.string ⟨(Lib.join (xs.map (·.data.toList)) sep.data.toList).toArray⟩) ∧ Below w.heap.size w w' := Any.strings_Join Tryz.lays156 Tryz.Builder_Extra_156 bk o c xs sep w hcells hbk hN hcap hlen
def Tryz.laysM171_ren : Go.Shelf.Ren := ⟨fun | 171 => 104 | 243 => 110 | 246 => 113 | 283 => 116 | 284 => 117 | 285 => 118 | 286 => 119 | 129 => 121 | 317 => 120 | 318 => 122 | 319 => 123 | 320 => 124 | 337 => 125 | 338 => 126 | n => n, fun | 3 => 3 | 9 => 9 | 2 => 2 | 4 => 4 | 171 => 179 | 0 => 0 | 53 => 180 | 37 => 163 | 5 => 5 | 173 => 183 | 212 => 186 | 51 => 187 | 20 => 20 | 213 => 188 | 46 => 172 | 232 => 191 | 233 => 192 | n => n, fun | 17 => 2 | 18 => 3 | 19 => 4 | n => n⟩
theorem Tryz.laysM171 : Go.Proofs.LaysM.n171 Tryz.prog Tryz.laysM171_ren := {
  mixed := by kernel_rfl
  f129 := Tryz.func121.trans (congrArg some (by kernel_rfl))
  f171 := Tryz.func104.trans (congrArg some (by kernel_rfl))
  f243 := Tryz.func110.trans (congrArg some (by kernel_rfl))
  f246 := Tryz.func113.trans (congrArg some (by kernel_rfl))
  f283 := Tryz.func116.trans (congrArg some (by kernel_rfl))
  f284 := Tryz.func117.trans (congrArg some (by kernel_rfl))
  f285 := Tryz.func118.trans (congrArg some (by kernel_rfl))
  f286 := Tryz.func119.trans (congrArg some (by kernel_rfl))
  f317 := Tryz.func120.trans (congrArg some (by kernel_rfl))
  f318 := Tryz.func122.trans (congrArg some (by kernel_rfl))
  f319 := Tryz.func123.trans (congrArg some (by kernel_rfl))
  f320 := Tryz.func124.trans (congrArg some (by kernel_rfl))
  f337 := Tryz.func125.trans (congrArg some (by kernel_rfl))
  f338 := Tryz.func126.trans (congrArg some (by kernel_rfl))
  t0 := Tryz.underlying0
  a0 := Tryz.isAgg0
  z0 := Tryz.sizeOf0
  v0 := Tryz.zeroValue0
  t2 := Tryz.underlying2
  a2 := Tryz.isAgg2
  z2 := Tryz.sizeOf2
  v2 := Tryz.zeroValue2
  t3 := Tryz.underlying3
  a3 := Tryz.isAgg3
  z3 := Tryz.sizeOf3
  v3 := Tryz.zeroValue3
  t4 := Tryz.underlying4
  a4 := Tryz.isAgg4
  z4 := Tryz.sizeOf4
  v4 := Tryz.zeroValue4
  t5 := Tryz.underlying5
  a5 := Tryz.isAgg5
  z5 := Tryz.sizeOf5
  v5 := Tryz.zeroValue5
  t9 := Tryz.underlying9
  a9 := Tryz.isAgg9
  z9 := Tryz.sizeOf9
  v9 := Tryz.zeroValue9
  t20 := Tryz.underlying20
  a20 := Tryz.isAgg20
  z20 := Tryz.sizeOf20
  v20 := Tryz.zeroValue20
  t37 := Tryz.underlying163
  a37 := Tryz.isAgg163
  z37 := Tryz.sizeOf163
  v37 := Tryz.zeroValue163
  t46 := Tryz.underlying172
  a46 := Tryz.isAgg172
  z46 := Tryz.sizeOf172
  v46 := Tryz.zeroValue172
  t51 := Tryz.underlying187
  a51 := Tryz.isAgg187
  z51 := Tryz.sizeOf187
  v51 := Tryz.zeroValue187
  t53 := Tryz.underlying180
  a53 := Tryz.isAgg180
  z53 := Tryz.sizeOf180
  v53 := Tryz.zeroValue180
  t171 := Tryz.underlying179
  a171 := Tryz.isAgg179
  z171 := Tryz.sizeOf179
  v171 := Tryz.zeroValue179
  t173 := Tryz.underlying183
  a173 := Tryz.isAgg183
  z173 := Tryz.sizeOf183
  v173 := Tryz.zeroValue183
  t212 := Tryz.underlying186
  a212 := Tryz.isAgg186
  z212 := Tryz.sizeOf186
  v212 := Tryz.zeroValue186
  t213 := Tryz.underlying188
  a213 := Tryz.isAgg188
  z213 := Tryz.sizeOf188
  t232 := Tryz.underlying191
  a232 := Tryz.isAgg191
  z232 := Tryz.sizeOf191
  v232 := Tryz.zeroValue191
  t233 := Tryz.underlying192
  a233 := Tryz.isAgg192
  z233 := Tryz.sizeOf192
  v233 := Tryz.zeroValue192
  g17 := by kernel_rfl
  g18 := by kernel_rfl
  g19 := by kernel_rfl
  i0 := by kernel_rfl
  i2 := by kernel_rfl
  i3 := by kernel_rfl
  i4 := by kernel_rfl
  i5 := by kernel_rfl
  i9 := by kernel_rfl
  i20 := by kernel_rfl
  i37 := by kernel_rfl
  i46 := by kernel_rfl
  i51 := by kernel_rfl
  i53 := by kernel_rfl
  i171 := by kernel_rfl
  i173 := by kernel_rfl
  i212 := by kernel_rfl
  i232 := by kernel_rfl
  i233 := by kernel_rfl
  m17 := by kernel_rfl
  m18 := by kernel_rfl
  m19 := by kernel_rfl }
open Go.RowKit Go.Sort Go.Lib in
theorem Tryz.strconv_Itoa (n : Int) (h0 : -9223372036854775808 ≤ n) (h1 : n ≤ 9223372036854775807) (w : World) (htab : Lib.TabIs Tryz.prog w "internal/strconv.uint64pow10" .u64 Lib.pow10Tab) :
    Calls Tryz.prog 104 #[.int .i64 n] w fun e w' => e = .returned (.string ⟨(Lib.itoa n).toArray⟩) ∧ ∃ k os, w' = grow (w.drewN k) os := Any.strconv_Itoa Tryz.laysM171 n h0 h1 w htab
end Go.Proofs

/-
  Contracts of strings.Builder.WriteString and strconv.Itoa over this program, off the shelf's.
-/
namespace Go.Proofs.YtpflbkgmgfhhnaaGreatDoor
open Go.RowKit Go.Shelf
set_option linter.unusedVariables false

/-- The library's table of the powers of ten. -/
def TabAt (w : World) : Prop := Lib.TabIs Tryz.prog w "internal/strconv.uint64pow10" .u64 Lib.pow10Tab
theorem TabAt.on {w w' : World} (h : TabAt w) (hb : Below w.heap.size w w') : TabAt w' := Lib.tabBelow_of_tabIs h w' hb
theorem itoa_any (n : Int) (h0 : -9223372036854775808 ≤ n) (h1 : n ≤ 9223372036854775807) (w : World) (ht : TabAt w) :
    Calls Tryz.prog 104 #[.int .i64 n] w fun e w' => e = .returned (.string ⟨(Lib.itoa n).toArray⟩) ∧ Below w.heap.size w w' :=
  (Tryz.strconv_Itoa n h0 h1 w ht).mono fun e w' ⟨he, k, os, hw⟩ => ⟨he, by subst hw; exact Lib.below_grow _ _ (Nat.le_refl _) k os⟩
end Go.Proofs.YtpflbkgmgfhhnaaGreatDoor

/-
  Contract of common.Line: the word, then a space and the decimal numeral of each integer, then a line feed. Conditions: at most 4096 integers that lie in memory, a word of at most 64 bytes.
-/
namespace Go.Proofs.YtpflbkgmgfhhnaaGreatDoor
open Go.RowKit Go.Shelf
set_option linter.unusedVariables false
set_option linter.unusedSimpArgs false

theorem Tryz.infoStr : (Tryz.prog.info? 9).map (fun i => (i.zero, i.size, i.bytes)) = some (some (.string ⟨#[]⟩), 1, 16) := by kernel_rfl
def strV (l : List UInt8) : Value := .string ⟨l.toArray⟩
theorem owns_single (w : World) (v : Value) (T : TypeId) : (w.alloc (.cells #[v] T)).ownsRow w.heap.size T 1 (.slice (some ⟨w.heap.size, 0, none⟩) 1 1) 1 [v] :=
  ⟨rfl, .inr ⟨w.heap.size, 1, #[v], rfl, Nat.le_refl _, heap_alloc_new w _, by decide, by unfold maxLen; omega, rfl, rfl⟩⟩

theorem owns_capW {w : World} {B T n c g : Nat} {xs : List Value} (h : w.ownsRow B T 1 (.slice (some ⟨g, 0, none⟩) n c) n xs) : n ≤ c ∧ c ≤ maxLen := by
  rcases h.2 with ⟨h, _⟩ | ⟨g', cap, cur, h1, h2, h3, h4, h5, _⟩
  · cases h
  · simp at h1
    obtain ⟨rfl, rfl⟩ := h1
    exact ⟨h4, h5⟩

set_option maxHeartbeats 2000000 in
set_option maxRecDepth 100000 in
theorem mapped_str {w : World} (b o n c : Nat) (ks : List Int) (hk : ks.length = n) (hn : n ≤ 4096) (hb : b < w.heap.size) (ht : TabAt w)
    (hc : ∀ j, j < n → w.cell? ⟨b, o + j, none⟩ = some (.int .i64 (ks[j]?.getD 0))) (hs : ∀ j, j < n → (ks[j]?.getD 0).natAbs < 2 ^ 40) :
    Calls Tryz.prog 103 #[.slice (some ⟨b, o, none⟩) n c, .func (.func 104) #[] #[]] w fun e w' =>
      e = .returned (.slice (some ⟨w.heap.size, 0, none⟩) n n) ∧ w'.ownsRow w.heap.size 9 1 (.slice (some ⟨w.heap.size, 0, none⟩) n n) n (ks.map (fun k => strV (Lib.itoa k))) ∧ Below w.heap.size w w' := by
  obtain ⟨i0, hi, hz0, hz1, hz2⟩ := info_parts Tryz.infoStr
  have Hk := Lib.hid hk
  have Hc := Lib.hid hc
  have Hs := Lib.hid hs
  have HT := Lib.hid ht
  clear hk hc hs ht
  go_enter Tryz.func103, Tryz.ntmps103
  go_wp2_with (at_make; refine wpList_make_own _ rfl _ _ 145 rfl w.heap.size 9 i0 (.string ⟨#[]⟩) 1 Tryz.underlying145 hi hz0 hz1 _ _ _ n rfl rfl (by omega) ?b2 ?b3 (Nat.le_refl _) ?_)
  case b2 => rw [hz2]; omega
  case b3 => unfold maxLen; omega
  intro w0 hown0 hgrow0
  go_wp2
  go_loopw [5, 13] (fun out i wr => ∃ k : Nat, k ≤ n ∧ i = .int .i64 k ∧ out = .slice (some ⟨w.heap.size, 0, none⟩) k n ∧
      wr.ownsRow w.heap.size 9 1 (.slice (some ⟨w.heap.size, 0, none⟩) k n) k ((ks.take k).map (fun k => strV (Lib.itoa k))) ∧ Below w.heap.size w wr)
    (fun _ i _ => n - (intOf i).toNat)
  case atStart => exact ⟨0, Nat.zero_le _, rfl, rfl, hown0, (Below.refl _ _).grown hgrow0 (Nat.le_refl _) (fun k h => by cases h)⟩
  case round =>
    obtain ⟨k, hk, rfl, rfl, hown, hnx⟩ := hrel
    by_cases hlt : k < n
    · have hcell : wr.cell? ⟨b, o + k, none⟩ = some (.int .i64 (ks[k]?.getD 0)) := (hnx.cell (by exact hb)).trans (Hc.out k hlt)
      obtain ⟨kk, hkk⟩ : ∃ kk : Int, ks[k]?.getD 0 = kk := ⟨_, rfl⟩
      have hks := Hs.out k hlt
      rw [hkk] at hcell hks
      have HKK := Lib.hid hkk
      have K := Lib.hid (itoa_any kk (by omega) (by omega) wr (HT.out.on hnx))
      have hsz := hnx.size
      have HOW := Lib.hid hown
      clear hown hkk hks
      go_wp2_with (first
        | (go_at_call 104; refine K.out.mono ?_; rintro e w1 ⟨rfl, hb1⟩
           have hown1 := owns_kept HOW.out hb1 (Nat.le_refl _)
           have hs1 := hb1.size)
        | (at_builtin; refine wpList_append_fits _ rfl (.tmp 17) (.tmp 21) 145 rfl w.heap.size 9 i0 1 Tryz.underlying145 hi hz1 w.heap.size k n _ rfl (hown1.alloc _) ⟨w1.heap.size, 0, none⟩ 1 1 [strV (Lib.itoa kk)] rfl rfl (cell_one_new _ _ _) (by intro u hu; simp at hu; subst hu; rfl) (by omega) ?_; intro w2 hown2 hgrow2))
      go_roundw
      case rel => exact ⟨k + 1, by omega, by go_num, rfl, by rw [take_map_succ (fun k => strV (Lib.itoa k)) ks k (by have := Hk.out; omega) 0, HKK.out]; exact hown2, ((hnx.trans (hb1.mono hsz)).alloc (by omega) _).grown hgrow2 (by simp; omega) (fun j hj => by cases hj; exact Nat.le_refl _)⟩
      case measure => simp [intOf]; omega
    · go_wp2
      go_ret
      obtain rfl : k = n := by omega
      rw [List.take_of_length_le (by have := Hk.out; omega)] at hown
      exact ⟨rfl, hown, hnx⟩

/-- A line of a text. -/
def lineL (wd : List UInt8) (ks : List Int) : List UInt8 := Lib.join (wd :: ks.map Lib.itoa) [32] ++ [10]
theorem joinTail_len (ls : List (List UInt8)) (h : ∀ l ∈ ls, l.length ≤ 21) : (Lib.joinTail [32] ls).length ≤ 22 * ls.length := by
  induction ls with
  | nil => simp [Lib.joinTail]
  | cons l ls ih =>
    have h1 := h l List.mem_cons_self
    have h2 := ih fun l' h' => h l' (List.mem_cons_of_mem _ h')
    simp only [Lib.joinTail, List.map_cons, List.flatten_cons, List.length_append, List.length_cons, List.length_nil] at h2 ⊢
    omega
theorem join_len (wd : List UInt8) (ks : List Int) (h : ∀ k ∈ ks, k.natAbs < 2 ^ 40) : (Lib.join (wd :: ks.map Lib.itoa) [32]).length ≤ wd.length + 22 * ks.length := by
  rw [Lib.join_cons, List.length_append]
  have := joinTail_len (ks.map Lib.itoa) (fun l hl => by obtain ⟨k, hk, rfl⟩ := List.mem_map.1 hl; have := h k hk; exact Lib.itoa_length_le k (by omega) (by omega))
  rw [List.length_map] at this
  omega

set_option maxHeartbeats 2000000 in
set_option maxRecDepth 100000 in
theorem line_any {w : World} (wd : List UInt8) (b o n c : Nat) (ks : List Int) (hwd : wd.length ≤ 64) (hk : ks.length = n) (hn : n ≤ 4096) (hb : b < w.heap.size) (ht : TabAt w)
    (hc : ∀ j, j < n → w.cell? ⟨b, o + j, none⟩ = some (.int .i64 (ks[j]?.getD 0))) (hs : ∀ j, j < n → (ks[j]?.getD 0).natAbs < 2 ^ 40) :
    Calls Tryz.prog 89 #[strV wd, .slice (some ⟨b, o, none⟩) n c] w fun e w' => e = .returned (strV (lineL wd ks)) ∧ Below w.heap.size w w' := by
  obtain ⟨i0, hi, hz0, hz1, hz2⟩ := info_parts Tryz.infoStr
  have hmem : ∀ k ∈ ks, k.natAbs < 2 ^ 40 := fun k hk' => by
    obtain ⟨j, hj, rfl⟩ := List.getElem_of_mem hk'
    have := hs j (by omega)
    rw [List.getElem?_eq_getElem hj] at this
    exact this
  have hjl := join_len wd ks hmem
  obtain ⟨W1, hW1⟩ : ∃ W1, w.alloc (.cells #[strV wd] 9) = W1 := ⟨_, rfl⟩
  have hB1 : Below w.heap.size w W1 := by rw [← hW1]; exact (Below.refl _ w).alloc (Nat.le_refl _) _
  have hS1 : W1.heap.size = w.heap.size + 1 := by rw [← hW1]; simp
  have hO1 : W1.ownsRow w.heap.size 9 1 (.slice (some ⟨w.heap.size, 0, none⟩) 1 1) 1 [strV wd] := by rw [← hW1]; exact owns_single w _ _
  have K := Lib.hid (mapped_str b o n c ks hk hn (by omega) (ht.on hB1) (fun j hj => (hB1.cell (p := ⟨b, o + j, none⟩) hb).trans (hc j hj)) hs : Calls _ _ _ W1 _)
  have Hk := Lib.hid hk
  have HB1 := Lib.hid hB1
  have HS1 := Lib.hid hS1
  have HO1 := Lib.hid hO1
  have HJL := Lib.hid hjl
  clear hk hc hs ht hB1 hS1 hO1 hjl hmem
  go_enter Tryz.func89, Tryz.ntmps89
  unfold strV at *
  obtain ⟨xs, hxs⟩ : ∃ xs : List ByteArray, xs = (wd :: ks.map Lib.itoa).map (fun l => ⟨l.toArray⟩) := ⟨_, rfl⟩
  have hxl : xs.length = 1 + n := by rw [hxs]; simp [Hk.out]; omega
  have hxm : xs.map (fun x : ByteArray => x.data.toList) = wd :: ks.map Lib.itoa := by rw [hxs, List.map_map]; exact List.map_id' _
  have hxv : [Value.string ⟨wd.toArray⟩] ++ ks.map (fun k => Value.string ⟨(Lib.itoa k).toArray⟩) = xs.map Value.string := by rw [hxs]; simp [List.map_map]
  have HXL := Lib.hid hxl
  have HXM := Lib.hid hxm
  have HXV := Lib.hid hxv
  clear hxs hxl hxm hxv
  go_wp2_with (first
    | (go_at_call 103; refine K.out.mono ?_; rintro e w2 ⟨rfl, hown2, hb2⟩
       have hown6 := owns_kept HO1.out hb2 (Nat.le_refl _)
       have hs2 := hb2.size)
    | (at_builtin; refine wpList_append_own _ rfl (.tmp 6) (.tmp 8) 145 rfl w.heap.size 9 i0 (.string ⟨#[]⟩) 1 16 Tryz.underlying145 hi hz0 hz1 hz2 rfl (by decide) _ 1 _ rfl hown6 ⟨W1.heap.size, 0, none⟩ n n (ks.map (fun k => .string ⟨(Lib.itoa k).toArray⟩)) rfl (by simp [Hk.out]) (fun j u hu => by
          have := hown2.cells (g := W1.heap.size) rfl j u hu
          simpa [Addr.add] using this) (by intro u hu; obtain ⟨k, _, rfl⟩ := List.mem_map.1 hu; rfl) (by unfold maxLen; omega) (by omega) (by have := HS1.out; omega) ?_; intro v' w3 hown3 hgrow3 _
       rw [HXV.out] at hown3
       obtain ⟨gv, cv, rfl, hgv, hgB⟩ := owns_some hown3 (by omega)
       have hcv := owns_capW hown3
       have KJ := Tryz.strings_Join gv 0 cv xs ⟨#[32]⟩ w3 (fun j x hx => by rw [Nat.zero_add]; exact owns_cell hown3 (by rw [List.getElem?_map, hx]; rfl)) hgv (by rw [HXL.out]; omega) (by rw [HXL.out]; omega) (by rw [HXM.out]; have := HJL.out; have := Hk.out; simp only [List.toList_toArray] at *; omega)
       rw [HXL.out, HXM.out] at KJ
       have KJH := Lib.hid KJ
       clear KJ)
    | (go_at_call 90; refine KJH.out.mono ?_; rintro e w4 ⟨rfl, hb4⟩))
  · exfalso
    rename_i h
    have := HJL.out
    have := Hk.out
    omega
  refine bodyPost_ret (results_tmp Tryz.results89 _ _ _) rfl ?_
  refine ⟨?_, ((HB1.out.trans (hb2.mono (by have := HS1.out; omega))).grown hgrow3 (by have := HS1.out; omega) (fun j hj => by cases hj; exact Nat.le_refl _)).trans (hb4.mono (by have := hgrow3.1; have := HS1.out; omega))⟩
  have : (⟨(Lib.join (wd :: ks.map Lib.itoa) [32]).toArray⟩ : ByteArray) ++ ⟨#[10]⟩ = ⟨(lineL wd ks).toArray⟩ := by
    apply ByteArray.ext
    simp [lineL, ByteArray.data_append]
  rw [this]
  rfl
end Go.Proofs.YtpflbkgmgfhhnaaGreatDoor

/-
  Contracts of frameOf for telegrams whose numbers fit into their bytes, and of telegramOf for any bytes.
-/
namespace Go.Proofs.YtpflbkgmgfhhnaaGreatDoor
open Go.RowKit
set_option linter.unusedVariables false
set_option linter.unusedSimpArgs false

def tail7 (s c o x y z : Int) : List Int := [255 - s, 255 - byt c 1, 255 - byt c 0, byt (chkOf (frame20 s c o x y z)) 3, byt (chkOf (frame20 s c o x y z)) 2, byt (chkOf (frame20 s c o x y z)) 1, byt (chkOf (frame20 s c o x y z)) 0]
end Go.Proofs.YtpflbkgmgfhhnaaGreatDoor

/-
  Contracts of Decode for any 24 bytes, and of telegramAt at any place of any stream.
-/
namespace Go.Proofs.YtpflbkgmgfhhnaaGreatDoor
open Go.RowKit
set_option linter.unusedVariables false
set_option linter.unusedSimpArgs false

def Tel.tail (t : Tel) : List Int := tail7 t.s t.c t.o t.x t.y t.z
def Tel.agg (t : Tel) : Value := .agg #[.int .i64 t.s, .int .i64 t.c, .int .i64 t.o, .int .i64 t.x, .int .i64 t.y, .int .i64 t.z]
end Go.Proofs.YtpflbkgmgfhhnaaGreatDoor

/-
  Plain mathematics of spreading: neighbours, what each place gives; no program.
-/
namespace Go.Proofs.YtpflbkgmgfhhnaaGreatDoor
open Go.RowKit

def addAt (cs : List Int) (j : Nat) (d : Int) : List Int := cs.set j (cs[j]?.getD 0 + d)
/-- No integer of a list is greater than a bound. -/
def Within (cs : List Int) (M : Nat) : Prop := ∀ j : Nat, ((cs[j]?.getD 0 : Int)).natAbs ≤ M
theorem Within.add {cs : List Int} {M G : Nat} (h : Within cs M) (j : Nat) (d : Int) (hd : d.natAbs ≤ G) : Within (addAt cs j d) (M + G) := fun i => by
  unfold addAt
  rw [List.getElem?_set]
  split
  · split
    · rename_i h1 h2; have := h j; simp only [Option.getD_some]; omega
    · simp
  · exact Nat.le_trans (h i) (by omega)
theorem Within.mono {cs : List Int} {M N : Nat} (h : Within cs M) (hn : M ≤ N) : Within cs N := fun j => Nat.le_trans (h j) hn
end Go.Proofs.YtpflbkgmgfhhnaaGreatDoor

/-
  Contracts of has, neighbours and slices.Clone at integers.
-/
namespace Go.Proofs.YtpflbkgmgfhhnaaGreatDoor
open Go.RowKit
set_option linter.unusedVariables false

/-- A place's cells. -/
def qval (q : Int × Int) : List Value := [.int .i64 q.1, .int .i64 q.2]
end Go.Proofs.YtpflbkgmgfhhnaaGreatDoor

/-
  Contract of missing for any counters: the counters between each one and the next, at most 257.
-/
namespace Go.Proofs.YtpflbkgmgfhhnaaGreatDoor
open Go.RowKit
set_option linter.unusedVariables false
set_option linter.unusedSimpArgs false

/-- How many counters lie between two. -/
def wide (a b : Int) : Nat := ((b - a - 1) % 65536).toNat
end Go.Proofs.YtpflbkgmgfhhnaaGreatDoor

/-
  Draw with an error; lists of integers in memory; listed() of the law's package.
-/
namespace Go.Proofs.YtpflbkgmgfhhnaaGreatDoor
open Go.RowKit
set_option linter.unusedVariables false
set_option linter.unusedSimpArgs false

/-- A slice, nil or not, of the integers. -/
def IntsV (w : World) (v : Value) (n : Nat) (zs : List Int) : Prop :=
  ∃ a c, v = .slice a n c ∧ ∀ j, j < n → ∃ b o, a = some ⟨b, o, none⟩ ∧ b < w.heap.size ∧ w.cell? ⟨b, o + j, none⟩ = some (.int .i64 (zs[j]?.getD 0))
theorem IntsV.kept {w w' : World} {v : Value} {n : Nat} {zs : List Int} (h : IntsV w v n zs) (hb : Below w.heap.size w w') : IntsV w' v n zs := by
  obtain ⟨a, c, rfl, hc⟩ := h
  refine ⟨a, c, rfl, fun j hj => ?_⟩
  obtain ⟨b, o, rfl, h1, h2⟩ := hc j hj
  exact ⟨b, o, rfl, Nat.lt_of_lt_of_le h1 hb.size, (hb.cell (p := ⟨b, o + j, none⟩) h1).trans h2⟩
theorem IntsV.nil (w : World) (zs : List Int) : IntsV w (.slice none 0 0) 0 zs := ⟨none, 0, rfl, fun j hj => absurd hj (by omega)⟩
theorem IntsV.of_row {w : World} {B : Nat} {v : Value} {n : Nat} {zs : List Int} (h : w.ownsRow B 3 1 v n (zs.map (Value.int .i64))) : IntsV w v n zs := by
  have hl : zs.length = n := by have := h.1; simpa using this
  rcases h.2 with ⟨rfl, rfl⟩ | ⟨g, cap, cur, rfl, hb, hg, _⟩
  · exact IntsV.nil w zs
  · refine ⟨_, _, rfl, fun j hj => ⟨g, 0, rfl, lt_of_blk hg, ?_⟩⟩
    rw [Nat.zero_add]
    exact owns_cell h (by rw [List.getElem?_map, List.getElem?_eq_getElem (by omega)]; rfl)

end Go.Proofs.YtpflbkgmgfhhnaaGreatDoor

/-
  Contract of Lost for any telegrams and any station.
-/
namespace Go.Proofs.YtpflbkgmgfhhnaaGreatDoor
open Go.RowKit
set_option linter.unusedVariables false
set_option linter.unusedSimpArgs false

theorem nil_slice {w : World} {B T sz : Nat} {v : Value} {xs : List Value} (h : w.ownsRow B T sz v 0 xs) : ∃ a c, v = .slice a 0 c := by
  rcases h.2 with ⟨rfl, _⟩ | ⟨g, cap, cur, rfl, _⟩
  · exact ⟨_, _, rfl⟩
  · exact ⟨_, _, rfl⟩

end Go.Proofs.YtpflbkgmgfhhnaaGreatDoor

/-
  Contract of Extended over a row of spans that the call owns.
-/
namespace Go.Proofs.YtpflbkgmgfhhnaaGreatDoor
open Go.RowKit
set_option linter.unusedVariables false
set_option linter.unusedSimpArgs false

/-- Spans behind an index more. -/
def extL (l : List (Int × Int)) (at' : Int) : List (Int × Int) :=
  if l.length ≠ 0 ∧ (l[l.length - 1]?.getD (0, 0)).2 = at' then l.set (l.length - 1) ((l[l.length - 1]?.getD (0, 0)).1, at' + 1) else l ++ [(at', at' + 1)]
theorem extL_len (l : List (Int × Int)) (a : Int) : (extL l a).length ≤ l.length + 1 := by
  unfold extL; split <;> simp
theorem flat_at2 : ∀ (l : List (Int × Int)) (k : Nat), k < l.length → (l.flatMap qval)[k * 2]? = some (.int .i64 (l[k]?.getD (0, 0)).1) ∧ (l.flatMap qval)[k * 2 + 1]? = some (.int .i64 (l[k]?.getD (0, 0)).2)
  | [], _, h => by simp at h
  | q :: l, 0, _ => by simp [qval]
  | q :: l, k + 1, h => by
    have ih := flat_at2 l k (by simpa using h)
    have e1 : (k + 1) * 2 = k * 2 + 1 + 1 := by omega
    rw [e1]
    simp only [List.flatMap_cons, qval, List.cons_append, List.nil_append, List.getElem?_cons_succ]
    exact ih
theorem flat_set2 : ∀ (l : List (Int × Int)) (k : Nat) (b : Int), k < l.length → (l.flatMap qval).set (k * 2 + 1) (.int .i64 b) = (l.set k ((l[k]?.getD (0, 0)).1, b)).flatMap qval
  | [], _, _, h => by simp at h
  | q :: l, 0, b, _ => by simp [qval]
  | q :: l, k + 1, b, h => by
    have ih := flat_set2 l k b (by simpa using h)
    have e1 : (k + 1) * 2 + 1 = (k * 2 + 1) + 1 + 1 := by omega
    rw [e1]
    simp only [List.flatMap_cons, qval, List.cons_append, List.nil_append, List.set_cons_succ, List.getElem?_cons_succ, List.set_cons_succ]
    rw [ih]
theorem grownBy_trans {a b c : World} {row : Option Nat} (h : a.grownBy b row) (k : b.grownBy c row) : a.grownBy c row :=
  ⟨k.os.trans h.os, k.tape.trans h.tape, k.output.trans h.output, Nat.le_trans h.size k.size, fun i hi hne => (k.block i (Nat.lt_of_lt_of_le hi h.size) hne).trans (h.block i hi hne)⟩
theorem Tryz.infoSpan : (Tryz.prog.info? 106).map (fun i => (i.zero, i.size, i.bytes)) = some (some (.agg #[.int .i64 0, .int .i64 0]), 2, 16) := by kernel_rfl
theorem cells_newQ (w : World) (T : TypeId) (a b : Value) : ∀ j u, [a, b][j]? = some u → (w.alloc (.cells #[a, b] T)).cell? ((⟨w.heap.size, 0, none⟩ : Addr).add j) = some u := fun j u h => by
  rw [Addr.add_mid, cell_of_row _ w.heap.size (0 + j) _ _ (0, 0) (heap_alloc_new w _)]
  simpa using h

set_option maxRecDepth 100000 in
set_option maxHeartbeats 3200000 in
theorem extended_any (l : List (Int × Int)) (a : Nat) (B : Nat) (v : Value) (w : World) (hB : B ≤ w.heap.size) (hm : l.length ≤ 13000) (ha : a ≤ 100000000) (ho : w.ownsRow B 106 2 v l.length (l.flatMap qval)) :
    Calls Tryz.prog 80 #[v, .int .i64 a] w fun e w' => ∃ v', e = .returned v' ∧ w'.ownsRow B 106 2 v' (extL l a).length ((extL l a).flatMap qval) ∧ w.grownBy w' v.ownBlock := by
  obtain ⟨i0, hi, hz0, hz1, hz2⟩ := info_parts Tryz.infoSpan
  by_cases h : l.length ≠ 0 ∧ (l[l.length - 1]?.getD (0, 0)).2 = a
  · have hX : extL l a = l.set (l.length - 1) ((l[l.length - 1]?.getD (0, 0)).1, (a : Int) + 1) := by unfold extL; rw [if_pos h]
    obtain ⟨g, c, rfl, hgl, hgB⟩ := owns_some ho (by omega)
    obtain ⟨m, hm'⟩ : ∃ m, l.length = m + 1 := ⟨l.length - 1, by omega⟩
    have hc1 := (flat_at2 l m (by omega)).2
    have hs := flat_set2 l m ((a : Int) + 1) (by omega)
    have e2 : (l[m]?.getD (0, 0)).2 = a := by have := h.2; rwa [hm', Nat.add_sub_cancel] at this
    rw [e2] at hc1
    have c1 : w.cell? ⟨g, m * 2 + 1, none⟩ = some (.int .i64 a) := by
      have h := ho.cells (g := g) rfl (m * 2 + 1) _ hc1
      rwa [Addr.add_mid, Nat.zero_add] at h
    have f1 := ho.frozenAt (m * 2 + 1)
    have hst := ho.stored (m * 2 + 1) (.int .i64 ((a : Int) + 1))
    rw [hs] at hst
    rw [hX, hm', Nat.add_sub_cancel, List.length_set]
    rw [hm'] at hst ⊢
    have HST := Lib.hid hst
    have HGR : Hid (w.grownBy (w.setCell ⟨g, m * 2 + 1, none⟩ (.int .i64 ((a : Int) + 1))) (some g)) := Lib.hid (OnlyBlk.set w g (m * 2 + 1) _).1
    have k0 : (0 : Int) ≤ (m : Int) := by omega
    have k1 : (m : Int) < (m : Int) + 1 := by omega
    have k2 : ((a : Int) == a) = true := by simp
    have k3 : (m : Int) ≤ 13000 := by omega
    have k4 : (a : Int) ≤ 100000000 := by omega
    clear h hX ho hc1 hs e2 hst hm' hm
    go_enter Tryz.func80, Tryz.ntmps80
    go_wp2
    go_ret
    exact ⟨_, rfl, HST.out.1, HGR.out⟩
  · have hX : extL l a = l ++ [((a : Int), (a : Int) + 1)] := by unfold extL; rw [if_neg h]
    have hF : (extL l a).flatMap qval = l.flatMap qval ++ [.int .i64 (a : Int), .int .i64 ((a : Int) + 1)] := by rw [hX]; simp [qval]
    have hL : (extL l a).length = l.length + 1 := by rw [hX]; simp
    rw [hF, hL]
    have k4 : (a : Int) ≤ 100000000 := by omega
    have hgr : w.grownBy (w.alloc (.cells #[.int .i64 (a : Int), .int .i64 ((a : Int) + 1)] 106)) v.ownBlock := World.grownBy_alloc _ _ _
    have HGR := Lib.hid hgr
    clear hX hF hL hgr
    by_cases h0 : l.length = 0
    · obtain ⟨F, hFl⟩ : ∃ F, l.flatMap qval = F := ⟨_, rfl⟩
      rw [hFl, h0] at ho
      rw [hFl, h0]
      obtain ⟨aa, c, rfl⟩ := nil_slice ho
      clear h h0 hm hFl
      go_enter Tryz.func80, Tryz.ntmps80
      go_wp2_with (at_builtin; refine wpList_append_own _ rfl (.tmp 29) (.tmp 34) 93 rfl B 106 i0 (.agg #[.int .i64 0, .int .i64 0]) 2 16 Tryz.underlying93 hi hz0 hz1 hz2 rfl (by decide) _ 0 _ rfl (ho.alloc _) ⟨w.heap.size, 0, none⟩ 1 1 [.int .i64 (a : Int), .int .i64 ((a : Int) + 1)] rfl rfl (cells_newQ _ _ _ _) (by intro u hu; simp at hu; rcases hu with rfl | rfl <;> rfl) (by unfold maxLen; omega) (by omega) (by simp; omega) ?_; intro v' w1 hown1 hgrow1 _)
      go_ret
      exact ⟨_, rfl, hown1, grownBy_trans HGR.out hgrow1⟩
    · obtain ⟨g, c, rfl, hgl, hgB⟩ := owns_some ho (by omega)
      obtain ⟨m, hm'⟩ : ∃ m, l.length = m + 1 := ⟨l.length - 1, by omega⟩
      have hc1 := (flat_at2 l m (by omega)).2
      obtain ⟨x, hx⟩ : ∃ x, (l[m]?.getD (0, 0)).2 = x := ⟨_, rfl⟩
      have e2 : x ≠ a := fun e => h ⟨h0, by rw [hm', Nat.add_sub_cancel, hx]; exact e⟩
      rw [hx] at hc1
      have c1 : w.cell? ⟨g, m * 2 + 1, none⟩ = some (.int .i64 x) := by
        have h := ho.cells (g := g) rfl (m * 2 + 1) _ hc1
        rwa [Addr.add_mid, Nat.zero_add] at h
      obtain ⟨F, hFl⟩ : ∃ F, l.flatMap qval = F := ⟨_, rfl⟩
      rw [hFl, hm'] at ho
      rw [hFl, hm']
      have k0 : (0 : Int) ≤ (m : Int) := by omega
      have k1 : (m : Int) < (m : Int) + 1 := by omega
      have k2 : (x == (a : Int)) = false := by simp [e2]
      have k3 : (m : Int) ≤ 13000 := by omega
      have k5 : m ≤ 13000 := by omega
      have HO := Lib.hid ho
      clear h h0 hm hFl hm' hc1 hx e2 ho
      go_enter Tryz.func80, Tryz.ntmps80
      go_wp2_with (at_builtin; refine wpList_append_own _ rfl (.tmp 29) (.tmp 34) 93 rfl B 106 i0 (.agg #[.int .i64 0, .int .i64 0]) 2 16 Tryz.underlying93 hi hz0 hz1 hz2 rfl (by decide) _ (m + 1) _ rfl (HO.out.alloc _) ⟨w.heap.size, 0, none⟩ 1 1 [.int .i64 (a : Int), .int .i64 ((a : Int) + 1)] rfl rfl (cells_newQ _ _ _ _) (by intro u hu; simp at hu; rcases hu with rfl | rfl <;> rfl) (by unfold maxLen; omega) (by omega) (by simp; omega) ?_; intro v' w1 hown1 hgrow1 _)
      go_ret
      exact ⟨_, rfl, hown1, grownBy_trans HGR.out hgrow1⟩
end Go.Proofs.YtpflbkgmgfhhnaaGreatDoor
