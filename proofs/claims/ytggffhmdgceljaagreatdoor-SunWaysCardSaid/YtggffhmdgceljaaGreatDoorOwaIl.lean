/-
  A law for a statement whose order Go leaves open: if each operation of its head gives one value in every world of a kind, and leaves a world of this kind, the order does not matter; what follows the head goes on from any world of the kind.
-/
import Derived.Test.YtggffhmdgceljaaGreatDoorRows
import Derived.WalkKit
import Derived.WalkSpells
import Derived.WalkLawsBesides
import Derived.Lib.Hide
import Derived.BigQuiet
import Derived.Deep.QuietTactic
import Derived.Handy
import Derived.Deep.RegionHeld3
import Derived.Deep.RegionWith
import Derived.StillTailTactics
import Derived.RangeFuncNested
import Derived.RangeFuncBound
import Derived.RangeFuncCalls
import Derived.RangeFuncLeaves
import Derived.RangeFuncBox
import Derived.Shelf.Abstract
import Derived.Shelf.RegionOpen
import Derived.OwnWalkIn
import Derived.TacticsInMore
import Derived.LoopNIn
import Derived.LoopIn
import Derived.Maps.AppendAt
import Derived.Test.YtggffhmdgceljaaGreatDoorProg
import Derived.Laws.FloatArith
import Derived.Laws.BitsAllLaws
import Derived.Deep.DeepCutAuto
import Derived.Stop.BytesEq
import Derived.Deep.MidRow
import Derived.Laws.CopyRow
import Derived.WalkMore
import Derived.Deep.DrawnRows
import Derived.Deep.CutBlock
import Derived.Orders
import Derived.LoopTactic
import Derived.Laws.StructEq
import Derived.Deep.RegionLaw
import Derived.RegionTactic
import Derived.StillTail
import Derived.Test.YtggffhmdgceljaaGreatDoorOwaWn
import Derived.Test.YtggffhmdgceljaaGreatDoorOwaXe
import Derived.Test.YtggffhmdgceljaaGreatDoorOwaIk
namespace Go.Proofs.YtggffhmdgceljaaGreatDoor
open Go.RowKit
set_option linter.unusedVariables false
set_option linter.unusedSimpArgs false

section
variable {P : Program} {ops : Array Oper} {S : World → Prop}

/-- In every world that meets S the operation gives v, and leaves a world that meets S. -/
def YieldsW (P : Program) (ops : Array Oper) (S : World → Prop) (o : Oper) (v : Value) (a : Act) : Prop :=
  (Region.wanted o (yielded ops a.tmps) = true ∧ ∀ w, S w → o.wp P a w (fun b w' => b = a.put o.dst v ∧ S w') (fun _ _ _ => False)) ∨
  (Region.wanted o (yielded ops a.tmps) = false ∧ v = undef)

theorem put_same {a b : Act} (h : a.tmps.size = b.tmps.size) {x : Option Tmp} {u v : Value} (e : a.put x u = a.put x v) : b.put x u = b.put x v := by
  cases x with
  | none => rfl
  | some d =>
    have hab : a.tmps.size = b.tmps.size := h
    by_cases hd : d < a.tmps.size
    · have h1 := congrArg (fun c : Act => c.tmps[d]?) e
      simp only [Act.put] at h1
      rw [Array.getElem?_setIfInBounds_self_of_lt hd, Array.getElem?_setIfInBounds_self_of_lt hd] at h1
      rw [Option.some.inj h1]
    · have hb : b.tmps.size ≤ d := by rw [← hab]; exact Nat.le_of_not_lt hd
      simp only [Act.put]
      rw [Array.setIfInBounds_eq_of_size_le hb, Array.setIfInBounds_eq_of_size_le hb]

theorem YieldsW.wpOp {i : Nat} {o : Oper} {v : Value} {a b : Act} (hi : ops[i]? = some o) (hy : YieldsW P ops S o v a) (he : execOp b.eval o = execOp a.eval o)
    (hw : Region.wanted o (yielded ops b.tmps) = Region.wanted o (yielded ops a.tmps)) (hz : a.tmps.size = b.tmps.size)
    {Q : Exit → Act → World → Prop} {w : World} (hS : S w) : wpOp P ops Q i (fun c w' => c = b.put o.dst v ∧ S w') b w := by
  unfold Go.wpOp
  simp only [hi]
  rw [hw]
  rcases hy with ⟨h1, h2⟩ | ⟨h1, rfl⟩
  · simp only [h1, if_true]
    refine .inl ?_
    have h := h2 w hS
    unfold Oper.wp at h ⊢
    rw [he]
    generalize (execOp a.eval o).run P w = r at h ⊢
    cases r with
    | ok n w' =>
      cases n <;> simp only [Oper.upon] at h ⊢
      case value u => exact ⟨put_same hz h.1, h.2⟩
      case skip => exact ⟨put_same hz h.1, h.2⟩
      case enter f args =>
        refine h.mono fun e w'' h' => ?_
        cases e with
        | returned u => exact ⟨put_same hz h'.1, h'.2⟩
        | panicked c => exact h'.elim
        | outgrown => obtain ⟨_, _, hf⟩ := h'; exact hf.elim
      case defer d =>
        exfalso
        have hd : ({ a with defers := d :: a.defers } : Act).defers = a.defers := by
          have := congrArg Act.defers h.1
          cases ho : o.dst with
          | none => rw [ho] at this; exact this
          | some x => rw [ho] at this; exact this
        have := congrArg List.length hd
        simp at this
      case row r args => exact h.mono fun u w'' h' => ⟨put_same hz h'.1, h'.2⟩
    | halt x w' => cases x <;> simp only [Oper.upon] at h
  · simp only [h1, Bool.false_eq_true, if_false]
    first | exact ⟨rfl, hS⟩ | exact ⟨trivial, hS⟩

/-- The values of some operations in their slots, one after the other. -/
def putJs (ops : Array Oper) (val : Nat → Value) (js : List Nat) (a : Act) : Act := js.foldl (fun a j => a.put ((ops[j]?).bind (·.dst)) (val j)) a
theorem putJs_nil (ops : Array Oper) (val : Nat → Value) (a : Act) : putJs ops val [] a = a := rfl
theorem putJs_cons (ops : Array Oper) (val : Nat → Value) (j : Nat) (js : List Nat) (a : Act) : putJs ops val (j :: js) a = putJs ops val js (a.put ((ops[j]?).bind (·.dst)) (val j)) := rfl
theorem putJs_append (ops : Array Oper) (val : Nat → Value) (js ks : List Nat) (a : Act) : putJs ops val (js ++ ks) a = putJs ops val ks (putJs ops val js a) := List.foldl_append ..
theorem putJs_size (ops : Array Oper) (val : Nat → Value) : ∀ (js : List Nat) (a : Act), (putJs ops val js a).tmps.size = a.tmps.size
  | [], _ => rfl
  | j :: js, a => by
    rw [putJs_cons, putJs_size ops val js]
    cases (ops[j]?).bind (·.dst) <;> simp [Act.put]

/-- The slots of two operations differ. -/
def dstB (ops : Array Oper) (i j : Nat) : Bool := match (ops[i]?).bind (·.dst), (ops[j]?).bind (·.dst) with
  | some d, some e => d != e
  | _, _ => true
theorem dstB_spec {i j : Nat} (h : dstB ops i j = true) : ∀ d, (ops[i]?).bind (·.dst) = some d → (ops[j]?).bind (·.dst) ≠ some d := by
  intro d hd he
  unfold dstB at h
  rw [hd, he] at h
  simp at h
theorem putJs_perm {val : Nat → Value} {js ks : List Nat} (hp : js.Perm ks) : ∀ (a : Act), (∀ i ∈ js, ∀ j ∈ js, i ≠ j → dstB ops i j = true) → putJs ops val js a = putJs ops val ks a := by
  induction hp with
  | nil => intros; rfl
  | cons x _ ih =>
    intro a hd
    rw [putJs_cons, putJs_cons]
    exact ih _ fun i hi j hj => hd i (.tail _ hi) j (.tail _ hj)
  | swap x y l =>
    intro a hd
    rw [putJs_cons, putJs_cons, putJs_cons, putJs_cons]
    by_cases hxy : x = y
    · subst hxy; rfl
    · rw [Act.put_comm a (val y) (val x) (dstB_spec (hd y (.head _) x (.tail _ (.head _)) (Ne.symm hxy)))]
  | trans h1 _ ih1 ih2 =>
    intro a hd
    rw [ih1 a hd, ih2 a fun i hi j hj => hd i (h1.mem_iff.2 hi) j (h1.mem_iff.2 hj)]

/-- What an operation's slot is not looked at by. -/
def lookB (ops : Array Oper) (i j : Nat) : Bool := match ops[i]?, (ops[j]?).bind (·.dst) with
  | some o, some d => !(o.looksAt ops).contains d
  | _, _ => true
theorem lookB_spec {i j : Nat} {o : Oper} (ho : ops[i]? = some o) (h : lookB ops i j = true) : ∀ d, (ops[j]?).bind (·.dst) = some d → d ∉ o.looksAt ops := by
  intro d hd
  unfold lookB at h
  rw [ho, hd] at h
  simpa using h
theorem exec_putJs {val : Nat → Value} {i : Nat} {o : Oper} (ho : ops[i]? = some o) (hs : ∀ cs b, o.op ≠ .select cs b) : ∀ (js : List Nat) (a : Act), (∀ j ∈ js, lookB ops i j = true) →
    execOp (putJs ops val js a).eval o = execOp a.eval o ∧ Region.wanted o (yielded ops (putJs ops val js a).tmps) = Region.wanted o (yielded ops a.tmps)
  | [], _, _ => ⟨rfl, rfl⟩
  | j :: js, a, h => by
    rw [putJs_cons]
    obtain ⟨h1, h2⟩ := exec_putJs ho hs js (a.put ((ops[j]?).bind (·.dst)) (val j)) fun k hk => h k (.tail _ hk)
    have h3 := lookB_spec ho (h j (.head _))
    exact ⟨h1.trans (execOp_put o hs a _ _ h3), h2.trans (wanted_put o a _ _ h3)⟩

/-- What a region must be for the law: said of its text alone. -/
def pureB (ops : Array Oper) (n : Nat) : Bool :=
  Region.noSelect ops && decide (n < ops.size) && Region.sinkB .any ops n && Region.chainB .any ops n &&
  ((List.range n).all fun i => (List.range n).all fun j => (i == j || dstB ops i j) && (lookB ops i j || (i != j && Region.waitsFor .any ops i j))) &&
  ((List.range n).all fun i => match ops[i]? with
    | some o => o.after.all fun e => !Region.binds .any e || decide (e.on < i)
    | none => false) &&
  Region.seqB .any ops (ops.size - n) n (Array.replicate n true ++ Array.replicate (ops.size - n) false)

/-- The head's operations that are done. -/
def hdJs (n : Nat) (listed : Array Bool) : List Nat := (List.range n).filter fun i => listed.getD i false
def unJs (n : Nat) (listed : Array Bool) : List Nat := (List.range n).filter fun i => !listed.getD i false
theorem hd_un_perm (n : Nat) (listed : Array Bool) : (hdJs n listed ++ unJs n listed).Perm (List.range n) := List.filter_append_perm ..

theorem wp_region_pure {id : Nat} {Q : Exit → Act → World → Prop} {a : Act} {w : World} {l : List Oper} (n : Nat) (S : World → Prop) (val : Nat → Value) (hm : P.follows .mixedOrders = true) (hB : pureB l.toArray n = true)
    (hS : S w.drew) (h : ∀ i o, i < n → l[i]? = some o → YieldsW P l.toArray S o (val i) (putJs l.toArray val (List.range n) a))
    (ht : ∀ w', S w' → wpList P l.toArray Q (l.drop n) (putJs l.toArray val (List.range n) a) w') : (Code.region id l.toArray true).wp P Q a w := by
  simp only [pureB, Bool.and_eq_true, decide_eq_true_eq] at hB
  obtain ⟨⟨⟨⟨⟨⟨hsel, hn⟩, hs⟩, hc⟩, hab⟩, hord⟩, hseq⟩ := hB
  generalize haF : putJs l.toArray val (List.range n) a = aF at h ht
  have hn' : n < l.length := by simpa using hn
  have hdst : ∀ i j, i < n → j < n → i ≠ j → dstB l.toArray i j = true := fun i j hi hj hij => by
    have h1 := List.all_eq_true.1 (List.all_eq_true.1 hab i (List.mem_range.2 hi)) j (List.mem_range.2 hj)
    simp only [Bool.and_eq_true, Bool.or_eq_true, beq_iff_eq] at h1
    exact h1.1.resolve_left hij
  have hlook : ∀ i j, i < n → j < n → lookB l.toArray i j = true ∨ (i ≠ j ∧ Region.waitsFor .any l.toArray i j = true) := fun i j hi hj => by
    have h1 := List.all_eq_true.1 (List.all_eq_true.1 hab i (List.mem_range.2 hi)) j (List.mem_range.2 hj)
    simp only [Bool.and_eq_true, Bool.or_eq_true, beq_iff_eq, bne_iff_ne, ne_eq] at h1
    exact h1.2
  have hbef : ∀ i o, i < n → l.toArray[i]? = some o → ∀ e ∈ o.after, Region.binds .any e = true → e.on < i := fun i o hi ho e he hb => by
    have h1 := List.all_eq_true.1 hord i (List.mem_range.2 hi)
    rw [ho] at h1
    have h2 := Array.all_eq_true_iff_forall_mem.1 h1 e he
    rw [hb] at h2
    simpa using h2
  have key : ∀ (f : Nat) (listed : Array Bool) (b : Act) (w' : World), HeadInv .any l.toArray n listed → (unJs n listed).length = f → b = putJs l.toArray val (hdJs n listed) a → S w' →
      wpAny P .any l.toArray Q (f + (l.toArray.size - n)) listed b w' := by
    intro f
    induction f with
    | zero =>
      intro listed b w' inv hu hb hSw
      have hnil : unJs n listed = [] := List.length_eq_zero_iff.1 hu
      have hall : ∀ i, i < n → listed.getD i false = true := fun i hi => by
        cases hg : listed.getD i false with
        | true => rfl
        | false =>
          have : i ∈ unJs n listed := List.mem_filter.2 ⟨List.mem_range.2 hi, by rw [hg]; rfl⟩
          rw [hnil] at this
          cases this
      have hlist : listed = Array.replicate n true ++ Array.replicate (l.toArray.size - n) false := by
        have hsz := inv.size
        apply Array.ext
        · simp at hsz ⊢; omega
        · intro i h1 h2
          by_cases hi : i < n
          · have := hall i hi
            rw [Array.getElem_append_left (by simpa using hi)]
            simp [Array.getD, h1] at this ⊢
            exact this
          · have := inv.tail i (by omega) (by rw [← hsz]; exact h1)
            rw [Array.getElem_append_right (by simp; omega)]
            simp [Array.getD, h1] at this ⊢
            exact this
      have hbF : b = aF := by
        rw [hb, ← haF]
        congr 1
        exact List.filter_eq_self.2 fun i hi => hall i (List.mem_range.1 hi)
      rw [Nat.zero_add, hbF]
      have h3 := wpAny_of_seq (md := .any) (Q' := Q) (P := P) (ops := l.toArray) (l.drop n) n listed aF w' (fun j => by simp [List.getElem?_drop]) (by
        rw [hlist, show (l.drop n).length = l.toArray.size - n by simp]
        exact hseq) (ht w' hSw)
      rwa [show (l.drop n).length = l.toArray.size - n by simp] at h3
    | succ f ih =>
      intro listed b w' inv hu hb hSw
      have hsz := inv.size
      -- the first one that is not done is ready
      have hex : ∃ i, i < n ∧ listed.getD i false = false ∧ ∀ j, j < i → listed.getD j false = true := by
        have hne : unJs n listed ≠ [] := fun h0 => by rw [h0] at hu; simp at hu
        obtain ⟨i0, hi0⟩ := List.exists_mem_of_ne_nil _ hne
        have hi1 := List.mem_filter.1 hi0
        have hi2 : listed.getD i0 false = false := by simpa using hi1.2
        have hi3 := List.mem_range.1 hi1.1
        clear hi0 hi1 hne
        induction i0 using Nat.strongRecOn with
        | _ i0 ihm =>
          by_cases hx : ∃ j, j < i0 ∧ listed.getD j false = false
          · obtain ⟨j, hj, hjf⟩ := hx
            exact ihm j hj hjf (by omega)
          · refine ⟨i0, hi3, hi2, fun j hj => ?_⟩
            cases hg : listed.getD j false with
            | true => rfl
            | false => exact absurd ⟨j, hj, hg⟩ hx
      obtain ⟨i0, hi0, hu0, hlow⟩ := hex
      have hun0 : listed.getD i0 true = false := getD_in (by rw [hsz]; omega) hu0
      obtain ⟨o0, ho0⟩ : ∃ o, l.toArray[i0]? = some o := ⟨_, Array.getElem?_eq_getElem (by omega)⟩
      have hr0 : i0 ∈ Region.ready .any l.toArray listed := mem_ready.2 ⟨hun0, o0, ho0, fun e he hbd => hlow _ (hbef i0 o0 hi0 ho0 e he hbd)⟩
      rw [show f + 1 + (l.toArray.size - n) = (f + (l.toArray.size - n)) + 1 by omega]
      refine ⟨(fun h0 => by rw [h0] at hr0; cases hr0), fun i hi => ?_⟩
      have hin : i < n := by
        rcases Nat.lt_or_ge i n with hlt | hge
        · exact hlt
        · exact absurd hi (tail_waits hs hc hn inv _ i0 rfl hi0 hun0 i hge)
      obtain ⟨hun, o, ho, hall⟩ := mem_ready.1 hi
      have huf : listed.getD i false = false := getD_both hun
      -- the frame of all of the head is this one with the others' values
      have hF : aF = putJs l.toArray val (unJs n listed) b := by
        rw [← haF, hb, ← putJs_append]
        exact (putJs_perm (hd_un_perm n listed) a fun x hx y hy hxy => hdst x y (by have := (hd_un_perm n listed).mem_iff.1 hx; simpa using this) (by have := (hd_un_perm n listed).mem_iff.1 hy; simpa using this) hxy).symm
      have hex2 := exec_putJs (val := val) ho (Region.noSelect_spec hsel i o · · ho) (unJs n listed) b fun j hj => by
        have hj1 := List.mem_filter.1 hj
        have hj2 := List.mem_range.1 hj1.1
        rcases hlook i j hin hj2 with h1 | ⟨hne, h1⟩
        · exact h1
        · obtain ⟨o', ho', e, he, hbd, hon⟩ := Region.waitsFor_spec h1
          have : o' = o := Option.some.inj (ho'.symm.trans ho)
          subst this
          have h2 := hall e he hbd
          rw [hon] at h2
          simp [h2] at hj1
      rw [← hF] at hex2
      have hzz : aF.tmps.size = b.tmps.size := by rw [hF, putJs_size]
      refine wpOp_mono (fun c w'' hcw => ?_) ((h i o hin (by simpa using ho)).wpOp ho hex2.1.symm hex2.2.symm hzz hSw)
      obtain ⟨hc1, hSw''⟩ := hcw
      refine ih _ c w'' (inv.set hi hin) ?_ ?_ hSw''
      · -- one fewer is left
        have hperm : (i :: unJs n (listed.setIfInBounds i true)).Perm (unJs n listed) := by
          refine (List.perm_ext_iff_of_nodup ?_ ?_).2 fun x => ?_
          · refine List.nodup_cons.2 ⟨fun hx => ?_, List.nodup_range.filter _⟩
            have := (List.mem_filter.1 hx).2
            rw [set_get (by rw [hsz]; omega)] at this
            simp at this
          · exact List.nodup_range.filter _
          · constructor
            · intro hx
              rcases List.mem_cons.1 hx with rfl | hx
              · exact List.mem_filter.2 ⟨List.mem_range.2 hin, by rw [huf]; rfl⟩
              · have h1 := List.mem_filter.1 hx
                have h2 := h1.2
                rw [set_get (by rw [hsz]; omega)] at h2
                refine List.mem_filter.2 ⟨h1.1, ?_⟩
                by_cases hix : i = x
                · simp [hix] at h2
                · rw [if_neg hix] at h2; exact h2
            · intro hx
              have h1 := List.mem_filter.1 hx
              by_cases hix : i = x
              · subst hix; exact .head _
              · refine .tail _ (List.mem_filter.2 ⟨h1.1, ?_⟩)
                rw [set_get (by rw [hsz]; omega), if_neg hix]
                exact h1.2
        have := hperm.length_eq
        simp at this
        omega
      · rw [hc1, hb]
        have hperm : (hdJs n listed ++ [i]).Perm (hdJs n (listed.setIfInBounds i true)) := by
          refine (List.perm_ext_iff_of_nodup ?_ ?_).2 fun x => ?_
          · refine List.nodup_append.2 ⟨List.nodup_range.filter _, by simp, fun x hx y hy => ?_⟩
            have hy' : y = i := by simpa using hy
            subst hy'
            intro hxy
            subst hxy
            have := (List.mem_filter.1 hx).2
            rw [huf] at this
            cases this
          · exact List.nodup_range.filter _
          · constructor
            · intro hx
              rcases List.mem_append.1 hx with hx | hx
              · have h1 := List.mem_filter.1 hx
                refine List.mem_filter.2 ⟨h1.1, ?_⟩
                rw [set_get (by rw [hsz]; omega)]
                split
                · rfl
                · exact h1.2
              · have hx' : x = i := by simpa using hx
                subst hx'
                refine List.mem_filter.2 ⟨List.mem_range.2 hin, ?_⟩
                rw [set_get (by rw [hsz]; omega), if_pos rfl]
            · intro hx
              have h1 := List.mem_filter.1 hx
              by_cases hix : i = x
              · subst hix; exact List.mem_append.2 (.inr (.head _))
              · refine List.mem_append.2 (.inl (List.mem_filter.2 ⟨h1.1, ?_⟩))
                have h2 := h1.2
                rwa [set_get (by rw [hsz]; omega), if_neg hix] at h2
        have e1 : (putJs l.toArray val (hdJs n listed) a).put o.dst (val i) = putJs l.toArray val (hdJs n listed ++ [i]) a := by
          rw [putJs_append, putJs_cons, putJs_nil, ho]
          rfl
        rw [e1]
        refine putJs_perm hperm a fun x hx y hy hxy => ?_
        have m1 := hperm.mem_iff.1 hx
        have m2 := hperm.mem_iff.1 hy
        exact hdst x y (List.mem_range.1 (List.mem_filter.1 m1).1) (List.mem_range.1 (List.mem_filter.1 m2).1) hxy
  refine wp_region_any hm ?_
  have inv0 : HeadInv .any l.toArray n (Array.replicate l.toArray.size false) :=
    ⟨by simp, fun j oj _ hl => (by rw [getD_replicate_false] at hl; cases hl), fun t _ ht => getD_in (by simpa using ht) (getD_replicate_false _ _)⟩
  have h0 := key n (Array.replicate l.toArray.size false) a w.drew inv0 (by
    have : unJs n (Array.replicate l.toArray.size false) = List.range n := List.filter_eq_self.2 fun i _ => by rw [getD_replicate_false]; rfl
    rw [this]; simp) (by
    have : hdJs n (Array.replicate l.toArray.size false) = [] := List.filter_eq_nil_iff.2 fun i _ => by rw [getD_replicate_false]; simp
    rw [this]; rfl) hS
  rw [show n + (l.toArray.size - n) = l.toArray.size by omega] at h0
  exact h0

/-- An operation without a guard. -/
def Gives (P : Program) (S : World → Prop) (o : Oper) (v : Value) (a : Act) : Prop := ∀ w, S w → o.wp P a w (fun b w' => b = a.put o.dst v ∧ S w') (fun _ _ _ => False)
def GivesL (P : Program) (S : World → Prop) (a : Act) : List Oper → List Value → Prop
  | o :: r, v :: vs => Gives P S o v a ∧ GivesL P S a r vs
  | [], [] => True
  | _, _ => False
theorem GivesL.get {a : Act} : ∀ {l : List Oper} {vs : List Value}, GivesL P S a l vs → ∀ i o, l[i]? = some o → Gives P S o (vs.getD i undef) a
  | [], _, _, i, o, h => by simp at h
  | _ :: _, [], hg, _, _, _ => hg.elim
  | p :: r, v :: vs, hg, 0, o, h => by
    have : p = o := by simpa using h
    subst this
    exact hg.1
  | p :: r, v :: vs, hg, i + 1, o, h => by
    have := GivesL.get hg.2 i o (by simpa using h)
    simpa using this

theorem wp_region_gives {id : Nat} {Q : Exit → Act → World → Prop} {a aF : Act} {w : World} {l : List Oper} (n : Nat) (S : World → Prop) (vals : List Value) (hm : P.follows .mixedOrders = true) (hB : pureB l.toArray n = true)
    (hg : (l.take n).all (fun o => o.guard.isNone) = true) (hS : S w.drew) (haF : putJs l.toArray (fun i => vals.getD i undef) (List.range n) a = aF) (h : GivesL P S aF (l.take n) vals)
    (ht : ∀ w', S w' → wpList P l.toArray Q (l.drop n) aF w') : (Code.region id l.toArray true).wp P Q a w := by
  subst haF
  refine wp_region_pure n S (fun i => vals.getD i undef) hm hB hS (fun i o hi ho => .inl ⟨?_, h.get i o (by rw [List.getElem?_take_of_lt hi]; exact ho)⟩) ht
  have hmem : o ∈ l.take n := List.mem_of_getElem? (by rw [List.getElem?_take_of_lt hi]; exact ho)
  have h1 := List.all_eq_true.1 hg o hmem
  unfold Region.wanted
  cases hgd : o.guard with
  | none => rfl
  | some p => rw [hgd] at h1; cases h1

/-- Operations, some of which have guards. -/
def YieldsL (P : Program) (ops : Array Oper) (S : World → Prop) (a : Act) : List Oper → List Value → Prop
  | o :: r, v :: vs => YieldsW P ops S o v a ∧ YieldsL P ops S a r vs
  | [], [] => True
  | _, _ => False
theorem YieldsL.get {a : Act} : ∀ {l : List Oper} {vs : List Value}, YieldsL P ops S a l vs → ∀ i o, l[i]? = some o → YieldsW P ops S o (vs.getD i undef) a
  | [], _, _, i, o, h => by simp at h
  | _ :: _, [], hg, _, _, _ => hg.elim
  | p :: r, v :: vs, hg, 0, o, h => by
    have : p = o := by simpa using h
    subst this
    exact hg.1
  | p :: r, v :: vs, hg, i + 1, o, h => by
    have := YieldsL.get hg.2 i o (by simpa using h)
    simpa using this
theorem wp_region_yields {id : Nat} {Q : Exit → Act → World → Prop} {a aF : Act} {w : World} {l : List Oper} (n : Nat) (S : World → Prop) (vals : List Value) (hm : P.follows .mixedOrders = true) (hB : pureB l.toArray n = true)
    (hS : S w.drew) (haF : putJs l.toArray (fun i => vals.getD i undef) (List.range n) a = aF) (h : YieldsL P l.toArray S aF (l.take n) vals)
    (ht : ∀ w', S w' → wpList P l.toArray Q (l.drop n) aF w') : (Code.region id l.toArray true).wp P Q a w := by
  subst haF
  exact wp_region_pure n S (fun i => vals.getD i undef) hm hB hS (fun i o hi ho => h.get i o (by rw [List.getElem?_take_of_lt hi]; exact ho)) ht
theorem YieldsW.no {o : Oper} {v : Value} {a : Act} (hg : o.guard = none) (h : Gives P S o v a) : YieldsW P ops S o v a := .inl ⟨by unfold Region.wanted; rw [hg], h⟩
theorem YieldsW.yes {o : Oper} {v : Value} {a : Act} {j : Nat} {b : Bool} (hg : o.guard = some (j, b)) (hy : yielded ops a.tmps j = some b) (h : Gives P S o v a) : YieldsW P ops S o v a :=
  .inl ⟨by unfold Region.wanted; rw [hg]; simp [hy], h⟩
theorem YieldsW.not {o : Oper} {a : Act} {j : Nat} {b : Bool} (hg : o.guard = some (j, b)) (hy : yielded ops a.tmps j = some (!b)) : YieldsW P ops S o undef a :=
  .inr ⟨by unfold Region.wanted; rw [hg]; simp [hy], rfl⟩
end
end Go.Proofs.YtggffhmdgceljaaGreatDoor
