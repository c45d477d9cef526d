/-
  A law for a statement whose order Go leaves open, one of whose operations makes a block.
-/
import Derived.Test.YtggffhmdgceljaaGreatDoorRows
import Derived.WalkKit
import Derived.WalkSpells
import Derived.WalkLawsBesides
import Derived.Lib.Hide
import Derived.BigQuiet
import Derived.Deep.QuietTactic
import Derived.Handy
import Derived.Deep.RegionHeld3
import Derived.Deep.RegionWith
import Derived.StillTailTactics
import Derived.RangeFuncNested
import Derived.RangeFuncBound
import Derived.RangeFuncCalls
import Derived.RangeFuncLeaves
import Derived.RangeFuncBox
import Derived.Shelf.Abstract
import Derived.Shelf.RegionOpen
import Derived.OwnWalkIn
import Derived.TacticsInMore
import Derived.LoopNIn
import Derived.LoopIn
import Derived.Maps.AppendAt
import Derived.Test.YtggffhmdgceljaaGreatDoorProg
import Derived.Laws.FloatArith
import Derived.Laws.BitsAllLaws
import Derived.Deep.DeepCutAuto
import Derived.Stop.BytesEq
import Derived.Deep.MidRow
import Derived.Laws.CopyRow
import Derived.WalkMore
import Derived.Deep.DrawnRows
import Derived.Deep.CutBlock
import Derived.Orders
import Derived.LoopTactic
import Derived.Laws.StructEq
import Derived.Deep.RegionLaw
import Derived.RegionTactic
import Derived.StillTail
import Derived.Test.YtggffhmdgceljaaGreatDoorOwaWn
import Derived.Test.YtggffhmdgceljaaGreatDoorOwaXe
import Derived.Test.YtggffhmdgceljaaGreatDoorOwaIk
import Derived.Test.YtggffhmdgceljaaGreatDoorOwaIl
namespace Go.Proofs.YtggffhmdgceljaaGreatDoor
open Go.RowKit
set_option linter.unusedVariables false
set_option linter.unusedSimpArgs false

section
variable {P : Program} {ops : Array Oper} {S : World → Prop}
def upd1 (val : Nat → Value) (k : Nat) (v : Value) (i : Nat) : Value := if i = k then v else val i
theorem upd1_ne (val : Nat → Value) {k i : Nat} (v : Value) (h : i ≠ k) : upd1 val k v i = val i := if_neg h
theorem upd1_self (val : Nat → Value) {k : Nat} (v : Value) : upd1 val k v k = v := if_pos rfl
theorem putJs_congr {V V' : Nat → Value} : ∀ (js : List Nat) (a : Act), (∀ j ∈ js, V j = V' j) → putJs ops V js a = putJs ops V' js a
  | [], _, _ => rfl
  | j :: js, a, h => by
    rw [putJs_cons, putJs_cons, h j (.head _)]
    exact putJs_congr js _ fun i hi => h i (.tail _ hi)

/-- As wp_region_pure, where the operation k of the head makes a block: R is what is known of its address v. -/
theorem wp_region_made {id : Nat} {Q : Exit → Act → World → Prop} {a : Act} {w : World} {l : List Oper} (n k : Nat) (S : World → Prop) (R : Value → World → Prop) (val : Nat → Value) (hm : P.follows .mixedOrders = true) (hB : pureB l.toArray n = true) (hk : k < n)
    (hR : ∀ v w w', R v w → Below w.heap.size w w' → R v w')
    (hS : S w.drew) (hA : ∀ o b w, l[k]? = some o → S w → wpOp P l.toArray Q k (fun c w' => ∃ v, c = b.put o.dst v ∧ S w' ∧ R v w') b w)
    (h : ∀ (v : Value) (T : World → Prop) (i : Nat) (o : Oper), (∀ w w', T w → Below w.heap.size w w' → T w') → i < n → i ≠ k → l[i]? = some o → YieldsW P l.toArray (fun w => S w ∧ T w) o (val i) (putJs l.toArray (upd1 val k v) (List.range n) a))
    (ht : ∀ v w', S w' → R v w' → wpList P l.toArray Q (l.drop n) (putJs l.toArray (upd1 val k v) (List.range n) a) w') : (Code.region id l.toArray true).wp P Q a w := by
  simp only [pureB, Bool.and_eq_true, decide_eq_true_eq] at hB
  obtain ⟨⟨⟨⟨⟨⟨hsel, hn⟩, hs⟩, hc⟩, hab⟩, hord⟩, hseq⟩ := hB
  have hn' : n < l.length := by simpa using hn
  have hdst : ∀ i j, i < n → j < n → i ≠ j → dstB l.toArray i j = true := fun i j hi hj hij => by
    have h1 := List.all_eq_true.1 (List.all_eq_true.1 hab i (List.mem_range.2 hi)) j (List.mem_range.2 hj)
    simp only [Bool.and_eq_true, Bool.or_eq_true, beq_iff_eq] at h1
    exact h1.1.resolve_left hij
  have hlook : ∀ i j, i < n → j < n → lookB l.toArray i j = true ∨ (i ≠ j ∧ Region.waitsFor .any l.toArray i j = true) := fun i j hi hj => by
    have h1 := List.all_eq_true.1 (List.all_eq_true.1 hab i (List.mem_range.2 hi)) j (List.mem_range.2 hj)
    simp only [Bool.and_eq_true, Bool.or_eq_true, beq_iff_eq, bne_iff_ne, ne_eq] at h1
    exact h1.2
  have hbef : ∀ i o, i < n → l.toArray[i]? = some o → ∀ e ∈ o.after, Region.binds .any e = true → e.on < i := fun i o hi ho e he hb => by
    have h1 := List.all_eq_true.1 hord i (List.mem_range.2 hi)
    rw [ho] at h1
    have h2 := Array.all_eq_true_iff_forall_mem.1 h1 e he
    rw [hb] at h2
    simpa using h2
  have key : ∀ (f : Nat) (listed : Array Bool) (b : Act) (w' : World), HeadInv .any l.toArray n listed → (unJs n listed).length = f → (∃ v, b = putJs l.toArray (upd1 val k v) (hdJs n listed) a ∧ S w' ∧ (listed.getD k false = true → R v w')) →
      wpAny P .any l.toArray Q (f + (l.toArray.size - n)) listed b w' := by
    intro f
    induction f with
    | zero =>
      intro listed b w' inv hu ⟨v, hb, hSw, hRw⟩
      have hnil : unJs n listed = [] := List.length_eq_zero_iff.1 hu
      have hall : ∀ i, i < n → listed.getD i false = true := fun i hi => by
        cases hg : listed.getD i false with
        | true => rfl
        | false =>
          have : i ∈ unJs n listed := List.mem_filter.2 ⟨List.mem_range.2 hi, by rw [hg]; rfl⟩
          rw [hnil] at this
          cases this
      have hlist : listed = Array.replicate n true ++ Array.replicate (l.toArray.size - n) false := by
        have hsz := inv.size
        apply Array.ext
        · simp at hsz ⊢; omega
        · intro i h1 h2
          by_cases hi : i < n
          · have := hall i hi
            rw [Array.getElem_append_left (by simpa using hi)]
            simp [Array.getD, h1] at this ⊢
            exact this
          · have := inv.tail i (by omega) (by rw [← hsz]; exact h1)
            rw [Array.getElem_append_right (by simp; omega)]
            simp [Array.getD, h1] at this ⊢
            exact this
      have hbF : b = putJs l.toArray (upd1 val k v) (List.range n) a := by
        rw [hb]
        congr 1
        exact List.filter_eq_self.2 fun i hi => hall i (List.mem_range.1 hi)
      rw [Nat.zero_add, hbF]
      have h3 := wpAny_of_seq (md := .any) (Q' := Q) (P := P) (ops := l.toArray) (l.drop n) n listed (putJs l.toArray (upd1 val k v) (List.range n) a) w' (fun j => by simp [List.getElem?_drop]) (by
        rw [hlist, show (l.drop n).length = l.toArray.size - n by simp]
        exact hseq) (ht v w' hSw (hRw (hall k hk)))
      rwa [show (l.drop n).length = l.toArray.size - n by simp] at h3
    | succ f ih =>
      intro listed b w' inv hu ⟨v, hb, hSw, hRw⟩
      have hsz := inv.size
      -- the first one that is not done is ready
      have hex : ∃ i, i < n ∧ listed.getD i false = false ∧ ∀ j, j < i → listed.getD j false = true := by
        have hne : unJs n listed ≠ [] := fun h0 => by rw [h0] at hu; simp at hu
        obtain ⟨i0, hi0⟩ := List.exists_mem_of_ne_nil _ hne
        have hi1 := List.mem_filter.1 hi0
        have hi2 : listed.getD i0 false = false := by simpa using hi1.2
        have hi3 := List.mem_range.1 hi1.1
        clear hi0 hi1 hne
        induction i0 using Nat.strongRecOn with
        | _ i0 ihm =>
          by_cases hx : ∃ j, j < i0 ∧ listed.getD j false = false
          · obtain ⟨j, hj, hjf⟩ := hx
            exact ihm j hj hjf (by omega)
          · refine ⟨i0, hi3, hi2, fun j hj => ?_⟩
            cases hg : listed.getD j false with
            | true => rfl
            | false => exact absurd ⟨j, hj, hg⟩ hx
      obtain ⟨i0, hi0, hu0, hlow⟩ := hex
      have hun0 : listed.getD i0 true = false := getD_in (by rw [hsz]; omega) hu0
      obtain ⟨o0, ho0⟩ : ∃ o, l.toArray[i0]? = some o := ⟨_, Array.getElem?_eq_getElem (by omega)⟩
      have hr0 : i0 ∈ Region.ready .any l.toArray listed := mem_ready.2 ⟨hun0, o0, ho0, fun e he hbd => hlow _ (hbef i0 o0 hi0 ho0 e he hbd)⟩
      rw [show f + 1 + (l.toArray.size - n) = (f + (l.toArray.size - n)) + 1 by omega]
      refine ⟨(fun h0 => by rw [h0] at hr0; cases hr0), fun i hi => ?_⟩
      have hin : i < n := by
        rcases Nat.lt_or_ge i n with hlt | hge
        · exact hlt
        · exact absurd hi (tail_waits hs hc hn inv _ i0 rfl hi0 hun0 i hge)
      obtain ⟨hun, o, ho, hall⟩ := mem_ready.1 hi
      have huf : listed.getD i false = false := getD_both hun
      have hlen : (unJs n (listed.setIfInBounds i true)).length = f := by
        have hperm : (i :: unJs n (listed.setIfInBounds i true)).Perm (unJs n listed) := by
          refine (List.perm_ext_iff_of_nodup ?_ ?_).2 fun x => ?_
          · refine List.nodup_cons.2 ⟨fun hx => ?_, List.nodup_range.filter _⟩
            have := (List.mem_filter.1 hx).2
            rw [set_get (by rw [hsz]; omega)] at this
            simp at this
          · exact List.nodup_range.filter _
          · constructor
            · intro hx
              rcases List.mem_cons.1 hx with rfl | hx
              · exact List.mem_filter.2 ⟨List.mem_range.2 hin, by rw [huf]; rfl⟩
              · have h1 := List.mem_filter.1 hx
                have h2 := h1.2
                rw [set_get (by rw [hsz]; omega)] at h2
                refine List.mem_filter.2 ⟨h1.1, ?_⟩
                by_cases hix : i = x
                · simp [hix] at h2
                · rw [if_neg hix] at h2; exact h2
            · intro hx
              have h1 := List.mem_filter.1 hx
              by_cases hix : i = x
              · subst hix; exact .head _
              · refine .tail _ (List.mem_filter.2 ⟨h1.1, ?_⟩)
                rw [set_get (by rw [hsz]; omega), if_neg hix]
                exact h1.2
        have := hperm.length_eq
        simp at this
        omega
      have hput : ∀ V : Nat → Value, (putJs l.toArray V (hdJs n listed) a).put o.dst (V i) = putJs l.toArray V (hdJs n (listed.setIfInBounds i true)) a := fun V => by
        have hperm : (hdJs n listed ++ [i]).Perm (hdJs n (listed.setIfInBounds i true)) := by
          refine (List.perm_ext_iff_of_nodup ?_ ?_).2 fun x => ?_
          · refine List.nodup_append.2 ⟨List.nodup_range.filter _, by simp, fun x hx y hy => ?_⟩
            have hy' : y = i := by simpa using hy
            subst hy'
            intro hxy
            subst hxy
            have := (List.mem_filter.1 hx).2
            rw [huf] at this
            cases this
          · exact List.nodup_range.filter _
          · constructor
            · intro hx
              rcases List.mem_append.1 hx with hx | hx
              · have h1 := List.mem_filter.1 hx
                refine List.mem_filter.2 ⟨h1.1, ?_⟩
                rw [set_get (by rw [hsz]; omega)]
                split
                · rfl
                · exact h1.2
              · have hx' : x = i := by simpa using hx
                subst hx'
                refine List.mem_filter.2 ⟨List.mem_range.2 hin, ?_⟩
                rw [set_get (by rw [hsz]; omega), if_pos rfl]
            · intro hx
              have h1 := List.mem_filter.1 hx
              by_cases hix : i = x
              · subst hix; exact List.mem_append.2 (.inr (.head _))
              · refine List.mem_append.2 (.inl (List.mem_filter.2 ⟨h1.1, ?_⟩))
                have h2 := h1.2
                rwa [set_get (by rw [hsz]; omega), if_neg hix] at h2
        have e1 : (putJs l.toArray V (hdJs n listed) a).put o.dst (V i) = putJs l.toArray V (hdJs n listed ++ [i]) a := by
          rw [putJs_append, putJs_cons, putJs_nil, ho]
          rfl
        rw [e1]
        refine putJs_perm hperm a fun x hx y hy hxy => ?_
        have m1 := hperm.mem_iff.1 hx
        have m2 := hperm.mem_iff.1 hy
        exact hdst x y (List.mem_range.1 (List.mem_filter.1 m1).1) (List.mem_range.1 (List.mem_filter.1 m2).1) hxy
      by_cases hik : i = k
      · subst hik
        refine wpOp_mono (fun c w'' hcw => ?_) (hA o b w' (by simpa using ho) hSw)
        obtain ⟨v', hc1, hS'', hR''⟩ := hcw
        refine ih _ c w'' (inv.set hi hin) hlen ⟨v', ?_, hS'', fun _ => hR''⟩
        have hsame : putJs l.toArray (upd1 val i v) (hdJs n listed) a = putJs l.toArray (upd1 val i v') (hdJs n listed) a := putJs_congr _ a fun j hj => by
          have hj1 := (List.mem_filter.1 hj).2
          have hji : j ≠ i := fun hji => by rw [hji, huf] at hj1; cases hj1
          rw [upd1_ne _ _ hji, upd1_ne _ _ hji]
        have h4 := hput (upd1 val i v')
        rw [upd1_self] at h4
        rw [hc1, hb, hsame, h4]
      · -- the frame of all of the head is this one with the others' values
        have hF : putJs l.toArray (upd1 val k v) (List.range n) a = putJs l.toArray (upd1 val k v) (unJs n listed) b := by
          rw [hb, ← putJs_append]
          exact (putJs_perm (hd_un_perm n listed) a fun x hx y hy hxy => hdst x y (by have := (hd_un_perm n listed).mem_iff.1 hx; simpa using this) (by have := (hd_un_perm n listed).mem_iff.1 hy; simpa using this) hxy).symm
        have hex2 := exec_putJs (val := upd1 val k v) ho (Region.noSelect_spec hsel i o · · ho) (unJs n listed) b fun j hj => by
          have hj1 := List.mem_filter.1 hj
          have hj2 := List.mem_range.1 hj1.1
          rcases hlook i j hin hj2 with h1 | ⟨hne, h1⟩
          · exact h1
          · obtain ⟨o', ho', e, he, hbd, hon⟩ := Region.waitsFor_spec h1
            have : o' = o := Option.some.inj (ho'.symm.trans ho)
            subst this
            have h2 := hall e he hbd
            rw [hon] at h2
            simp [h2] at hj1
        rw [← hF] at hex2
        have hzz : (putJs l.toArray (upd1 val k v) (List.range n) a).tmps.size = b.tmps.size := by rw [hF, putJs_size]
        have hg' : (listed.setIfInBounds i true).getD k false = listed.getD k false := by rw [set_get (by rw [hsz]; omega), if_neg hik]
        by_cases hgk : listed.getD k false = true
        · refine wpOp_mono (fun c w'' hcw => ?_) ((h v (R v) i o (hR v) hin hik (by simpa using ho)).wpOp ho hex2.1.symm hex2.2.symm hzz ⟨hSw, hRw hgk⟩)
          obtain ⟨hc1, hS'', hR''⟩ := hcw
          refine ih _ c w'' (inv.set hi hin) hlen ⟨v, ?_, hS'', fun _ => hR''⟩
          have h4 := hput (upd1 val k v)
          rw [upd1_ne _ _ hik] at h4
          rw [hc1, hb, h4]
        · refine wpOp_mono (fun c w'' hcw => ?_) ((h v (fun _ => True) i o (fun _ _ _ _ => trivial) hin hik (by simpa using ho)).wpOp ho hex2.1.symm hex2.2.symm hzz ⟨hSw, trivial⟩)
          obtain ⟨hc1, hS'', _⟩ := hcw
          refine ih _ c w'' (inv.set hi hin) hlen ⟨v, ?_, hS'', fun hgk' => absurd (hg' ▸ hgk') hgk⟩
          have h4 := hput (upd1 val k v)
          rw [upd1_ne _ _ hik] at h4
          rw [hc1, hb, h4]
  refine wp_region_any hm ?_
  have inv0 : HeadInv .any l.toArray n (Array.replicate l.toArray.size false) :=
    ⟨by simp, fun j oj _ hl => (by rw [getD_replicate_false] at hl; cases hl), fun t _ ht => getD_in (by simpa using ht) (getD_replicate_false _ _)⟩
  have h0 := key n (Array.replicate l.toArray.size false) a w.drew inv0 (by
    have : unJs n (Array.replicate l.toArray.size false) = List.range n := List.filter_eq_self.2 fun i _ => by rw [getD_replicate_false]; rfl
    rw [this]; simp) (by
    have : hdJs n (Array.replicate l.toArray.size false) = [] := List.filter_eq_nil_iff.2 fun i _ => by rw [getD_replicate_false]; simp
    exact ⟨undef, by rw [this]; rfl, hS, fun h0 => by rw [getD_replicate_false] at h0; cases h0⟩)
  rw [show n + (l.toArray.size - n) = l.toArray.size by omega] at h0
  exact h0
def GivesK (P : Program) (S : World → Prop) (a : Act) : Nat → List Oper → List Value → Prop
  | 0, _ :: r, _ :: vs => GivesL P S a r vs
  | k + 1, o :: r, v :: vs => Gives P S o v a ∧ GivesK P S a k r vs
  | _, _, _ => False
theorem GivesK.get {a : Act} : ∀ {k : Nat} {l : List Oper} {vs : List Value}, GivesK P S a k l vs → ∀ i o, i ≠ k → l[i]? = some o → Gives P S o (vs.getD i undef) a
  | 0, _ :: _, _ :: _, _, 0, _, hi, _ => absurd rfl hi
  | 0, _ :: r, v :: vs, hg, i + 1, o, _, h => by
    have := GivesL.get (show GivesL P S a r vs from hg) i o (by simpa using h)
    simpa using this
  | k + 1, p :: r, v :: vs, hg, 0, o, _, h => by
    have : p = o := by simpa using h
    subst this
    exact hg.1
  | k + 1, p :: r, v :: vs, hg, i + 1, o, hi, h => by
    have := GivesK.get hg.2 i o (fun hik => hi (by rw [hik])) (by simpa using h)
    simpa using this
  | 0, [], _, hg, _, _, _, _ => hg.elim
  | 0, _ :: _, [], hg, _, _, _, _ => hg.elim
  | _ + 1, [], _, hg, _, _, _, _ => hg.elim
  | _ + 1, _ :: _, [], hg, _, _, _, _ => hg.elim

/-- What is known of a made block's address. -/
def MadeR (wc : World) (Z : Array Value) (T : TypeId) (v : Value) (w : World) : Prop := ∃ B, v = .pointer (some ⟨B, 0, none⟩) ∧ wc.heap.size ≤ B ∧ w.heap[B]? = some (.cells Z T (0, 0))
theorem MadeR.kept {wc : World} {Z : Array Value} {T : TypeId} {v : Value} {w w' : World} (h : MadeR wc Z T v w) (hb : Below w.heap.size w w') : MadeR wc Z T v w' := by
  obtain ⟨B, h1, h2, h3⟩ := h
  exact ⟨B, h1, h2, (hb.block _ (lt_of_blk h3)).trans h3⟩
def Stable (T : World → Prop) : Prop := ∀ w w', T w → Below w.heap.size w w' → T w'

theorem wp_region_alloc {id : Nat} {Q : Exit → Act → World → Prop} {a : Act} {aF : Value → Act} {wc : World} {l : List Oper} (n k : Nat) (Z : Array Value) (T : TypeId) (vals : List Value) (o : Oper) (hm : P.follows .mixedOrders = true) (hB : pureB l.toArray n = true) (hk : k < n)
    (hg : (l.take n).all (fun o => o.guard.isNone) = true) (ho : l[k]? = some o)
    (hz : ∀ (b : Act) (w1 : World), (execOp b.eval o).run P w1 = .ok (.value (.pointer (some ⟨w1.heap.size, 0, none⟩))) (w1.alloc (.cells Z T)))
    (haF : ∀ v, putJs l.toArray (upd1 (fun i => vals.getD i undef) k v) (List.range n) a = aF v)
    (h : ∀ v Tt, Stable Tt → GivesK P (fun w => Blw wc.heap.size wc w ∧ Tt w) (aF v) k (l.take n) vals)
    (ht : ∀ B w', wc.heap.size ≤ B → Blw wc.heap.size wc w' → w'.heap[B]? = some (.cells Z T (0, 0)) → wpList P l.toArray Q (l.drop n) (aF (.pointer (some ⟨B, 0, none⟩))) w') : (Code.region id l.toArray true).wp P Q a wc := by
  have hgn : ∀ i o, i < n → l[i]? = some o → o.guard = none := fun i o hi ho => by
    have h1 := List.all_eq_true.1 hg o (List.mem_of_getElem? (i := i) (by rw [List.getElem?_take]; simp [hi, ho]))
    simpa using h1
  refine wp_region_made n k (fun w => Blw wc.heap.size wc w) (MadeR wc Z T) (fun i => vals.getD i undef) hm hB hk (fun v w w' => MadeR.kept) (show Below _ _ _ from (Below.refl _ _).drew) (fun o' b w1 ho' hS => ?_) (fun v Tt i o hT hi hik ho => ?_) (fun v w' hS hR => ?_)
  · obtain rfl : o = o' := Option.some.inj (ho.symm.trans ho')
    unfold Go.wpOp
    simp only [show l.toArray[k]? = some o by simpa using ho]
    have hw : Region.wanted o (yielded l.toArray b.tmps) = true := by unfold Region.wanted; rw [hgn k o hk ho]
    rw [hw]
    simp only [if_true]
    refine .inl ?_
    unfold Oper.wp
    rw [hz b w1]
    exact ⟨_, rfl, below_allocS (show Below _ _ _ from hS) _, w1.heap.size, rfl, (show Below _ _ _ from hS).size, blk_alloc_new _ _⟩
  · rw [haF]
    have h1 := (h v Tt hT).get i o hik (by rw [List.getElem?_take]; simp [hi, ho])
    exact YieldsW.no (hgn i o hi ho) h1
  · obtain ⟨B, rfl, h2, h3⟩ := hR
    rw [haF]
    exact ht B w' h2 hS h3
end
end Go.Proofs.YtggffhmdgceljaaGreatDoor
