/-
  Contract of slices.Clone at integers that lie in a block.
-/
import Derived.Test.YtfdkmmllemkogaaOXg
import Derived.Test.YtfdkmmllemkogaaOWi
import Derived.Test.YtfdkmmllemkogaaOWk
import Derived.Test.YtfdkmmllemkogaaOXe
import Derived.Test.YtfdkmmllemkogaaOMb
import Derived.OrdersHeld
import Derived.OrdersIn
import Derived.AtR
namespace Go.Proofs.Ytfdkmmllemkogaa
open Go.RowKit
set_option linter.unusedVariables false

set_option maxRecDepth 100000 in
set_option maxHeartbeats 3200000 in
theorem clone_any {w : World} (g n c : Nat) (ks : List Int) (hx : ks.length = n) (hn1 : 1 ≤ n) (hm : n ≤ 4096) (hb : g < w.heap.size)
    (hc : ∀ j, j < n → w.cell? ⟨g, j, none⟩ = some (.int .i64 (ks[j]?.getD 0))) :
    Calls Try.prog 41 #[.slice (some ⟨g, 0, none⟩) n c] w fun e w' =>
      ∃ g' cap, e = .returned (.slice (some ⟨g', 0, none⟩) n cap) ∧ w'.ownsRow w.heap.size 3 1 (.slice (some ⟨g', 0, none⟩) n cap) n (ks.map (Value.int .i64)) ∧ Below w.heap.size w w' := by
  obtain ⟨i0, hi, hz0, hz1, hz2⟩ := info_parts Try.infoInt
  have Hx := Lib.hid hx
  have Hc := Lib.hid hc
  clear hx hc
  have hnil : ∀ w : World, (binOp .eql 29 (.slice (some ⟨g, 0, none⟩) n c) (.slice none 0 0)).run Try.prog w = .ok (.bool false) w := fun w => Lib.run_eql_slice_nil w _ _ _ _ _ _ _ Try.underlying29
  go_enter Try.func41, Try.ntmps41
  go_wp2_with (at_builtin; go_loud (refine wpList_append_own _ rfl (.tmp 5) (.tmp 6) 29 rfl w.heap.size 3 i0 (.int .i64 0) 1 8 Try.underlying29 hi hz0 hz1 hz2 rfl (by decide) (.slice (some ⟨w.heap.size, 0, none⟩) 0 0) 0 [] rfl ?c0 ⟨g, 0, none⟩ n c (ks.map (Value.int .i64)) rfl (by simp [Hx.out]) ?c1 ?c2 ?c3 ?c4 ?c5 ?_))
  case c0 => exact World.ownsRow_made (base := w.heap.size) (e := 3) (size := 1) w #[] 0 (by simp) (by unfold maxLen; omega) rfl
  case c1 =>
    intro j u hu
    have hj : j < n := by have := (List.getElem?_eq_some_iff.1 hu).1; simp [Hx.out] at this; exact this
    have hadd : (⟨g, 0, none⟩ : Addr).add j = ⟨g, j, none⟩ := by unfold Addr.add; split <;> simp_all
    have e : u = .int .i64 (ks[j]?.getD 0) := by
      have hj' : j < ks.length := by rw [Hx.out]; exact hj
      simp [List.getElem?_map, List.getElem?_eq_getElem hj'] at hu
      simp [hj', hu]
    rw [hadd, e]
    exact ((Below.refl _ w).alloc (Nat.le_refl _) _ |>.cell (by exact hb)).trans (Hc.out j hj)
  case c2 => intro u hu; obtain ⟨x, _, rfl⟩ := List.mem_map.1 hu; rfl
  case c3 => unfold maxLen; omega
  case c4 => omega
  case c5 => simp
  intro v' w1 hown hgrow _
  obtain ⟨g', cap, rfl, _⟩ := owns_some hown hn1
  have hb1 : Below w.heap.size w w1 := ((Below.refl w.heap.size w).alloc (Nat.le_refl _) _).grown hgrow (by simp) (fun k hk => by cases hk; simp)
  clear hgrow
  go_wp2
  go_ret
  exact ⟨g', cap, rfl, hown, hb1⟩
end Go.Proofs.Ytfdkmmllemkogaa

/-
  What stays while Spread's inner loop writes the copy's integers.
-/
namespace Go.Proofs.Ytfdkmmllemkogaa
open Go.RowKit Go.Shelf
set_option linter.unusedVariables false

/-- The blocks of Spread's round. -/
structure SpP where
  B7 : Nat
  B8 : Nat
  Bw : Nat
  Bx : Nat
  ga : Nat
  gb : Nat
  gn : Nat
  o7 : Obj
  o8 : Obj
  ow : Obj
  ox : Obj
  oa : Obj
  on : Obj
  N : Nat
  M : Nat
  n : Nat
  cb : Nat
  T : TypeId
  W0 : World
  W1 : World
def SpP.Apart (p : SpP) : Prop := p.gb ≠ p.B7 ∧ p.gb ≠ p.B8 ∧ p.gb ≠ p.Bw ∧ p.gb ≠ p.Bx ∧ p.gb ≠ p.ga ∧ p.gb ≠ p.gn ∧ p.M ≤ p.gb
structure SpW (p : SpP) (cs : List Int) (w : World) : Prop where
  own : w.ownsRow p.N p.T 1 (.slice (some ⟨p.gb, 0, none⟩) p.n p.cb) p.n (cs.map (Value.int .i64))
  b7 : w.heap[p.B7]? = some p.o7
  b8 : w.heap[p.B8]? = some p.o8
  bw : w.heap[p.Bw]? = some p.ow
  bx : w.heap[p.Bx]? = some p.ox
  ba : w.heap[p.ga]? = some p.oa
  bn : w.heap[p.gn]? = some p.on
  bel : Below p.M p.W0 w
  keeps : KeepsOthers p.W1 w
theorem SpW.below {p : SpP} {cs : List Int} {w w' : World} (h : SpW p cs w) (hM : p.M ≤ p.W0.heap.size) (hb : Below w.heap.size w w') : SpW p cs w' :=
  ⟨owns_kept h.own hb (Nat.le_refl _), (hb.block _ (lt_of_blk h.b7)).trans h.b7, (hb.block _ (lt_of_blk h.b8)).trans h.b8, (hb.block _ (lt_of_blk h.bw)).trans h.bw, (hb.block _ (lt_of_blk h.bx)).trans h.bx, (hb.block _ (lt_of_blk h.ba)).trans h.ba,
    (hb.block _ (lt_of_blk h.bn)).trans h.bn, h.bel.trans (hb.mono (Nat.le_trans hM h.bel.size)), h.keeps.trans (KeepsOthers.of_below hb)⟩
theorem SpW.drew {p : SpP} {cs : List Int} {w : World} (h : SpW p cs w) : SpW p cs w.drew :=
  ⟨h.own.drew, h.b7, h.b8, h.bw, h.bx, h.ba, h.bn, h.bel.drew, h.keeps.trans (KeepsOthers.drew w)⟩
theorem SpW.alloc {p : SpP} {cs : List Int} {w : World} (h : SpW p cs w) (hM : p.M ≤ p.W0.heap.size) (o : Obj) : SpW p cs (w.alloc o) :=
  h.below hM ((Below.refl _ w).alloc (Nat.le_refl _) o)
theorem SpW.store {p : SpP} {cs : List Int} {w : World} (h : SpW p cs w) (ha : p.Apart) (j : Nat) (v : Int) : SpW p (cs.set j v) (w.setCell ⟨p.gb, j, none⟩ (.int .i64 v)) := by
  obtain ⟨n1, n2, n3, n4, n5, n6, n7⟩ := ha
  refine ⟨?_, blk_set_other h.b7 n1 _, blk_set_other h.b8 n2 _, blk_set_other h.bw n3 _, blk_set_other h.bx n4 _, blk_set_other h.ba n5 _, blk_set_other h.bn n6 _, h.bel.setCell n7 _, h.keeps.trans (KeepsOthers.setCell _ _ _)⟩
  rw [List.map_set]
  exact (h.own.stored j (.int .i64 v)).1
theorem SpW.cell {p : SpP} {cs : List Int} {w : World} (h : SpW p cs w) {j : Nat} (hj : j < cs.length) : w.cell? ⟨p.gb, j, none⟩ = some (.int .i64 (cs[j]?.getD 0)) :=
  owns_cell h.own (by rw [List.getElem?_map, List.getElem?_eq_getElem hj]; rfl)
theorem SpW.frozen {p : SpP} {cs : List Int} {w : World} (h : SpW p cs w) (j : Nat) : w.frozen? ⟨p.gb, j, none⟩ = false := h.own.frozenAt j
end Go.Proofs.Ytfdkmmllemkogaa

/-
  A region that draws its order, inside a fence and inside a round: an operation that yields its value in every world of which S holds may be taken first; S is shown anew behind each other one, but not behind the last.
-/
namespace Go.Proofs.Ytfdkmmllemkogaa
open Go

section
variable {F : Fence} {n : Nat} {P : Program} {ops : Array Oper} {Q : Exit → Act → World → Prop} {md : Region.Mode} {S : World → Prop}

def YHIn (P : Program) (ops : Array Oper) (S : World → Prop) (o : Oper) (v : Value) (a : Act) : Prop := YieldsIf P ops S o v a ∧ ∀ w, o.about P w a.eval = none

theorem YHIn.wpOpIn {i : Nat} {o : Oper} {v : Value} {a : Act} (hi : ops[i]? = some o) (hd : ∀ c, o.op ≠ .defer c) (hy : YHIn P ops S o v a)
    {K : Act → World → Prop} {w : World} (hS : S w) (h : K (a.put o.dst v) w) : Go.wpOpIn F n P ops Q i K a w := by
  unfold Go.wpOpIn
  simp only [hi]
  have hab : ∀ f, o.about P w a.eval = some f → F.fn f := fun f hf => by rw [hy.2 w] at hf; cases hf
  rcases hy.1 with ⟨hw, hv⟩ | ⟨hw, rfl⟩
  · simp only [hw, if_true, Oper.wpIn, Oper.semAt_eq _ _ _ hd, hv w hS, Oper.uponIn]; exact ⟨hab, h⟩
  · simp only [hw, Bool.false_eq_true, if_false]; exact ⟨hab, h⟩

theorem YHIn.of_same {o : Oper} {v : Value} {a a' : Act} (hy : YHIn P ops S o v a) (he : execOp a'.eval o = execOp a.eval o)
    (hw : Region.wanted o (yielded ops a'.tmps) = Region.wanted o (yielded ops a.tmps)) (hb : ∀ w, o.about P w a'.eval = o.about P w a.eval) : YHIn P ops S o v a' :=
  ⟨hy.1.of_same he hw, fun w => by rw [hb w]; exact hy.2 w⟩

theorem wpOpIn_putH {j : Nat} {oi oj : Oper} {v : Value} (hj : ops[j]? = some oj) (hdj : ∀ c, oj.op ≠ .defer c) (hap : oi.apart ops oj = true)
    (hsi : ∀ cs b, oi.op ≠ .select cs b) (hsj : ∀ cs b, oj.op ≠ .select cs b)
    (hQ : ∀ c a w, Q (.panic c) (a.put oi.dst v) w → Q (.panic c) a w) {K : Act → World → Prop} {a : Act} {w : World}
    (hy : YHIn P ops S oi v a) (h : Go.wpOpIn F n P ops Q j K (a.put oi.dst v) w) :
    Go.wpOpIn F n P ops Q j (fun a' w' => YHIn P ops S oi v a' ∧ K (a'.put oi.dst v) w') a w := by
  obtain ⟨h1, h2, h3⟩ := Oper.apart_spec hap
  have keep : ∀ (a : Act), YHIn P ops S oi v a → ∀ u, YHIn P ops S oi v (a.put oj.dst u) := fun a hy u =>
    hy.of_same (execOp_put oi hsi a oj.dst u h3) (wanted_put oi a oj.dst u h3) (fun w => about_put oi w a oj.dst u h3)
  unfold Go.wpOpIn at *
  simp only [hj] at *
  rw [wanted_put oj a oi.dst v h1, about_put oj w a oi.dst v h1] at h
  split
  · rename_i hw
    simp only [hw, if_true] at h
    unfold Oper.wpIn at *
    rw [about_put oj w a oi.dst v h1] at h
    refine ⟨h.1, ?_⟩
    have h := h.2
    rw [Oper.semAt_eq _ _ _ hdj, execOp_put oj hsj a oi.dst v h1] at h
    rw [Oper.semAt_eq _ _ _ hdj]
    generalize (execOp a.eval oj).run P w = r at *
    cases r with
    | ok x w' =>
      cases x <;> simp only [Oper.uponIn] at h ⊢
      case value u => exact ⟨keep a hy u, by rw [← Act.put_comm a v u h2]; exact h⟩
      case skip => exact ⟨keep a hy _, by rw [← Act.put_comm a v undef h2]; exact h⟩
      case defer d =>
        refine ⟨(hy.of_same rfl rfl (fun _ => rfl) : YHIn P ops S oi v { a with defers := d :: a.defers }) |> fun q => keep _ q _, ?_⟩
        rw [← Act.put_comm _ v undef h2, ← Act.put_defers]
        exact h
      case enter f args =>
        refine ⟨h.1, CallsIn.mono h.2 fun e w'' he => ?_⟩
        cases e with
        | returned u => exact ⟨keep a hy u, by rw [← Act.put_comm a v u h2]; exact he⟩
        | panicked c => exact hQ _ _ _ he
        | outgrown => exact he
      case row row args => exact ⟨h.1, RowsIn.mono h.2 fun u w'' he => ⟨keep a hy u, by rw [← Act.put_comm a v u h2]; exact he⟩⟩
      case round l f tmps assign body =>
        refine ⟨h.1, RoundIn.mono h.2 fun e w'' he => ?_⟩
        cases e with
        | returned u => exact ⟨keep a hy u, by rw [← Act.put_comm a v u h2]; exact he⟩
        | panicked c => exact hQ _ _ _ he
        | outgrown => exact he
    | halt x w' =>
      cases x <;> simp only [Oper.uponIn] at h ⊢
      case panic u => exact hQ _ _ _ h
  · rename_i hw
    simp only [hw] at h
    exact ⟨h.1, keep a hy _, by rw [← Act.put_comm a v undef h2]; exact h.2⟩

/-- Operation j waits for every other one. -/
def lastB (md : Region.Mode) (ops : Array Oper) (j : Nat) : Bool := (List.range ops.size).all fun k => k == j || match ops[j]? with | some oj => oj.after.any (fun e => Region.binds md e && e.on == k) | none => false
def noDefer (ops : Array Oper) : Bool := ops.toList.all fun o => match o.op with | .defer _ => false | _ => true
theorem noDefer_spec {j : Nat} {o : Oper} (h : noDefer ops = true) (ho : ops[j]? = some o) : ∀ c, o.op ≠ .defer c := fun c e => by
  unfold noDefer at h
  rw [List.all_eq_true] at h
  have := h o (by rw [Array.mem_toList_iff]; exact Array.mem_of_getElem? ho)
  rw [e] at this
  cases this

def wpAnyHIn (F : Fence) (n : Nat) (P : Program) (md : Region.Mode) (ops : Array Oper) (Q : Exit → Act → World → Prop) (S : World → Prop) : Nat → Array Bool → Act → World → Prop
  | 0, listed, a, w => Region.ready md ops listed = [] ∧ Q .normal a w
  | fuel + 1, listed, a, w =>
    (Region.ready md ops listed = [] → Q .normal a w) ∧
    ∀ i ∈ Region.ready md ops listed, wpOpIn F n P ops Q i (fun a' w' => (S w' ∧ wpAnyHIn F n P md ops Q S fuel (listed.setIfInBounds i true) a' w') ∨ (lastB md ops i = true ∧ Region.ready md ops (listed.setIfInBounds i true) = [] ∧ Q .normal a' w')) a w

theorem wpAnyIn_of_held : ∀ (fuel : Nat) (listed : Array Bool) (a : Act) (w : World), wpAnyHIn F n P md ops Q S fuel listed a w → wpAnyIn F n P md ops Q fuel listed a w
  | 0, _, _, _, h => h
  | fuel + 1, _, _, _, h => ⟨h.1, fun i hi => wpOpIn_mono (fun a' w' h' => by
      rcases h' with h' | h'
      · exact wpAnyIn_of_held fuel _ a' w' h'.2
      · exact wpAnyIn_done h'.2.1 h'.2.2 fuel) (h.2 i hi)⟩

theorem wpAnyHIn_first {i : Nat} {oi : Oper} {v : Value} (hnd : noDefer ops = true) (hi : ops[i]? = some oi) (hsel : ∀ (j : Nat) (o : Oper) cs b, ops[j]? = some o → o.op ≠ .select cs b)
    (hQ : ∀ c a w, Q (.panic c) (a.put oi.dst v) w → Q (.panic c) a w) :
    ∀ (fuel : Nat) (listed : Array Bool) (a : Act) (w : World),
      (∀ j oj, ops[j]? = some oj → j ≠ i → listed.getD j true = false → (∀ e ∈ oj.after, Region.binds md e = true → e.on ≠ i) → oi.apart ops oj = true) →
      i ∈ Region.ready md ops listed → YHIn P ops S oi v a → S w →
      wpAnyHIn F n P md ops Q S fuel (listed.setIfInBounds i true) (a.put oi.dst v) w → wpAnyHIn F n P md ops Q S (fuel + 1) listed a w := by
  intro fuel
  have hil : i < ops.size := (Array.getElem?_eq_some_iff.1 hi).1
  induction fuel with
  | zero =>
    intro listed a w _ hr hy hS H
    refine ⟨fun h => (by rw [h] at hr; cases hr), fun j hj => ?_⟩
    by_cases hji : j = i
    · subst hji; exact hy.wpOpIn hi (noDefer_spec hnd hi) hS (.inl ⟨hS, H⟩)
    · have := ready_mono hj hji
      rw [H.1] at this
      cases this
  | succ fuel ih =>
    intro listed a w hfree hr hy hS H
    refine ⟨fun h => (by rw [h] at hr; cases hr), fun j hj => ?_⟩
    by_cases hji : j = i
    · subst hji; exact hy.wpOpIn hi (noDefer_spec hnd hi) hS (.inl ⟨hS, H⟩)
    · have h1 := H.2 j (ready_mono hj hji)
      obtain ⟨hjun, oj, hoj, hall⟩ := mem_ready.1 hj
      have hnot : ∀ e ∈ oj.after, Region.binds md e = true → e.on ≠ i := fun e he hb heq => by
        have h1 := hall e he hb
        have h0 := (mem_ready.1 hr).1
        rw [heq] at h1
        rcases Nat.lt_or_ge i listed.size with h' | h'
        · simp [h'] at h0 h1; rw [h0] at h1; cases h1
        · simp [Array.getElem?_eq_none h'] at h1
      have h2 := wpOpIn_putH hoj (noDefer_spec hnd hoj) (hfree j oj hoj hji hjun hnot) (fun cs b => hsel i oi cs b hi) (fun cs b => hsel j oj cs b hoj) hQ hy h1
      have hfree' : ∀ k ok, ops[k]? = some ok → k ≠ i → (listed.setIfInBounds j true).getD k true = false →
          (∀ e ∈ ok.after, Region.binds md e = true → e.on ≠ i) → oi.apart ops ok = true := fun k ok hk hki hun hno => by
        refine hfree k ok hk hki ?_ hno
        by_cases hjk : j = k
        · subst hjk; exact hjun
        · rw [getD_set_ne true hjk] at hun; exact hun
      refine wpOpIn_mono (fun a' w' h3 => ?_) h2
      rcases h3.2 with h4 | h4
      · refine .inl ⟨h4.1, ih (listed.setIfInBounds j true) a' w' hfree' (ready_mono hr (Ne.symm hji)) h3.1 h4.1 ?_⟩
        rw [Array.setIfInBounds_comm _ _ hji]
        exact h4.2
      · exfalso
        have hl := h4.1
        unfold lastB at hl
        rw [List.all_eq_true] at hl
        have hx := hl i (List.mem_range.2 hil)
        rw [hoj] at hx
        simp only [Bool.or_eq_true, beq_iff_eq] at hx
        rcases hx with hx | hx
        · exact hji hx.symm
        · rw [Array.any_eq_true] at hx
          obtain ⟨m, hm, he⟩ := hx
          simp only [Bool.and_eq_true, beq_iff_eq] at he
          exact hnot _ (Array.getElem_mem hm) he.1 he.2

theorem wpAnyHIn_take {i : Nat} {oi : Oper} {v : Value} {fuel : Nat} {listed : Array Bool} {a : Act} {w : World} (hi : ops[i]? = some oi)
    (hnd : noDefer ops = true) (hs : Region.noSelect ops = true) (hf : Region.free md ops listed i = true) (hr : (Region.ready md ops listed).contains i = true)
    (hQ : ∀ c a w, Q (.panic c) (a.put oi.dst v) w → Q (.panic c) a w) (hy : YHIn P ops S oi v a) (hS : S w)
    (h : wpAnyHIn F n P md ops Q S fuel (listed.setIfInBounds i true) (a.put oi.dst v) w) : wpAnyHIn F n P md ops Q S (fuel + 1) listed a w :=
  wpAnyHIn_first hnd hi (Region.noSelect_spec hs) hQ fuel listed a w (Region.free_spec hi hf) (by simpa using hr) hy hS h

/-- One operation alone may come up. -/
theorem wpAnyHIn_one {i : Nat} {o : Oper} {fuel : Nat} {listed : Array Bool} {a : Act} {w : World} (hr : Region.ready md ops listed = [i]) (ho : ops[i]? = some o)
    (h : ∀ K' : Act → World → Prop, (∀ a w, S w → wpAnyHIn F n P md ops Q S fuel (listed.setIfInBounds i true) a w → K' a w) → if Region.wanted o (yielded ops a.tmps) = true then Oper.wpIn F n P o a w K' Q else (∀ f, o.about P w a.eval = some f → F.fn f) ∧ K' (a.put o.dst undef) w) :
    wpAnyHIn F n P md ops Q S (fuel + 1) listed a w :=
  ⟨fun h0 => (by rw [hr] at h0; cases h0), fun j hj => by
    rw [hr] at hj
    obtain rfl : j = i := by simpa using hj
    exact wpOpIn_step ho fun K' hK => h K' fun a w hS hw => hK a w (.inl ⟨hS, hw⟩)⟩
/-- The last one: S is not asked behind it. -/
theorem wpAnyHIn_end {i : Nat} {o : Oper} {fuel : Nat} {listed : Array Bool} {a : Act} {w : World} (hr : Region.ready md ops listed = [i]) (ho : ops[i]? = some o) (hl : lastB md ops i = true) (he : Region.ready md ops (listed.setIfInBounds i true) = [])
    (h : ∀ K' : Act → World → Prop, (∀ a w, Q .normal a w → K' a w) → if Region.wanted o (yielded ops a.tmps) = true then Oper.wpIn F n P o a w K' Q else (∀ f, o.about P w a.eval = some f → F.fn f) ∧ K' (a.put o.dst undef) w) :
    wpAnyHIn F n P md ops Q S (fuel + 1) listed a w :=
  ⟨fun h0 => (by rw [hr] at h0; cases h0), fun j hj => by
    rw [hr] at hj
    obtain rfl : j = i := by simpa using hj
    exact wpOpIn_step ho fun K' hK => h K' fun a w hq => hK a w (.inr ⟨hl, he, hq⟩)⟩
theorem wpAnyHIn_done {listed : Array Bool} {a : Act} {w : World} (hr : Region.ready md ops listed = []) (h : Q .normal a w) : ∀ fuel, wpAnyHIn F n P md ops Q S fuel listed a w
  | 0 => ⟨hr, h⟩
  | _ + 1 => ⟨fun _ => h, by rw [hr]; simp⟩

theorem wpIn_region_heldI {id : Nat} {a : Act} {w : World} (S : World → Prop) (hm : P.follows .mixedOrders = true)
    (h : wpAnyHIn F n P .any ops Q S ops.size (Array.replicate ops.size false) a { w with drawn := w.drawn + 1 }) : (Code.region id ops true).wpIn F n P Q a w :=
  wpIn_region_any hm (wpAnyIn_of_held _ _ _ _ h)
end
end Go.Proofs.Ytfdkmmllemkogaa
