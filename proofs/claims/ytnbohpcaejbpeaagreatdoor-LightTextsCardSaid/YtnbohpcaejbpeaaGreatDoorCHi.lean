/-
  A region that draws its order, inside a fence and inside a round: an operation that yields its value in every world of which S holds may be taken first; S is shown anew behind each other one, but not behind the last.
-/
import Derived.OrdersHeld
import Derived.OrdersIn
import Derived.AtR
import Derived.Shelf.Strings.BuilderK
import Derived.Test.YtnbohpcaejbpeaaGreatDoorCWx
namespace Go.Proofs.YtnbohpcaejbpeaaGreatDoor
open Go

section
variable {F : Fence} {n : Nat} {P : Program} {ops : Array Oper} {Q : Exit → Act → World → Prop} {md : Region.Mode} {S : World → Prop}

def YHIn (P : Program) (ops : Array Oper) (S : World → Prop) (o : Oper) (v : Value) (a : Act) : Prop := YieldsIf P ops S o v a ∧ ∀ w, o.about P w a.eval = none

theorem YHIn.wpOpIn {i : Nat} {o : Oper} {v : Value} {a : Act} (hi : ops[i]? = some o) (hd : ∀ c, o.op ≠ .defer c) (hy : YHIn P ops S o v a)
    {K : Act → World → Prop} {w : World} (hS : S w) (h : K (a.put o.dst v) w) : Go.wpOpIn F n P ops Q i K a w := by
  unfold Go.wpOpIn
  simp only [hi]
  have hab : ∀ f, o.about P w a.eval = some f → F.fn f := fun f hf => by rw [hy.2 w] at hf; cases hf
  rcases hy.1 with ⟨hw, hv⟩ | ⟨hw, rfl⟩
  · simp only [hw, if_true, Oper.wpIn, Oper.semAt_eq _ _ _ hd, hv w hS, Oper.uponIn]; exact ⟨hab, h⟩
  · simp only [hw, Bool.false_eq_true, if_false]; exact ⟨hab, h⟩

theorem YHIn.of_same {o : Oper} {v : Value} {a a' : Act} (hy : YHIn P ops S o v a) (he : execOp a'.eval o = execOp a.eval o)
    (hw : Region.wanted o (yielded ops a'.tmps) = Region.wanted o (yielded ops a.tmps)) (hb : ∀ w, o.about P w a'.eval = o.about P w a.eval) : YHIn P ops S o v a' :=
  ⟨hy.1.of_same he hw, fun w => by rw [hb w]; exact hy.2 w⟩

theorem wpOpIn_putH {j : Nat} {oi oj : Oper} {v : Value} (hj : ops[j]? = some oj) (hdj : ∀ c, oj.op ≠ .defer c) (hap : oi.apart ops oj = true)
    (hsi : ∀ cs b, oi.op ≠ .select cs b) (hsj : ∀ cs b, oj.op ≠ .select cs b)
    (hQ : ∀ c a w, Q (.panic c) (a.put oi.dst v) w → Q (.panic c) a w) {K : Act → World → Prop} {a : Act} {w : World}
    (hy : YHIn P ops S oi v a) (h : Go.wpOpIn F n P ops Q j K (a.put oi.dst v) w) :
    Go.wpOpIn F n P ops Q j (fun a' w' => YHIn P ops S oi v a' ∧ K (a'.put oi.dst v) w') a w := by
  obtain ⟨h1, h2, h3⟩ := Oper.apart_spec hap
  have keep : ∀ (a : Act), YHIn P ops S oi v a → ∀ u, YHIn P ops S oi v (a.put oj.dst u) := fun a hy u =>
    hy.of_same (execOp_put oi hsi a oj.dst u h3) (wanted_put oi a oj.dst u h3) (fun w => about_put oi w a oj.dst u h3)
  unfold Go.wpOpIn at *
  simp only [hj] at *
  rw [wanted_put oj a oi.dst v h1, about_put oj w a oi.dst v h1] at h
  split
  · rename_i hw
    simp only [hw, if_true] at h
    unfold Oper.wpIn at *
    rw [about_put oj w a oi.dst v h1] at h
    refine ⟨h.1, ?_⟩
    have h := h.2
    rw [Oper.semAt_eq _ _ _ hdj, execOp_put oj hsj a oi.dst v h1] at h
    rw [Oper.semAt_eq _ _ _ hdj]
    generalize (execOp a.eval oj).run P w = r at *
    cases r with
    | ok x w' =>
      cases x <;> simp only [Oper.uponIn] at h ⊢
      case value u => exact ⟨keep a hy u, by rw [← Act.put_comm a v u h2]; exact h⟩
      case skip => exact ⟨keep a hy _, by rw [← Act.put_comm a v undef h2]; exact h⟩
      case defer d =>
        refine ⟨(hy.of_same rfl rfl (fun _ => rfl) : YHIn P ops S oi v { a with defers := d :: a.defers }) |> fun q => keep _ q _, ?_⟩
        rw [← Act.put_comm _ v undef h2, ← Act.put_defers]
        exact h
      case enter f args =>
        refine ⟨h.1, CallsIn.mono h.2 fun e w'' he => ?_⟩
        cases e with
        | returned u => exact ⟨keep a hy u, by rw [← Act.put_comm a v u h2]; exact he⟩
        | panicked c => exact hQ _ _ _ he
        | outgrown => exact he
      case row row args => exact ⟨h.1, RowsIn.mono h.2 fun u w'' he => ⟨keep a hy u, by rw [← Act.put_comm a v u h2]; exact he⟩⟩
      case round l f tmps assign body =>
        refine ⟨h.1, RoundIn.mono h.2 fun e w'' he => ?_⟩
        cases e with
        | returned u => exact ⟨keep a hy u, by rw [← Act.put_comm a v u h2]; exact he⟩
        | panicked c => exact hQ _ _ _ he
        | outgrown => exact he
    | halt x w' =>
      cases x <;> simp only [Oper.uponIn] at h ⊢
      case panic u => exact hQ _ _ _ h
  · rename_i hw
    simp only [hw] at h
    exact ⟨h.1, keep a hy _, by rw [← Act.put_comm a v undef h2]; exact h.2⟩

/-- Operation j waits for every other one. -/
def lastB (md : Region.Mode) (ops : Array Oper) (j : Nat) : Bool := (List.range ops.size).all fun k => k == j || match ops[j]? with | some oj => oj.after.any (fun e => Region.binds md e && e.on == k) | none => false
def noDefer (ops : Array Oper) : Bool := ops.toList.all fun o => match o.op with | .defer _ => false | _ => true
theorem noDefer_spec {j : Nat} {o : Oper} (h : noDefer ops = true) (ho : ops[j]? = some o) : ∀ c, o.op ≠ .defer c := fun c e => by
  unfold noDefer at h
  rw [List.all_eq_true] at h
  have := h o (by rw [Array.mem_toList_iff]; exact Array.mem_of_getElem? ho)
  rw [e] at this
  cases this

def wpAnyHIn (F : Fence) (n : Nat) (P : Program) (md : Region.Mode) (ops : Array Oper) (Q : Exit → Act → World → Prop) (S : World → Prop) : Nat → Array Bool → Act → World → Prop
  | 0, listed, a, w => Region.ready md ops listed = [] ∧ Q .normal a w
  | fuel + 1, listed, a, w =>
    (Region.ready md ops listed = [] → Q .normal a w) ∧
    ∀ i ∈ Region.ready md ops listed, wpOpIn F n P ops Q i (fun a' w' => (S w' ∧ wpAnyHIn F n P md ops Q S fuel (listed.setIfInBounds i true) a' w') ∨ (lastB md ops i = true ∧ Region.ready md ops (listed.setIfInBounds i true) = [] ∧ Q .normal a' w')) a w

theorem wpAnyIn_of_held : ∀ (fuel : Nat) (listed : Array Bool) (a : Act) (w : World), wpAnyHIn F n P md ops Q S fuel listed a w → wpAnyIn F n P md ops Q fuel listed a w
  | 0, _, _, _, h => h
  | fuel + 1, _, _, _, h => ⟨h.1, fun i hi => wpOpIn_mono (fun a' w' h' => by
      rcases h' with h' | h'
      · exact wpAnyIn_of_held fuel _ a' w' h'.2
      · exact wpAnyIn_done h'.2.1 h'.2.2 fuel) (h.2 i hi)⟩

theorem wpAnyHIn_first {i : Nat} {oi : Oper} {v : Value} (hnd : noDefer ops = true) (hi : ops[i]? = some oi) (hsel : ∀ (j : Nat) (o : Oper) cs b, ops[j]? = some o → o.op ≠ .select cs b)
    (hQ : ∀ c a w, Q (.panic c) (a.put oi.dst v) w → Q (.panic c) a w) :
    ∀ (fuel : Nat) (listed : Array Bool) (a : Act) (w : World),
      (∀ j oj, ops[j]? = some oj → j ≠ i → listed.getD j true = false → (∀ e ∈ oj.after, Region.binds md e = true → e.on ≠ i) → oi.apart ops oj = true) →
      i ∈ Region.ready md ops listed → YHIn P ops S oi v a → S w →
      wpAnyHIn F n P md ops Q S fuel (listed.setIfInBounds i true) (a.put oi.dst v) w → wpAnyHIn F n P md ops Q S (fuel + 1) listed a w := by
  intro fuel
  have hil : i < ops.size := (Array.getElem?_eq_some_iff.1 hi).1
  induction fuel with
  | zero =>
    intro listed a w _ hr hy hS H
    refine ⟨fun h => (by rw [h] at hr; cases hr), fun j hj => ?_⟩
    by_cases hji : j = i
    · subst hji; exact hy.wpOpIn hi (noDefer_spec hnd hi) hS (.inl ⟨hS, H⟩)
    · have := ready_mono hj hji
      rw [H.1] at this
      cases this
  | succ fuel ih =>
    intro listed a w hfree hr hy hS H
    refine ⟨fun h => (by rw [h] at hr; cases hr), fun j hj => ?_⟩
    by_cases hji : j = i
    · subst hji; exact hy.wpOpIn hi (noDefer_spec hnd hi) hS (.inl ⟨hS, H⟩)
    · have h1 := H.2 j (ready_mono hj hji)
      obtain ⟨hjun, oj, hoj, hall⟩ := mem_ready.1 hj
      have hnot : ∀ e ∈ oj.after, Region.binds md e = true → e.on ≠ i := fun e he hb heq => by
        have h1 := hall e he hb
        have h0 := (mem_ready.1 hr).1
        rw [heq] at h1
        rcases Nat.lt_or_ge i listed.size with h' | h'
        · simp [h'] at h0 h1; rw [h0] at h1; cases h1
        · simp [Array.getElem?_eq_none h'] at h1
      have h2 := wpOpIn_putH hoj (noDefer_spec hnd hoj) (hfree j oj hoj hji hjun hnot) (fun cs b => hsel i oi cs b hi) (fun cs b => hsel j oj cs b hoj) hQ hy h1
      have hfree' : ∀ k ok, ops[k]? = some ok → k ≠ i → (listed.setIfInBounds j true).getD k true = false →
          (∀ e ∈ ok.after, Region.binds md e = true → e.on ≠ i) → oi.apart ops ok = true := fun k ok hk hki hun hno => by
        refine hfree k ok hk hki ?_ hno
        by_cases hjk : j = k
        · subst hjk; exact hjun
        · rw [getD_set_ne true hjk] at hun; exact hun
      refine wpOpIn_mono (fun a' w' h3 => ?_) h2
      rcases h3.2 with h4 | h4
      · refine .inl ⟨h4.1, ih (listed.setIfInBounds j true) a' w' hfree' (ready_mono hr (Ne.symm hji)) h3.1 h4.1 ?_⟩
        rw [Array.setIfInBounds_comm _ _ hji]
        exact h4.2
      · exfalso
        have hl := h4.1
        unfold lastB at hl
        rw [List.all_eq_true] at hl
        have hx := hl i (List.mem_range.2 hil)
        rw [hoj] at hx
        simp only [Bool.or_eq_true, beq_iff_eq] at hx
        rcases hx with hx | hx
        · exact hji hx.symm
        · rw [Array.any_eq_true] at hx
          obtain ⟨m, hm, he⟩ := hx
          simp only [Bool.and_eq_true, beq_iff_eq] at he
          exact hnot _ (Array.getElem_mem hm) he.1 he.2

theorem wpAnyHIn_take {i : Nat} {oi : Oper} {v : Value} {fuel : Nat} {listed : Array Bool} {a : Act} {w : World} (hi : ops[i]? = some oi)
    (hnd : noDefer ops = true) (hs : Region.noSelect ops = true) (hf : Region.free md ops listed i = true) (hr : (Region.ready md ops listed).contains i = true)
    (hQ : ∀ c a w, Q (.panic c) (a.put oi.dst v) w → Q (.panic c) a w) (hy : YHIn P ops S oi v a) (hS : S w)
    (h : wpAnyHIn F n P md ops Q S fuel (listed.setIfInBounds i true) (a.put oi.dst v) w) : wpAnyHIn F n P md ops Q S (fuel + 1) listed a w :=
  wpAnyHIn_first hnd hi (Region.noSelect_spec hs) hQ fuel listed a w (Region.free_spec hi hf) (by simpa using hr) hy hS h

/-- One operation alone may come up. -/
theorem wpAnyHIn_one {i : Nat} {o : Oper} {fuel : Nat} {listed : Array Bool} {a : Act} {w : World} (hr : Region.ready md ops listed = [i]) (ho : ops[i]? = some o)
    (h : ∀ K' : Act → World → Prop, (∀ a w, S w → wpAnyHIn F n P md ops Q S fuel (listed.setIfInBounds i true) a w → K' a w) → if Region.wanted o (yielded ops a.tmps) = true then Oper.wpIn F n P o a w K' Q else (∀ f, o.about P w a.eval = some f → F.fn f) ∧ K' (a.put o.dst undef) w) :
    wpAnyHIn F n P md ops Q S (fuel + 1) listed a w :=
  ⟨fun h0 => (by rw [hr] at h0; cases h0), fun j hj => by
    rw [hr] at hj
    obtain rfl : j = i := by simpa using hj
    exact wpOpIn_step ho fun K' hK => h K' fun a w hS hw => hK a w (.inl ⟨hS, hw⟩)⟩
/-- The last one: S is not asked behind it. -/
theorem wpAnyHIn_end {i : Nat} {o : Oper} {fuel : Nat} {listed : Array Bool} {a : Act} {w : World} (hr : Region.ready md ops listed = [i]) (ho : ops[i]? = some o) (hl : lastB md ops i = true) (he : Region.ready md ops (listed.setIfInBounds i true) = [])
    (h : ∀ K' : Act → World → Prop, (∀ a w, Q .normal a w → K' a w) → if Region.wanted o (yielded ops a.tmps) = true then Oper.wpIn F n P o a w K' Q else (∀ f, o.about P w a.eval = some f → F.fn f) ∧ K' (a.put o.dst undef) w) :
    wpAnyHIn F n P md ops Q S (fuel + 1) listed a w :=
  ⟨fun h0 => (by rw [hr] at h0; cases h0), fun j hj => by
    rw [hr] at hj
    obtain rfl : j = i := by simpa using hj
    exact wpOpIn_step ho fun K' hK => h K' fun a w hq => hK a w (.inr ⟨hl, he, hq⟩)⟩
theorem wpAnyHIn_done {listed : Array Bool} {a : Act} {w : World} (hr : Region.ready md ops listed = []) (h : Q .normal a w) : ∀ fuel, wpAnyHIn F n P md ops Q S fuel listed a w
  | 0 => ⟨hr, h⟩
  | _ + 1 => ⟨fun _ => h, by rw [hr]; simp⟩

theorem wpIn_region_heldI {id : Nat} {a : Act} {w : World} (S : World → Prop) (hm : P.follows .mixedOrders = true)
    (h : wpAnyHIn F n P .any ops Q S ops.size (Array.replicate ops.size false) a { w with drawn := w.drawn + 1 }) : (Code.region id ops true).wpIn F n P Q a w :=
  wpIn_region_any hm (wpAnyIn_of_held _ _ _ _ h)
end
end Go.Proofs.YtnbohpcaejbpeaaGreatDoor

/-
  The text builder between two writes, and the iterator over the chunks of a slice: contracts.
-/
namespace Go.Proofs.YtnbohpcaejbpeaaGreatDoor
open Go.RowKit Go.Shelf
set_option linter.unusedVariables false
set_option linter.unusedSimpArgs false
attribute [local go_sem] Oper.semAt_some

/-! ### The builder -/

abbrev Bld (B b : Nat) (p : Value) (l : List UInt8) (w : World) : Prop := Lib.BuilderAtF 92 5 B b p (Lib.byteCells l) w
abbrev Oth (b : Nat) (w w' : World) : Prop := Lib.OthersKept 5 (some b) w w'

theorem bld_write (B b : Nat) (l s : List UInt8) (w : World) (h : Lib.IsBuilderF 92 5 B b (Lib.byteCells l) w) (hlen : l.length + s.length ≤ 140737488355328) (hBw : B ≤ w.heap.size) :
    Calls Tryz.prog 40 #[.pointer (some ⟨b, 0, none⟩), .string ⟨s.toArray⟩] w fun e w' => e = .returned (.tuple #[.int .i64 s.length, .nilIface]) ∧ Bld B b (.pointer (some ⟨b, 0, none⟩)) (l ++ s) w' ∧ Below B w w' ∧ Oth b w w' :=
  (Any.Builder_WriteString_k (P := Tryz.prog) (ρ := Tryz.lays156_ren) { Tryz.lays156 with } Tryz.Builder_Extra_156 B b (Lib.byteCells l) ⟨s.toArray⟩ w h (by rw [Lib.byteCells_length]; exact hlen) hBw).mono fun e w' ⟨he, h1, h2, h3⟩ =>
    ⟨he, by
      have e1 : Lib.byteCells (l ++ s) = Lib.byteCells l ++ Lib.strCells ⟨s.toArray⟩ := by simp [Lib.byteCells, Lib.strCells]
      show Lib.BuilderAtF _ _ _ _ _ (Lib.byteCells (l ++ s)) w'
      rw [e1]; exact h1, h2, h3⟩
theorem bld_string (B b : Nat) (l : List UInt8) (w : World) (h : Lib.IsBuilderF 92 5 B b (Lib.byteCells l) w) (hBw : B ≤ w.heap.size) :
    Calls Tryz.prog 44 #[.pointer (some ⟨b, 0, none⟩)] w fun e w' => e = .returned (strV l) ∧ Below B w w' ∧ Oth b w w' :=
  (Any.Builder_String_any_k Tryz.lays169 Tryz.Builder_Extra_169 B b l w h hBw).mono fun e w' ⟨he, h1, h2, h3⟩ => ⟨he, h2, h3⟩
theorem bld_kept {B b N : Nat} {p : Value} {l : List UInt8} {w w' : World} (h : Bld B b p l w) (hb : Below N w w') (hN : w.heap.size ≤ N) : Bld B b p l w' := by
  have hlt := h.lt
  obtain ⟨hB, v, hbk, hown, hne⟩ := h
  refine ⟨hB, v, (hb.block _ (by omega)).trans hbk, ⟨hown.1, ?_⟩, hne⟩
  rcases hown.2 with h | ⟨g, cap, cur, fz, h1, h2, h3, h4⟩
  · exact .inl h
  · exact .inr ⟨g, cap, cur, fz, h1, h2, (hb.block _ (by have := (Array.getElem?_eq_some_iff.1 h3).1; omega)).trans h3, h4⟩
theorem bld_own {β : Type} (B b : Nat) (p : Value) (f : β → List UInt8) : Own (fun (s : β) W => Bld B b p (f s) W) := by
  rintro s X Y row h hg hr
  obtain ⟨hB, v, hbk, hown, hne⟩ := h
  have key : ∀ (k : Nat) (cs : Array Value) (t : TypeId) (fz : Nat × Nat), X.heap[k]? = some (Obj.cells cs t fz) → Y.heap[k]? = some (Obj.cells cs t fz) := fun k cs t fz hk =>
    (hg.block k (Array.getElem?_eq_some_iff.1 hk).1 (fun e => by obtain ⟨o, ho, hc⟩ := hr k e.symm; rw [hk] at ho; cases ho; cases hc)).trans hk
  refine ⟨hB, v, key _ _ _ _ hbk, ⟨hown.1, ?_⟩, hne⟩
  rcases hown.2 with h | ⟨g, cap, cur, fz, h1, h2, h3, h4⟩
  · exact .inl h
  · exact .inr ⟨g, cap, cur, fz, h1, h2, key _ _ _ _ h3, h4⟩
theorem oth_keeps {b : Nat} {w w' : World} (h : Oth b w w') (hsz : w.heap.size ≤ w'.heap.size) (hb : ∃ cs t fz, w.heap[b]? = some (.cells cs t fz)) : KeepsOthers w w' := by
  obtain ⟨cs, t, fz, hb⟩ := hb
  refine ⟨hsz, fun k o hk ho => ?_⟩
  refine h k o hk (fun e => ?_) (fun c fz' e => by rw [e] at ho; cases ho)
  rw [Option.some.inj e, hb] at hk
  cases hk
  cases ho
theorem oth_row {b B : Nat} {w w' : World} (h : Oth b w w') {cs : Array Value} {t : TypeId} {fz : Nat × Nat} (hB : w.heap[B]? = some (.cells cs t fz)) (hne : B ≠ b) (ht : t ≠ 5) : w'.heap[B]? = some (.cells cs t fz) :=
  h B _ hB (fun e => hne (Option.some.inj e)) (fun c fz' e => by cases e; exact ht rfl)

/-! ### The chunks -/

/-- The index of a chunk. -/
abbrev Ch (H : Nat) := { y : Nat // y < H }
abbrev encC (ga W : Nat) {H : Nat} (y : Ch H) : Array Value := #[.slice (some ⟨ga, y.1 * W, none⟩) W W]
/-- What a round must keep: the two boxes of the iterator. -/
def KeepsTwo (Bs Bn : Nat) (v : Value) (W : Nat) (A B : World) : Prop :=
  A.cell? ⟨Bs, 0, none⟩ = some v ∧ A.cell? ⟨Bn, 0, none⟩ = some (.int .i64 (W : Nat)) → B.cell? ⟨Bs, 0, none⟩ = some v ∧ B.cell? ⟨Bn, 0, none⟩ = some (.int .i64 (W : Nat))
theorem KeepsTwo.t {Bs Bn W : Nat} {v : Value} {A B C : World} (h : KeepsTwo Bs Bn v W A B) (k : KeepsTwo Bs Bn v W B C) : KeepsTwo Bs Bn v W A C := fun x => k (h x)
theorem KeepsTwo.b {Bs Bn W N : Nat} {v : Value} (A : World) (l : Nat) (o o' : Obj) (_ : N ≤ l) (hl : A.heap[l]? = some o) (ho : o.isCells = false) (_ : o.isWalk = false) : KeepsTwo Bs Bn v W A (A.putObj l o') := fun x =>
  ⟨cell_kept x.1 (grownBy_putObj' A l o') (fun r e => by cases e; exact ⟨o, hl, ho⟩), cell_kept x.2 (grownBy_putObj' A l o') (fun r e => by cases e; exact ⟨o, hl, ho⟩)⟩

set_option maxRecDepth 100000 in
set_option maxHeartbeats 3200000 in
theorem chunk1_in (F : Fence) (k : Nat) (h6 : F.fn 103) (hro : F.round = none) (hk : 1 ≤ k) (l Bs Bn ga W H n : Nat) (hW1 : 1 ≤ W) (hN : H * W = n) (hn : n ≤ 4096) (J Jx : List (Ch H) → World → Prop)
    (hY : ∀ pre x W1, J pre W1 → pre.length < H → YieldAt F (k - 1) Tryz.prog l (encC ga W x) W1 fun e W' =>
      (e = .returned (.bool true) ∧ J (pre ++ [x]) W' ∧ KeepsTwo Bs Bn (.slice (some ⟨ga, 0, none⟩) n n) W W1 W') ∨ (e = .returned (.bool false) ∧ Jx (pre ++ [x]) W'))
    (hD : ∀ pre W1, J pre W1 → J pre W1.drew)
    (w : World) (hcS : w.cell? ⟨Bs, 0, none⟩ = some (.slice (some ⟨ga, 0, none⟩) n n)) (hcN : w.cell? ⟨Bn, 0, none⟩ = some (.int .i64 W)) (h0 : J [] w) :
    CallsIn F k Tryz.prog 103 #[.func (.yield l) #[] #[], .pointer (some ⟨Bs, 0, none⟩), .pointer (some ⟨Bn, 0, none⟩)] w fun e W' => (∃ v, e = .returned v) ∧
      ((∃ ys : List (Ch H), ys.map Subtype.val = List.range H ∧ J ys W') ∨ (∃ pre, True ∧ Jx pre W')) := by
  have HY := Lib.hid hY
  have HN := Lib.hid hN
  have HD := Lib.hid hD
  clear hY hN hD
  refine callsIn_of_wp Tryz.func103 rfl h6 ?_ hro
  simp only [Tryz.ntmps103, List.size_toArray, List.length_cons, List.length_nil, Nat.reduceAdd, Nat.reduceSub, Array.replicate_succ, Array.replicate_zero, List.push_toArray, List.append_toArray, List.nil_append, List.cons_append]
  gi_wp2
  gi_loopw [4] (fun iv wr => ∃ y m : Nat, y ≤ H ∧ y * W = m ∧ iv = .int .i64 m ∧ wr.cell? ⟨Bs, 0, none⟩ = some (.slice (some ⟨ga, 0, none⟩) n n) ∧ wr.cell? ⟨Bn, 0, none⟩ = some (.int .i64 W) ∧ ∃ ps : List (Ch H), ps.map Subtype.val = List.range y ∧ J ps wr)
    (fun iv _ => n - (intOf iv).toNat)
  case atStart => exact ⟨0, 0, Nat.zero_le _, by simp, rfl, hcS, hcN, [], rfl, h0⟩
  case round =>
    obtain ⟨y, m, hy, hm, rfl, hcs, hcn, ps, hps, hJ⟩ := hrel
    have HM := Lib.hid hm
    have HPS := Lib.hid hps
    clear hm hps hcS hcN h0
    by_cases hlt : y < H
    · have hmw : m + W ≤ n := by
        rw [← HM.out, ← HN.out]
        have := Nat.mul_le_mul_right W (show y + 1 ≤ H by omega)
        rw [Nat.add_mul] at this; omega
      have i1 : (m : Int) < (n : Int) := by omega
      have j1 : m ≤ n := by omega
      have j2 : ¬ (n = m) := by omega
      obtain ⟨q, hq⟩ : ∃ q, n - m = q := ⟨_, rfl⟩
      have j3 : (W : Int) ≤ (q : Int) := by omega
      have j4 : ¬ ((q : Int) < (W : Int)) := by omega
      gi_wp2_with fail
      have hmix : Tryz.prog.follows Departure.mixedOrders = true := by kernel_rfl
      obtain ⟨S, hSdef⟩ : ∃ S : World → Prop, S = fun w' => w'.cell? ⟨Bs, 0, none⟩ = some (.slice (some ⟨ga, 0, none⟩) n n) ∧ w'.cell? ⟨Bn, 0, none⟩ = some (.int .i64 W) := ⟨_, rfl⟩
      have hS : S wr.drew := by rw [hSdef]; exact ⟨hcs, hcn⟩
      refine wpIn_region_heldI S hmix ?_
      change wpAnyHIn _ _ _ _ _ _ _ 7 _ _ wr.drew
      refine wpAnyHIn_take (i := 0) (v := ?_) rfl (by kernel_rfl) (by kernel_rfl) (by kernel_rfl) (by kernel_rfl) (fun _ _ _ h => h) ⟨Or.inl ⟨by rfl, ?_⟩, fun _ => rfl⟩ hS ?_
      rotate_left 1
      · intro Wy hSy
        rw [hSdef] at hSy
        obtain ⟨s0, s1⟩ := hSy
        go_simp
        try with_reducible rfl
      try simp only [Act.put, List.setIfInBounds_toArray, List.set_cons_zero, List.set_cons_succ]
      refine wpAnyHIn_take (i := 1) (v := ?_) rfl (by kernel_rfl) (by kernel_rfl) (by kernel_rfl) (by kernel_rfl) (fun _ _ _ h => h) ⟨Or.inl ⟨by rfl, ?_⟩, fun _ => rfl⟩ hS ?_
      rotate_left 1
      · intro Wy hSy
        rw [hSdef] at hSy
        obtain ⟨s0, s1⟩ := hSy
        go_simp
        try with_reducible rfl
      try simp only [Act.put, List.setIfInBounds_toArray, List.set_cons_zero, List.set_cons_succ]
      refine wpAnyHIn_take (i := 2) (v := ?_) rfl (by kernel_rfl) (by kernel_rfl) (by kernel_rfl) (by kernel_rfl) (fun _ _ _ h => h) ⟨Or.inl ⟨by rfl, ?_⟩, fun _ => rfl⟩ hS ?_
      rotate_left 1
      · intro Wy hSy
        rw [hSdef] at hSy
        obtain ⟨s0, s1⟩ := hSy
        go_simp
        try with_reducible rfl
      try simp only [Act.put, List.setIfInBounds_toArray, List.set_cons_zero, List.set_cons_succ]
      refine wpAnyHIn_take (i := 3) (v := ?_) rfl (by kernel_rfl) (by kernel_rfl) (by kernel_rfl) (by kernel_rfl) (fun _ _ _ h => h) ⟨Or.inl ⟨by rfl, ?_⟩, fun _ => rfl⟩ hS ?_
      rotate_left 1
      · intro Wy hSy
        rw [hSdef] at hSy
        obtain ⟨s0, s1⟩ := hSy
        go_simp
        try with_reducible rfl
      try simp only [Act.put, List.setIfInBounds_toArray, List.set_cons_zero, List.set_cons_succ]
      refine wpAnyHIn_take (i := 4) (v := ?_) rfl (by kernel_rfl) (by kernel_rfl) (by kernel_rfl) (by kernel_rfl) (fun _ _ _ h => h) ⟨Or.inl ⟨by rfl, ?_⟩, fun _ => rfl⟩ hS ?_
      rotate_left 1
      · intro Wy hSy
        rw [hSdef] at hSy
        obtain ⟨s0, s1⟩ := hSy
        go_simp
        try with_reducible rfl
      try simp only [Act.put, List.setIfInBounds_toArray, List.set_cons_zero, List.set_cons_succ]
      refine wpAnyHIn_take (i := 5) (v := ?_) rfl (by kernel_rfl) (by kernel_rfl) (by kernel_rfl) (by kernel_rfl) (fun _ _ _ h => h) ⟨Or.inl ⟨by rfl, ?_⟩, fun _ => rfl⟩ hS ?_
      rotate_left 1
      · intro Wy hSy
        rw [hSdef] at hSy
        obtain ⟨s0, s1⟩ := hSy
        go_simp
        try with_reducible rfl
      try simp only [Act.put, List.setIfInBounds_toArray, List.set_cons_zero, List.set_cons_succ]
      refine wpAnyHIn_end (i := 6) (by kernel_rfl) rfl (by kernel_rfl) (by kernel_rfl) (fun K hK => ?_)
      go_simp
      refine hK _ _ ?_
      clear hK K
      try simp only [Act.put, List.setIfInBounds_toArray, List.set_cons_zero, List.set_cons_succ]
      have j5 : min (W : Int) (q : Int) = (W : Int) := by omega
      rw [j5]
      have hlen : ps.length < H := by
        rw [← List.length_map (f := Subtype.val), HPS.out, List.length_range]; exact hlt
      have hY1 := HY.out ps ⟨y, hlt⟩ wr.drew (HD.out _ _ hJ) hlen
      dsimp only [encC] at hY1
      rw [HM.out] at hY1
      obtain ⟨fn, tmps, assign, body, hy1, hR⟩ := hY1
      have HR := Lib.hid hR
      have i5 : IntKind.i64.wrap ((m : Int) + (W : Int)) = ((m + W : Nat) : Int) := by rw [show (m : Int) + (W : Int) = ((m + W : Nat) : Int) by push_cast; rfl]; exact IntWalk.i64_in _ ⟨by omega, by omega⟩
      obtain ⟨u, hu⟩ : ∃ u, m + W = u := ⟨_, rfl⟩
      rw [hu] at i5
      have j6 : u ≤ n := by omega
      have j7 : m ≤ u := by omega
      have j8 : u - m = W := by omega
      have j9 : ¬ (W = 0) := by omega
      have hcs' : wr.drew.cell? ⟨Bs, 0, none⟩ = some (.slice (some ⟨ga, 0, none⟩) n n) := hcs
      clear hR
      gi_wp2_with fail
      refine HR.out.mono ?_
      rintro e W3 (⟨rfl, hJ3, hk3⟩ | ⟨rfl, hJx3⟩)
      · obtain ⟨hcs3, hcn3⟩ := hk3 ⟨hcs, hcn⟩
        gi_wp2
        go_roundw
        case rel => exact ⟨y + 1, u, by omega, by rw [Nat.add_mul, HM.out, Nat.one_mul]; exact hu, rfl, hcs3, hcn3, _, by rw [List.map_append, HPS.out, List.range_succ]; rfl, hJ3⟩
        case measure => simp [intOf]; omega
      · gi_wp2
        refine bodyPost_ret (results_none rfl _ _ _) rfl ?_
        exact ⟨⟨_, rfl⟩, .inr ⟨_, trivial, hJx3⟩⟩
    · obtain rfl : y = H := by omega
      have hmn : m = n := by rw [← HM.out, HN.out]
      subst hmn
      gi_wp2
      go_end0
      exact ⟨⟨_, rfl⟩, .inl ⟨ps, HPS.out, hJ⟩⟩

set_option maxHeartbeats 1000000 in
/-- The iterator's maker. -/
theorem chunk_any (ao : Option Addr) (n c : Nat) (W : Int) (hW : 1 ≤ W) (w : World) :
    Calls Tryz.prog 42 #[.slice ao n c, .int .i64 W] w fun e w' => e = .returned (.func (.func 103) #[] #[.pointer (some ⟨w.heap.size, 0, none⟩), .pointer (some ⟨w.heap.size + 1, 0, none⟩)]) ∧
      w' = (w.alloc (.cells #[.slice ao n c] 84)).alloc (.cells #[.int .i64 W] 3) := by
  have h0 : ¬ (W < 1) := by omega
  go_enter Tryz.func42, Tryz.ntmps42
  go_wp2
  go_ret
  exact ⟨rfl, rfl⟩

/-- The chunks, in their order. -/
theorem chunk_stops (F : Fence) (k : Nat) (h6 : F.fn 103) (hro : F.round = none) (hk : 1 ≤ k) (Bs Bn ga W H n : Nat) (hW1 : 1 ≤ W) (hN : H * W = n) (hn : n ≤ 4096) (w : World) (hbs : Bs < w.heap.size) (hbn : Bn < w.heap.size)
    (hcS : w.cell? ⟨Bs, 0, none⟩ = some (.slice (some ⟨ga, 0, none⟩) n n)) (hcN : w.cell? ⟨Bn, 0, none⟩ = some (.int .i64 W)) :
    SeqStopsK F k Tryz.prog 103 #[.pointer (some ⟨Bs, 0, none⟩), .pointer (some ⟨Bn, 0, none⟩)] (encC ga W) (KeepsTwo Bs Bn (.slice (some ⟨ga, 0, none⟩) n n) W) (fun ys : List (Ch H) => ys.map Subtype.val = List.range H) (fun _ => True) H w := fun l J Jx W1 hW1' hJ _ hY h0 =>
  chunk1_in F k h6 hro hk l Bs Bn ga W H n hW1 hN hn J Jx hY (fun pre W2 h => hJ pre W2 W2.drew none h ⟨rfl, rfl, rfl, Nat.le_refl _, fun _ _ _ => rfl⟩ (fun r e => by cases e)) W1 ((hW1'.cell (p := ⟨Bs, 0, none⟩) hbs).trans hcS) ((hW1'.cell (p := ⟨Bn, 0, none⟩) hbn).trans hcN) h0
end Go.Proofs.YtnbohpcaejbpeaaGreatDoor
