/-
  LightFound returns true for every input, and each argument reads behind the call as it read before: for every list of orders of three int16 (of any length, nil or not), every noise of bytes (of any length, nil or not) and every four bytes; the package variables as its row lists them. The row's statement and its card.
-/
import Derived.Test.YtfpagmalblmnkaaGreatDoorGRe
import Derived.Test.YtfpagmalblmnkaaGreatDoorGBl
namespace Go.Proofs.YtfpagmalblmnkaaGreatDoor
open Go.ChangeShapes Go.WideShapes Go.ChangeAt Go.RowKit Go.Joins Go.Deep
set_option linter.unusedVariables false
set_option maxRecDepth 100000

theorem byteF_of {z : Int} (h : (Lit.int .u8 z).wf = true) : 0 ≤ z ∧ z ≤ 255 := by
  have e0 : IntKind.u8.min = 0 := by rfl
  have e1 : IntKind.u8.max = 255 := by rfl
  simp only [Lit.wf, Bool.and_eq_true, decide_eq_true_eq, e0, e1] at h
  exact h
theorem cellsByteF : Tryz.prog.cellsOf 5 = 1 := by kernel_rfl

theorem openBytesF {H : Type} {enc : TypeId × Value → H} {W : World} {b0 : Nat} {v : Value} {d : DataW H} {p : List MemPlace}
    (hv : Value.okWide Tryz.prog W .any b0 71 v) (h : DataW.Trod enc Tryz.prog W 0 (fun _ => true) true 71 v d p) :
    ∃ (a : Option Addr) (n c : Nat) (S : List Int), v = .slice a n c ∧ n ≤ c ∧ c ≤ maxLen ∧ AnyBytes W a n S := by
  obtain ⟨a, n, c, rfl⟩ := okWide_slice Tryz.underlying71 hv
  obtain ⟨fuel, hf⟩ := h
  rcases open_slice Tryz.underlying71 hf with ⟨hcs, _⟩ | ⟨a, n, c, m, k, D, Pl, hcs, _, hl, hm, hmm, _, hx⟩
  · simp [Value.cells] at hcs
    obtain ⟨rfl, rfl, rfl⟩ := hcs
    exact ⟨none, 0, 0, [], rfl, Nat.le_refl _, by unfold maxLen; omega, ⟨rfl, fun v hv => nomatch hv⟩, fun j hj => absurd hj (by omega)⟩
  · simp [Value.cells] at hcs
    obtain ⟨rfl, rfl, rfl⟩ := hcs
    have hnm : n ≤ m := by rw [hmm]; simp; exact hl
    rw [cellsByteF] at hx
    obtain ⟨T, hT⟩ := choose_lt (α := Int) (p := fun i t => (0 ≤ t ∧ t ≤ 255) ∧ W.cell? ((a.add (i * 1)).add 0) = some (.int .u8 t)) (n := n) (fun i hi => by
      obtain ⟨cs', h1, h2⟩ := hx i (by omega)
      obtain ⟨_, hlen, hc⟩ := World.cells?_some h1
      obtain ⟨X, e0, _, hw⟩ := DataW.trod_int Tryz.underlying5 h2
      exact ⟨X, byteF_of hw, (hc 0 (by omega)).trans (by rw [e0]; rfl)⟩)
    refine ⟨_, _, _, (List.range n).map T, rfl, hl, hm, ⟨by simp, ?_⟩, fun j hj => ?_⟩
    · intro v hv'
      obtain ⟨i, hi', rfl⟩ := List.mem_map.1 hv'
      exact (hT i (by simpa using hi')).1
    have h0 := (hT 0 (by omega)).2
    have hpl := plain_at (a := a) (by simpa [Addr.add] using h0)
    refine ⟨a.block, a.off, by rw [← hpl.1], hpl.2, fun i u hu => ?_⟩
    rw [List.map_map, List.getElem?_map] at hu
    by_cases hi2 : i < n
    · rw [List.getElem?_range hi2] at hu
      have h := (hT i hi2).2
      rw [hpl.1] at h
      simp only [Addr.add_mid, Nat.mul_one, Nat.add_zero] at h
      rw [h]
      simpa using hu
    · rw [List.getElem?_eq_none (by simp; omega)] at hu
      simp at hu



theorem openU4 {H : Type} {enc : TypeId × Value → H} {W : World} {b0 : Nat} {v : Value} {d : DataW H} {p : List MemPlace}
    (hv : Value.okWide Tryz.prog W .any b0 72 v) (h : DataW.Trod enc Tryz.prog W 0 (fun _ => true) true 72 v d p) :
    ∃ x y z u : Int, v = .agg #[.int .u8 x, .int .u8 y, .int .u8 z, .int .u8 u] ∧ (0 ≤ x ∧ x ≤ 255) ∧ (0 ≤ y ∧ y ≤ 255) ∧ (0 ≤ z ∧ z ≤ 255) ∧ (0 ≤ u ∧ u ≤ 255) := by
  obtain ⟨l, hl, hb, rfl⟩ := openByteArr Tryz.underlying72 Tryz.underlying5 (by kernel_rfl) (by kernel_rfl) hv h
  match l, hl with
  | [x, y, z, u], _ => exact ⟨x, y, z, u, rfl, hb x (by simp), hb y (by simp), hb z (by simp), hb u (by simp)⟩
theorem shortF_of {z : Int} (h : (Lit.int .i16 z).wf = true) : -32768 ≤ z ∧ z ≤ 32767 := by
  have e0 : IntKind.i16.min = -32768 := by rfl
  have e1 : IntKind.i16.max = 32767 := by rfl
  simp only [Lit.wf, Bool.and_eq_true, decide_eq_true_eq, e0, e1] at h
  exact h
theorem cellsOrd : Tryz.prog.cellsOf 75 = 3 := by kernel_rfl
theorem cellsShort : Tryz.prog.cellsOf 74 = 1 := by kernel_rfl
theorem list3F {α : Type} {l : List α} (h : l.length = 3) : ∃ a b c, l = [a, b, c] := by
  match l, h with
  | [a, b, c], _ => exact ⟨a, b, c, rfl⟩
theorem ord_form {H : Type} {enc : TypeId × Value → H} {W : World} {sp : Nat → Bool} {k : Nat} {cs : List Value} {x : DataW H × List MemPlace} (hl : cs.length = 3)
    (h : DataW.trod enc Tryz.prog W 0 sp true k 75 cs = some x) : ∃ t : Int × Int × Int, cs = [.int .i16 t.1, .int .i16 t.2.1, .int .i16 t.2.2] ∧ (-32768 ≤ t.1 ∧ t.1 ≤ 32767) ∧ (-32768 ≤ t.2.1 ∧ t.2.1 ≤ 32767) ∧ (-32768 ≤ t.2.2 ∧ t.2.2 ≤ 32767) := by
  obtain ⟨c0, c1, c2, rfl⟩ := list3F hl
  obtain ⟨xs, m, _, _, _, hlen, hi⟩ := DataW.trod_array Tryz.underlying75 h
  have get : ∀ (i : Nat) (c : Value), i < 3 → ([c0, c1, c2].drop i).take 1 = [c] → ∃ z : Int, c = .int .i16 z ∧ -32768 ≤ z ∧ z ≤ 32767 := fun i c hlt hc => by
    have h1 := hi i hlt
    rw [cellsShort, Nat.mul_one, hc] at h1
    obtain ⟨y, hy⟩ : ∃ y, xs[i]? = some y := ⟨_, List.getElem?_eq_getElem (by omega)⟩
    rw [hy] at h1
    obtain ⟨X, e0, _, hw⟩ := DataW.trod_int Tryz.underlying74 h1
    simp only [List.cons.injEq, and_true] at e0
    exact ⟨X, e0, shortF_of hw⟩
  obtain ⟨z0, rfl, q0⟩ := get 0 c0 (by omega) rfl
  obtain ⟨z1, rfl, q1⟩ := get 1 c1 (by omega) rfl
  obtain ⟨z2, rfl, q2⟩ := get 2 c2 (by omega) rfl
  exact ⟨(z0, z1, z2), rfl, q0, q1, q2⟩

theorem openOrders {H : Type} {enc : TypeId × Value → H} {W : World} {b0 : Nat} {v : Value} {d : DataW H} {p : List MemPlace}
    (hv : Value.okWide Tryz.prog W .any b0 70 v) (h : DataW.Trod enc Tryz.prog W 0 (fun _ => true) true 70 v d p) :
    ∃ (a : Option Addr) (n c : Nat) (ox oy oz : Nat → Int), v = .slice a n c ∧ ∀ i, i < n → ((-32768 ≤ ox i ∧ ox i ≤ 32767) ∧ (-32768 ≤ oy i ∧ oy i ≤ 32767) ∧ (-32768 ≤ oz i ∧ oz i ≤ 32767)) ∧ ∃ b q, a = some ⟨b, q, none⟩ ∧ b < W.heap.size ∧ W.cell? ⟨b, q + i * 3, none⟩ = some (.int .i16 (ox i)) ∧ W.cell? ⟨b, q + i * 3 + 1, none⟩ = some (.int .i16 (oy i)) ∧ W.cell? ⟨b, q + i * 3 + 2, none⟩ = some (.int .i16 (oz i)) := by
  obtain ⟨a, n, c, rfl⟩ := okWide_slice Tryz.underlying70 hv
  obtain ⟨fuel, hf⟩ := h
  rcases open_slice Tryz.underlying70 hf with ⟨hcs, _⟩ | ⟨a, n, c, m, k, D, Pl, hcs, _, hl, hm, hmm, _, hx⟩
  · simp [Value.cells] at hcs
    obtain ⟨rfl, rfl, rfl⟩ := hcs
    exact ⟨none, 0, 0, fun _ => 0, fun _ => 0, fun _ => 0, rfl, fun i hi => absurd hi (by omega)⟩
  · simp [Value.cells] at hcs
    obtain ⟨rfl, rfl, rfl⟩ := hcs
    have hnm : n ≤ m := by rw [hmm]; simp; exact hl
    rw [cellsOrd] at hx
    obtain ⟨T, hT⟩ := choose_lt (α := Int × Int × Int) (p := fun i t => ((-32768 ≤ t.1 ∧ t.1 ≤ 32767) ∧ (-32768 ≤ t.2.1 ∧ t.2.1 ≤ 32767) ∧ (-32768 ≤ t.2.2 ∧ t.2.2 ≤ 32767)) ∧ W.cell? ((a.add (i * 3)).add 0) = some (.int .i16 t.1) ∧ W.cell? ((a.add (i * 3)).add 1) = some (.int .i16 t.2.1) ∧ W.cell? ((a.add (i * 3)).add 2) = some (.int .i16 t.2.2)) (n := n) (fun i hi => by
      obtain ⟨cs', h1, h2⟩ := hx i (by omega)
      obtain ⟨_, hlen, hc⟩ := World.cells?_some h1
      obtain ⟨t, rfl, hb⟩ := ord_form hlen h2
      exact ⟨t, hb, hc 0 (by omega), hc 1 (by omega), hc 2 (by omega)⟩)
    refine ⟨some a, n, c, fun i => (T i).1, fun i => (T i).2.1, fun i => (T i).2.2, rfl, fun i hi => ?_⟩
    obtain ⟨hb, h0, h1, h2⟩ := hT i hi
    have h00 := (hT 0 (by omega)).2.1
    have hpl := plain_at (a := a) (by simpa [Addr.add] using h00)
    refine ⟨hb, a.block, a.off, by rw [← hpl.1], hpl.2, ?_, ?_, ?_⟩
    · rw [hpl.1] at h0; simpa only [Addr.add_mid, Nat.add_zero] using h0
    · rw [hpl.1] at h1; simpa only [Addr.add_mid] using h1
    · rw [hpl.1] at h2; simpa only [Addr.add_mid] using h2
end Go.Proofs.YtfpagmalblmnkaaGreatDoor

/-
  LightFound returns true for every input, and each argument reads behind the call as it read before: for every list of orders of three int16 (of any length, nil or not), every noise of bytes (of any length, nil or not) and every four bytes; the package variables as its row lists them. The row's statement and its card.
-/
namespace Go.Proofs.YtfpagmalblmnkaaGreatDoor.lightFound
open Go.ChangeShapes Go.WideShapes Go.ChangeAt Go.RowKit Go.Joins Go.Deep
set_option linter.unusedVariables false

theorem params : Tryz.f6.params = #[70, 71, 72] := by kernel_rfl

set_option maxRecDepth 100000 in
theorem contract (H : Type) (enc : TypeId × Value → H) (W : World) (base : Nat) (args : Array Value) (ds gs : List (DataW H)) (before : List MemPlace)
    (hval0 : ∀ (j : Nat) t v, Tryz.f6.params[j]? = some t → args[j]? = some v → Value.okWide Tryz.prog W .any base t v)
    (hW : DataW.Whole enc Tryz.prog Tryz.f6.params.toList Rows.lightFoundSpec.vars false W args.toList ds gs before) (hL : laidMetH Tryz.prog Rows.lightFoundRow.laid W) :
    Calls Tryz.prog 6 args W fun e W' => ∃ v, e = .returned v ∧ Rows.lightFoundSpec.post enc Tryz.prog Tryz.f6 false true false false W args v W' := by
  have hval := hval0
  have hW' := hW
  obtain ⟨p, q, hA0, hV, rfl, hfz, hnd⟩ := hW
  have hA : DataW.TrodAll enc Tryz.prog W 0 (fun _ => true) true Tryz.f6.params.toList args.toList ds p := hA0
  rw [params] at hA hval
  obtain ⟨v0, vs0, d0, ds0, p0, q0, hargs, rfl, rfl, h0, r0⟩ := trodAll_cons hA
  obtain ⟨v1, vs1, d1, ds1, p1, q1, rfl, rfl, rfl, h1, r1⟩ := trodAll_cons r0
  obtain ⟨v2, vs2, d2, ds2, p2, q2, rfl, rfl, rfl, h2, r2⟩ := trodAll_cons r1
  obtain ⟨rfl, rfl, rfl⟩ := trodAll_nil r2
  obtain rfl : args = #[v0, v1, v2] := by cases args; simp_all
  obtain ⟨rfl, rfl⟩ := trodVars_none hV
  clear hA0 hval0
  simp only [List.append_nil] at hW'
  have hlt : ∀ x ∈ p0 ++ (p1 ++ p2), x.block < W.heap.size := fun x hx => by simpa using hW'.lt x hx
  obtain ⟨oa, m, oc, ox, oy, oz, rfl, hO⟩ := openOrders (hval 0 70 v0 rfl rfl) h0
  obtain ⟨na, nn, nc1, NS, rfl, _, _, hNS⟩ := openBytesF (hval 1 71 v1 rfl rfl) h1
  obtain ⟨n0, n1, n2, n3, rfl, hn0, hn1, hn2, hn3⟩ := openU4 (hval 2 72 v2 rfl rfl) h2
  refine (found_all W oa m oc na nn nc1 NS n0 n1 n2 n3 hn0 hn1 hn2 hn3 (tabAt_of hL) ox oy oz hO hNS).mono fun e W' ⟨he, hb⟩ => ?_
  subst he
  refine ⟨_, rfl, _, _, _, [], p0 ++ (p1 ++ p2), [], hW', trodAll_cons_mk (shut_bool Tryz.underlying4 _) trodAll_mk0, ?_, rfl, hb.frame _, fun h => by cases h⟩
  have h := (trodAll_cons_mk (Below.trod laidOut (by kernel_rfl) (of_decide_eq_true (by kernel_rfl)) h0 hb (fun x hx => hlt x (List.mem_append_left _ hx))) (trodAll_cons_mk (Below.trod laidOut (by kernel_rfl) (of_decide_eq_true (by kernel_rfl)) h1 hb (fun x hx => hlt x (List.mem_append_right _ (List.mem_append_left _ hx)))) (trodAll_cons_mk (Below.trod laidOut (by kernel_rfl) (of_decide_eq_true (by kernel_rfl)) h2 hb (fun x hx => hlt x (List.mem_append_right _ (List.mem_append_right _ hx)))) trodAll_mk0)))
  simp only [List.append_nil] at h
  exact h

def wArgs : Array Value := #[.slice none 0 0, .slice none 0 0, .agg #[.int .u8 0, .int .u8 0, .int .u8 0, .int .u8 0]]
theorem reads (os : Os) {H : Type} (enc : TypeId × Value → H) : ∃ places, DataW.whole enc Tryz.prog ((laidWorld os).forCall (fun _ _ => 0) ⟨#[], wArgs, []⟩).memory Tryz.f6.params.toList Rows.lightFoundSpec.vars false wArgs.toList 8 = some ([.nil, .nil, .agg [.lit (.int .u8 0), .lit (.int .u8 0), .lit (.int .u8 0), .lit (.int .u8 0)]], [], places) :=
  ⟨[], by kernel_rfl⟩

set_option maxRecDepth 100000 in
theorem lifted (os : Os) (started : os.Started) (H : Type) (enc : TypeId × Value → H) (F : Stop.Interp) :
    ReturnsInHanded {} Tryz.checked os 6 .any ((OpenSpec.ofChange Rows.lightFoundSpec).preRow enc Tryz.prog Tryz.f6 Rows.lightFoundRow.domain false Rows.lightFoundRow.laid) (((OpenSpec.ofChange Rows.lightFoundSpec).at F).post enc Tryz.prog Tryz.f6 false true false false) := by
  obtain ⟨places, hx⟩ := reads os enc
  refine returnsInHanded_of_row (C := Tryz.checked) (s := OpenSpec.ofChange Rows.lightFoundSpec) ownKnobOff started (by kernel_rfl) Tryz.func6
    (witness_row_at (enc := enc) (C := Tryz.checked) false (laidWorld os) wArgs rfl (by kernel_rfl) (by kernel_rfl) (by kernel_rfl)
      (OpenSpec.preRow_of_cond 8 hx (by kernel_rfl) (fun k hk => by cases hk) (by kernel_rfl) (laid_met os _))) ?_
  intro W base args ds gs before hval hW _ _ _ hL _ _
  exact contract H enc W base args ds gs before hval hW hL

theorem said : Rows.LightFoundSaid :=
  OpenClaim.holds_of_cond 6 Tryz.f6 rfl rfl rfl rfl rfl rfl rfl ⟨rfl, rfl, rfl, rfl, rfl⟩ rfl rfl rfl rfl rfl (by kernel_rfl) Tryz.func6 (by kernel_rfl)
    (of_decide_eq_true (by kernel_rfl)) (by unfold Func.isWrapper; first | (rw [if_pos (by decide +kernel)]; kernel_rfl) | (rw [if_neg (by decide +kernel)]; exact ⟨rfl, rfl⟩))
    (fun os started H enc _ F => by rw [OpenClaim.pre_eq_preRow]; exact lifted os started H enc F)

/-- No parameter wants a stand-in; the program's own looks are off: what the card asks. -/
theorem plain (f : FuncId) (fn : Func) (hf : Tryz.pinned.checked.prog.funcNamed "spillage/spillagelaw01.LightFound" = some f) (hfn : Tryz.pinned.checked.prog.funcs[f]? = some fn) :
    Rows.lightFoundCard.stood.looks = Tryz.pinned.checked.prog.looks [] ∧ ∀ (j : Nat) t, fn.params[j]? = some t → Tryz.pinned.checked.prog.wantsStandIn t = false := by
  obtain rfl : f = 6 := Option.some.inj ((show Tryz.prog.funcNamed "spillage/spillagelaw01.LightFound" = some 6 by kernel_rfl).symm.trans hf) |>.symm
  obtain rfl : fn = Tryz.f6 := (Option.some.inj (Tryz.func6.symm.trans hfn)).symm
  refine ⟨by kernel_rfl, fun j t ht => ?_⟩
  rw [params] at ht
  have hm : t = 70 ∨ t = 71 ∨ t = 72 := by simpa using Array.mem_of_getElem? ht
  rcases hm with rfl | rfl | rfl
  · exact (show Tryz.prog.wantsStandIn 70 = false by kernel_rfl)
  · exact (show Tryz.prog.wantsStandIn 71 = false by kernel_rfl)
  · exact (show Tryz.prog.wantsStandIn 72 = false by kernel_rfl)

/-- ████ THE CARD ████ -/
theorem card : Rows.LightFoundCardSaid :=
  Claim7.holds_tied_plain_at .later [] _ _ _ _ said (fun _ h => by cases h) (by kernel_rfl) (fun _ h => by cases h) lightFound_row_tie rfl ⟨rfl, rfl⟩ (by kernel_rfl) rfl plain (by kernel_rfl)
#print axioms card
end Go.Proofs.YtfpagmalblmnkaaGreatDoor.lightFound
