/-
  LightFound returns true for every input, and each argument reads behind the call as it read before: for every list of orders of three int16 (of any length, nil or not), every noise of bytes (of any length, nil or not) and every four bytes; the package variables as its row lists them. The row's statement and its card.
-/
import Derived.Test.YtfdkmmllemkogaaGreatDoorOLo
import Derived.Test.YtfdkmmllemkogaaGreatDoorODg
import Derived.Test.YtfdkmmllemkogaaGreatDoorOBd
import Derived.Test.YtfdkmmllemkogaaGreatDoorOCq
namespace Go.Proofs.YtfdkmmllemkogaaGreatDoor.lightFound
open Go.ChangeShapes Go.WideShapes Go.ChangeAt Go.RowKit Go.Joins Go.Deep
set_option linter.unusedVariables false

theorem params : Tryz.f16.params = #[160, 109, 161] := by kernel_rfl

set_option maxRecDepth 100000 in
theorem contract (H : Type) (enc : TypeId × Value → H) (W : World) (base : Nat) (args : Array Value) (ds gs : List (DataW H)) (before : List MemPlace)
    (hval0 : ∀ (j : Nat) t v, Tryz.f16.params[j]? = some t → args[j]? = some v → Value.okWide Tryz.prog W .any base t v)
    (hW : DataW.Whole enc Tryz.prog Tryz.f16.params.toList Rows.lightFoundSpec.vars false W args.toList ds gs before) (hL : laidMetH Tryz.prog Rows.lightFoundRow.laid W) :
    Calls Tryz.prog 16 args W fun e W' => ∃ v, e = .returned v ∧ Rows.lightFoundSpec.post enc Tryz.prog Tryz.f16 false true false false W args v W' := by
  have hval := hval0
  have hW' := hW
  obtain ⟨p, q, hA0, hV, rfl, hfz, hnd⟩ := hW
  have hA : DataW.TrodAll enc Tryz.prog W 0 (fun _ => true) true Tryz.f16.params.toList args.toList ds p := hA0
  rw [params] at hA hval
  obtain ⟨v0, vs0, d0, ds0, p0, q0, hargs, rfl, rfl, h0, r0⟩ := trodAll_cons hA
  obtain ⟨v1, vs1, d1, ds1, p1, q1, rfl, rfl, rfl, h1, r1⟩ := trodAll_cons r0
  obtain ⟨v2, vs2, d2, ds2, p2, q2, rfl, rfl, rfl, h2, r2⟩ := trodAll_cons r1
  obtain ⟨rfl, rfl, rfl⟩ := trodAll_nil r2
  obtain rfl : args = #[v0, v1, v2] := by cases args; simp_all
  obtain ⟨rfl, rfl⟩ := trodVars_none hV
  clear hA0 hval0
  simp only [List.append_nil] at hW'
  have hlt : ∀ x ∈ p0 ++ (p1 ++ p2), x.block < W.heap.size := fun x hx => by simpa using hW'.lt x hx
  obtain ⟨oa, m, oc, ox, oy, oz, rfl, hO⟩ := openOrders (hval 0 160 v0 rfl rfl) h0
  obtain ⟨na, nn, nc1, NS, rfl, _, _, hNS⟩ := openBytesF (hval 1 109 v1 rfl rfl) h1
  obtain ⟨n0, n1, n2, n3, rfl, hn0, hn1, hn2, hn3⟩ := openU4 (hval 2 161 v2 rfl rfl) h2
  refine (found_all W oa m oc na nn nc1 NS n0 n1 n2 n3 hn0 hn1 hn2 hn3 (tabAt_of hL) ox oy oz hO hNS).mono fun e W' ⟨he, hb⟩ => ?_
  subst he
  refine ⟨_, rfl, _, _, _, [], p0 ++ (p1 ++ p2), [], hW', trodAll_cons_mk (shut_bool Tryz.underlying4 _) trodAll_mk0, ?_, rfl, hb.frame _, fun h => by cases h⟩
  have h := (trodAll_cons_mk (Below.trod laidOut (by kernel_rfl) (of_decide_eq_true (by kernel_rfl)) h0 hb (fun x hx => hlt x (List.mem_append_left _ hx))) (trodAll_cons_mk (Below.trod laidOut (by kernel_rfl) (of_decide_eq_true (by kernel_rfl)) h1 hb (fun x hx => hlt x (List.mem_append_right _ (List.mem_append_left _ hx)))) (trodAll_cons_mk (Below.trod laidOut (by kernel_rfl) (of_decide_eq_true (by kernel_rfl)) h2 hb (fun x hx => hlt x (List.mem_append_right _ (List.mem_append_right _ hx)))) trodAll_mk0)))
  simp only [List.append_nil] at h
  exact h

def wArgs : Array Value := #[.slice none 0 0, .slice none 0 0, .agg #[.int .u8 0, .int .u8 0, .int .u8 0, .int .u8 0]]
theorem reads (os : Os) {H : Type} (enc : TypeId × Value → H) : ∃ places, DataW.whole enc Tryz.prog ((laidWorld os).forCall (fun _ _ => 0) ⟨#[], wArgs, []⟩).memory Tryz.f16.params.toList Rows.lightFoundSpec.vars false wArgs.toList 8 = some ([.nil, .nil, .agg [.lit (.int .u8 0), .lit (.int .u8 0), .lit (.int .u8 0), .lit (.int .u8 0)]], [], places) :=
  ⟨[], by kernel_rfl⟩

set_option maxRecDepth 100000 in
theorem lifted (os : Os) (started : os.Started) (H : Type) (enc : TypeId × Value → H) (F : Stop.Interp) :
    ReturnsInHanded {} Tryz.checked os 16 .any ((OpenSpec.ofChange Rows.lightFoundSpec).preRow enc Tryz.prog Tryz.f16 Rows.lightFoundRow.domain false Rows.lightFoundRow.laid) (((OpenSpec.ofChange Rows.lightFoundSpec).at F).post enc Tryz.prog Tryz.f16 false true false false) := by
  obtain ⟨places, hx⟩ := reads os enc
  refine returnsInHanded_of_row (C := Tryz.checked) (s := OpenSpec.ofChange Rows.lightFoundSpec) ownKnobOff started (by kernel_rfl) Tryz.func16
    (witness_row_at (enc := enc) (C := Tryz.checked) false (laidWorld os) wArgs rfl (by kernel_rfl) (by kernel_rfl) (by kernel_rfl)
      (OpenSpec.preRow_of_cond 8 hx (by kernel_rfl) (fun k hk => by cases hk) (by kernel_rfl) (laid_met os _))) ?_
  intro W base args ds gs before hval hW _ _ _ hL _ _
  exact contract H enc W base args ds gs before hval hW hL

theorem cWf0 : Rows.lightFoundRow.wf (OpenSpec.ofChange (OpenSpec.ofChange Rows.lightFoundSpec).bare) = true := by kernel_rfl
theorem cIn : (Rows.lightFoundRow.inPlace == Tryz.pinned.checked.prog.inPlace 16) = true := by kernel_rfl
theorem cUn : (Rows.lightFoundRow.unfollowed == Tryz.pinned.checked.prog.unfollowed 16) = true := by kernel_rfl
theorem cRec : (Rows.lightFoundRow.recurses == Tryz.pinned.checked.prog.recurses 16) = true := by kernel_rfl
theorem cVars : (Rows.lightFoundRow.named == Tryz.pinned.checked.prog.varsNamed 16) = true := by kernel_rfl
theorem cTie : namedTie Tryz.pinned.checked.prog Rows.lightFoundRow.named (OpenSpec.ofChange Rows.lightFoundSpec).bare.vars = true := by kernel_rfl
theorem cKeys : (Rows.lightFoundRow.plainKeys == Tryz.pinned.checked.prog.plainKeys) = true := by
  have h : Rows.lightFoundRow.plainKeys = Rows.lightNamesRow.plainKeys := rfl
  rw [h]; exact pKeys
theorem cLifted : (Rows.lightFoundRow.lifted == Tryz.pinned.checked.prog.liftsFinal) = true := by
  have h : Rows.lightFoundRow.lifted = Rows.lightNamesRow.lifted := rfl
  rw [h]; exact pLifted
theorem cMake : (Tryz.pinned.checked.prog.make == some Rows.lightFoundRow.make) = true := by
  have h : Rows.lightFoundRow.make = Rows.lightNamesRow.make := rfl
  rw [h]; exact pMake
theorem cNamed : Tryz.pinned.checked.prog.funcNamed Rows.lightFoundRow.func = some 16 := by kernel_rfl
theorem cInst : Tryz.f16.isInstance Tryz.pinned.checked.prog Rows.lightFoundRow.origin Rows.lightFoundRow.targs := of_decide_eq_true (by kernel_rfl)
theorem cWrap : Tryz.f16.isWrapper Tryz.pinned.checked.prog Rows.lightFoundRow.wrapper Rows.lightFoundRow.mainSum := by unfold Func.isWrapper; first | (rw [if_pos (by decide +kernel)]; kernel_rfl) | (rw [if_neg (by decide +kernel)]; exact ⟨rfl, rfl⟩)
theorem closed : joinedFacts Tryz.pinned.checked.prog 16 Tryz.f16 (OpenSpec.ofChange Rows.lightFoundSpec).bare Rows.lightFoundRow = true := by
  unfold joinedFacts
  repeat' (with_reducible refine band ?_ ?_)
  all_goals first
    | with_reducible exact pLaid
    | with_reducible exact pMaps
    | with_reducible exact pStops
    | with_reducible exact pKnobs
    | with_reducible exact cMake
    | with_reducible exact cKeys
    | with_reducible exact pHeard
    | with_reducible exact pEnter
    | with_reducible exact cLifted
    | with_reducible exact cWf0
    | with_reducible exact cIn
    | with_reducible exact cUn
    | with_reducible exact cRec
    | with_reducible exact cVars
    | with_reducible exact cTie
    | kernel_rfl
theorem cWf : Rows.lightFoundRow.wfByText (OpenSpec.ofChange Rows.lightFoundSpec) = true := by kernel_rfl
theorem cGoes : false = Rows.lightFoundRow.goesBy Tryz.pinned.checked.prog := by kernel_rfl
theorem cMain : Tryz.pinned.checked.prog.mainIs = some (Rows.lightFoundCard.stood.harness.1, Rows.lightFoundCard.stood.harness.2.toList) := by kernel_rfl
theorem said : Rows.LightFoundSaid :=
  OpenClaim.holds_of_cond 16 Tryz.f16 rfl rfl rfl rfl rfl rfl rfl ⟨rfl, rfl, rfl, rfl, rfl⟩ rfl rfl rfl rfl rfl cNamed Tryz.func16 closed cInst cWrap
    (fun os started H enc _ F => by rw [OpenClaim.pre_eq_preRow]; exact lifted os started H enc F)

/-- No parameter wants a stand-in; the program's own looks are off: what the card asks. -/
theorem plain (f : FuncId) (fn : Func) (hf : Tryz.pinned.checked.prog.funcNamed "spillage/spillagelaw01.LightFound" = some f) (hfn : Tryz.pinned.checked.prog.funcs[f]? = some fn) :
    Rows.lightFoundCard.stood.looks = Tryz.pinned.checked.prog.looks [] ∧ ∀ (j : Nat) t, fn.params[j]? = some t → Tryz.pinned.checked.prog.wantsStandIn t = false := by
  obtain rfl : f = 16 := Option.some.inj ((show Tryz.prog.funcNamed "spillage/spillagelaw01.LightFound" = some 16 by kernel_rfl).symm.trans hf) |>.symm
  obtain rfl : fn = Tryz.f16 := (Option.some.inj (Tryz.func16.symm.trans hfn)).symm
  refine ⟨by kernel_rfl, fun j t ht => ?_⟩
  rw [params] at ht
  have hm : t = 160 ∨ t = 109 ∨ t = 161 := by simpa using Array.mem_of_getElem? ht
  rcases hm with rfl | rfl | rfl
  · exact (show Tryz.prog.wantsStandIn 160 = false by kernel_rfl)
  · exact (show Tryz.prog.wantsStandIn 109 = false by kernel_rfl)
  · exact (show Tryz.prog.wantsStandIn 161 = false by kernel_rfl)

/-- ████ THE CARD ████ -/
theorem card : Rows.LightFoundCardSaid :=
  Claim7.holds_tied_plain_at .later [] _ _ _ _ said (fun _ h => by cases h) cWf (fun _ h => by cases h) lightFound_row_tie rfl ⟨rfl, rfl⟩ cMain rfl plain cGoes
#print axioms card
end Go.Proofs.YtfdkmmllemkogaaGreatDoor.lightFound
