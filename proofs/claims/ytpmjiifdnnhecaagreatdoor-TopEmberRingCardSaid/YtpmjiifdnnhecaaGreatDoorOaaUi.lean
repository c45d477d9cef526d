/-
  TopEmberRing returns true for every input, and each argument reads behind the call as it read before: for every map (any columns, any rows, any samples, nil or not) and every byte; the package variables as its row lists them. The row's statement and its card.
-/
import Derived.OpenShut
import Derived.Test.YtpmjiifdnnhecaaGreatDoorOaaUh
import Derived.Test.YtpmjiifdnnhecaaGreatDoorOaaXs
import Derived.Test.YtpmjiifdnnhecaaGreatDoorOaaCq
namespace Go.Proofs.YtpmjiifdnnhecaaGreatDoor.topEmberRing
open Go.ChangeShapes Go.WideShapes Go.ChangeAt Go.RowKit Go.Joins Go.Deep
set_option linter.unusedVariables false

theorem params : Tryz.f10.params = #[117, 5] := by kernel_rfl

set_option maxRecDepth 100000 in
theorem contract (H : Type) (enc : TypeId × Value → H) (W : World) (base : Nat) (args : Array Value) (ds gs : List (DataW H)) (before : List MemPlace)
    (hval0 : ∀ (j : Nat) t v, Tryz.f10.params[j]? = some t → args[j]? = some v → Value.okWide Tryz.prog W .any base t v)
    (hW : DataW.Whole enc Tryz.prog Tryz.f10.params.toList Rows.topEmberRingSpec.vars false W args.toList ds gs before) (hL : laidMetH Tryz.prog Rows.topEmberRingRow.laid W) (hsh : W.ShapedOpen Tryz.prog) :
    Calls Tryz.prog 10 args W fun e W' => ∃ v, e = .returned v ∧ Rows.topEmberRingSpec.post enc Tryz.prog Tryz.f10 false true false false W args v W' := by
  have hval := hval0
  have hW' := hW
  obtain ⟨p, q, hA0, hV, rfl, hfz, hnd⟩ := hW
  have hA : DataW.TrodAll enc Tryz.prog W 0 (fun _ => true) true Tryz.f10.params.toList args.toList ds p := hA0
  rw [params] at hA hval
  obtain ⟨v0, vs0, d0, ds0, p0, q0, hargs, rfl, rfl, h0, r0⟩ := trodAll_cons hA
  obtain ⟨v1, vs1, d1, ds1, p1, q1, rfl, rfl, rfl, h1, r1⟩ := trodAll_cons r0
  obtain ⟨rfl, rfl, rfl⟩ := trodAll_nil r1
  obtain rfl : args = #[v0, v1] := by cases args; simp_all
  obtain ⟨rfl, rfl⟩ := trodVars_none hV
  clear hA0 hval0
  simp only [List.append_nil] at hW'
  have hlt : ∀ x ∈ p0 ++ p1, x.block < W.heap.size := fun x hx => by simpa using hW'.lt x hx
  obtain ⟨mX, mY, a, n, c, xs, rfl, hM⟩ := openMap (hval 0 117 v0 rfl rfl) h0
  obtain ⟨k8, rfl, hk0, hk1⟩ := openByteR (hval 1 5 v1 rfl rfl) h1
  refine (ring_all W mX mY a n c xs k8 ⟨hk0, hk1⟩ (tabAt_ofR hL) (maxAt_ofR hsh) hM).mono fun e W' ⟨he, hb⟩ => ?_
  subst he
  refine ⟨_, rfl, _, _, _, [], p0 ++ p1, [], hW', trodAll_cons_mk (shut_bool Tryz.underlying4 _) trodAll_mk0, ?_, rfl, hb.frame _, fun h => by cases h⟩
  have h := (trodAll_cons_mk (Below.trod laidOut (by kernel_rfl) (of_decide_eq_true (by kernel_rfl)) h0 hb (fun x hx => hlt x (List.mem_append_left _ hx))) (trodAll_cons_mk (Below.trod laidOut (by kernel_rfl) (of_decide_eq_true (by kernel_rfl)) h1 hb (fun x hx => hlt x (List.mem_append_right _ hx))) trodAll_mk0))
  simp only [List.append_nil] at h
  exact h

def wArgs : Array Value := #[.agg #[.int .i64 0, .int .i64 0, .slice none 0 0], .int .u8 0]
theorem reads (os : Os) {H : Type} (enc : TypeId × Value → H) : ∃ places, DataW.whole enc Tryz.prog ((laidWorldR os).forCall (fun _ _ => 0) ⟨#[], wArgs, []⟩).memory Tryz.f10.params.toList Rows.topEmberRingSpec.vars false wArgs.toList 8 = some ([.agg [.lit (.int .i64 0), .lit (.int .i64 0), .nil], .lit (.int .u8 0)], [], places) :=
  ⟨[], by kernel_rfl⟩

set_option maxRecDepth 100000 in
theorem lifted (os : Os) (started : os.Started) (H : Type) (enc : TypeId × Value → H) (F : Stop.Interp) :
    ReturnsInHanded {} Tryz.checked os 10 .any ((OpenSpec.ofChange Rows.topEmberRingSpec).preRow enc Tryz.prog Tryz.f10 Rows.topEmberRingRow.domain false Rows.topEmberRingRow.laid) (((OpenSpec.ofChange Rows.topEmberRingSpec).at F).post enc Tryz.prog Tryz.f10 false true false false) := by
  obtain ⟨places, hx⟩ := reads os enc
  refine returnsInHanded_of_row (C := Tryz.checked) (s := OpenSpec.ofChange Rows.topEmberRingSpec) ownKnobOff started (by kernel_rfl) Tryz.func10
    (witness_row_at (enc := enc) (C := Tryz.checked) false (laidWorldR os) wArgs rfl (by kernel_rfl) (by kernel_rfl) (by kernel_rfl)
      (OpenSpec.preRow_of_cond 8 hx (by kernel_rfl) (fun k hk => by cases hk) (by kernel_rfl) (laid_metR os _))) ?_
  intro W base args ds gs before hval hW _ _ _ hL hsh _
  exact contract H enc W base args ds gs before hval hW hL hsh

theorem cWf0 : Rows.topEmberRingRow.wf (OpenSpec.ofChange (OpenSpec.ofChange Rows.topEmberRingSpec).bare) = true := by kernel_rfl
theorem cIn : (Rows.topEmberRingRow.inPlace == Tryz.pinned.checked.prog.inPlace 10) = true := by kernel_rfl
theorem cUn : (Rows.topEmberRingRow.unfollowed == Tryz.pinned.checked.prog.unfollowed 10) = true := by kernel_rfl
theorem cRec : (Rows.topEmberRingRow.recurses == Tryz.pinned.checked.prog.recurses 10) = true := by kernel_rfl
theorem cVars : (Rows.topEmberRingRow.named == Tryz.pinned.checked.prog.varsNamed 10) = true := by kernel_rfl
theorem cTie : namedTie Tryz.pinned.checked.prog Rows.topEmberRingRow.named (OpenSpec.ofChange Rows.topEmberRingSpec).bare.vars = true := by kernel_rfl
theorem cKeys : (Rows.topEmberRingRow.plainKeys == Tryz.pinned.checked.prog.plainKeys) = true := by
  have h : Rows.topEmberRingRow.plainKeys = Rows.sunConesRow.plainKeys := rfl
  rw [h]; exact pKeys
theorem cLifted : (Rows.topEmberRingRow.lifted == Tryz.pinned.checked.prog.liftsFinal) = true := by
  have h : Rows.topEmberRingRow.lifted = Rows.sunConesRow.lifted := rfl
  rw [h]; exact pLifted
theorem cMake : (Tryz.pinned.checked.prog.make == some Rows.topEmberRingRow.make) = true := by
  have h : Rows.topEmberRingRow.make = Rows.sunConesRow.make := rfl
  rw [h]; exact pMake
theorem cNamed : Tryz.pinned.checked.prog.funcNamed Rows.topEmberRingRow.func = some 10 := by kernel_rfl
theorem cInst : Tryz.f10.isInstance Tryz.pinned.checked.prog Rows.topEmberRingRow.origin Rows.topEmberRingRow.targs := of_decide_eq_true (by kernel_rfl)
theorem cWrap : Tryz.f10.isWrapper Tryz.pinned.checked.prog Rows.topEmberRingRow.wrapper Rows.topEmberRingRow.mainSum := by unfold Func.isWrapper; first | (rw [if_pos (by decide +kernel)]; kernel_rfl) | (rw [if_neg (by decide +kernel)]; exact ⟨rfl, rfl⟩)
theorem closed : joinedFacts Tryz.pinned.checked.prog 10 Tryz.f10 (OpenSpec.ofChange Rows.topEmberRingSpec).bare Rows.topEmberRingRow = true := by
  unfold joinedFacts
  repeat' (with_reducible refine band ?_ ?_)
  all_goals first
    | with_reducible exact pLaid
    | with_reducible exact pMaps
    | with_reducible exact pStops
    | with_reducible exact pKnobs
    | with_reducible exact cMake
    | with_reducible exact cKeys
    | with_reducible exact pHeard
    | with_reducible exact pEnter
    | with_reducible exact cLifted
    | with_reducible exact cWf0
    | with_reducible exact cIn
    | with_reducible exact cUn
    | with_reducible exact cRec
    | with_reducible exact cVars
    | with_reducible exact cTie
    | kernel_rfl
theorem cWf : Rows.topEmberRingRow.wfByText (OpenSpec.ofChange Rows.topEmberRingSpec) = true := by kernel_rfl
theorem cGoes : false = Rows.topEmberRingRow.goesBy Tryz.pinned.checked.prog := by kernel_rfl
theorem cMain : Tryz.pinned.checked.prog.mainIs = some (Rows.topEmberRingCard.stood.harness.1, Rows.topEmberRingCard.stood.harness.2.toList) := by kernel_rfl
theorem said : Rows.TopEmberRingSaid :=
  OpenClaim.holds_of_cond 10 Tryz.f10 rfl rfl rfl rfl rfl rfl rfl ⟨rfl, rfl, rfl, rfl, rfl⟩ rfl rfl rfl rfl rfl cNamed Tryz.func10 closed cInst cWrap
    (fun os started H enc _ F => by rw [OpenClaim.pre_eq_preRow]; exact lifted os started H enc F)

/-- No parameter wants a stand-in; the program's own looks are off: what the card asks. -/
theorem plain (f : FuncId) (fn : Func) (hf : Tryz.pinned.checked.prog.funcNamed "spillage/spillagetop.TopEmberRing" = some f) (hfn : Tryz.pinned.checked.prog.funcs[f]? = some fn) :
    Rows.topEmberRingCard.stood.looks = Tryz.pinned.checked.prog.looks [] ∧ ∀ (j : Nat) t, fn.params[j]? = some t → Tryz.pinned.checked.prog.wantsStandIn t = false := by
  obtain rfl : f = 10 := Option.some.inj ((show Tryz.prog.funcNamed "spillage/spillagetop.TopEmberRing" = some 10 by kernel_rfl).symm.trans hf) |>.symm
  obtain rfl : fn = Tryz.f10 := (Option.some.inj (Tryz.func10.symm.trans hfn)).symm
  refine ⟨by kernel_rfl, fun j t ht => ?_⟩
  rw [params] at ht
  have hm : t = 117 ∨ t = 5 := by simpa using Array.mem_of_getElem? ht
  rcases hm with rfl | rfl
  · exact (show Tryz.prog.wantsStandIn 117 = false by kernel_rfl)
  · exact (show Tryz.prog.wantsStandIn 5 = false by kernel_rfl)

/-- ████ THE CARD ████ -/
theorem card : Rows.TopEmberRingCardSaid :=
  Claim7.holds_tied_plain_at .later [] _ _ _ _ said (fun _ h => by cases h) cWf (fun _ h => by cases h) topEmberRing_row_tie rfl ⟨rfl, rfl⟩ cMain rfl plain cGoes
#print axioms card
end Go.Proofs.YtpmjiifdnnhecaaGreatDoor.topEmberRing
