/-
  The iterator over the ticks of a sky: each tick with the sun at it, for every loop body that keeps the sky.
-/
import Derived.Test.YtpflbkgmgfhhnaaGreatDoorRows
import Derived.WalkKit
import Derived.WalkSpells
import Derived.WalkLawsBesides
import Derived.Lib.Hide
import Derived.BigQuiet
import Derived.Deep.QuietTactic
import Derived.Laws.FloatArith
import Derived.Laws.BitsAllLaws
import Derived.Deep.CutBlock
import Derived.Deep.DeepCutAuto
import Derived.Deep.RegionHeld3
import Derived.StillTailTactics
import Derived.LoopTactic
import Derived.Handy
import Derived.Laws.StructEq
import Derived.RangeFuncNested
import Derived.RangeFuncBound
import Derived.RangeFuncCalls
import Derived.RangeFuncLeaves
import Derived.RangeFuncBox
import Derived.Shelf.Abstract
import Derived.Shelf.RegionOpen
import Derived.OwnWalkIn
import Derived.TacticsInMore
import Derived.LoopNIn
import Derived.LoopIn
import Derived.Maps.AppendAt
import Derived.Test.YtpflbkgmgfhhnaaGreatDoorProg
import Derived.Deep.RegionWith
import Derived.Stop.BytesEq
import Derived.Deep.MidRow
import Derived.Laws.CopyRow
import Derived.WalkMore
import Derived.Deep.DrawnRows
import Derived.Deep.RegionLaw
import Derived.Orders
import Derived.RegionTactic
import Derived.StillTail
import Derived.Laws.RangeString
import Derived.Laws.RangeAny
import Derived.RowKit
import Derived.Test.YtpflbkgmgfhhnaaGreatDoorOtaXc
import Derived.Test.YtpflbkgmgfhhnaaGreatDoorOtaXe
import Derived.Test.YtpflbkgmgfhhnaaGreatDoorOtaIb
import Derived.Test.YtpflbkgmgfhhnaaGreatDoorOtaId
import Derived.Test.YtpflbkgmgfhhnaaGreatDoorOtaNd
import Derived.Test.YtpflbkgmgfhhnaaGreatDoorOtaNc
import Derived.Test.YtpflbkgmgfhhnaaGreatDoorOtaNh
import Derived.Test.YtpflbkgmgfhhnaaGreatDoorOtaNi
import Derived.Test.YtpflbkgmgfhhnaaGreatDoorOtaWo
import Derived.Test.YtpflbkgmgfhhnaaGreatDoorOtaWe
namespace Go.Proofs.YtpflbkgmgfhhnaaGreatDoor
open Go.RowKit Go.Shelf
set_option linter.unusedVariables false
set_option linter.unusedSimpArgs false
attribute [local go_sem] Oper.semAt_some

/-- The tick's number, from the first one on. -/
abbrev Tk (M : Nat) := { k : Nat // k ≤ M }
/-- What a round gets: the tick and the sun at it. -/
abbrev encT {M : Nat} (t0 : Int) (p : Nat → Int × Int × Int) (x : Tk M) : Array Value := #[.int .i64 (t0 + (x.1 : Nat)), .agg #[.int .i64 (p x.1).1, .int .i64 (p x.1).2.1, .int .i64 (p x.1).2.2]]

/-- The sky lies in a world: its box, and its suns. -/
def SkyIn (Bs b q n c : Nat) (s : ByteArray) (L : List SunV) (W : World) : Prop :=
  (W.cell? ⟨Bs, 0, none⟩ = some (.string s) ∧ W.cell? ⟨Bs, 1, none⟩ = some (.slice (some ⟨b, q, none⟩) n c)) ∧ SunsAt W b q L ∧ b < W.heap.size ∧ Bs < W.heap.size
def KeepsSky (Bs b q n c : Nat) (s : ByteArray) (L : List SunV) (A B : World) : Prop := SkyIn Bs b q n c s L A → SkyIn Bs b q n c s L B
theorem KeepsSky.t {Bs b q n c : Nat} {s : ByteArray} {L : List SunV} {A B C : World} (h : KeepsSky Bs b q n c s L A B) (k : KeepsSky Bs b q n c s L B C) : KeepsSky Bs b q n c s L A C := fun x => k (h x)
theorem KeepsSky.b {Bs b q n c N : Nat} {s : ByteArray} {L : List SunV} (A : World) (l : Nat) (o o' : Obj) (_ : N ≤ l) (hl : A.heap[l]? = some o) (ho : o.isCells = false) (_ : o.isWalk = false) : KeepsSky Bs b q n c s L A (A.putObj l o') := fun ⟨⟨h1, h2⟩, h3, h4, h5⟩ => by
  have k : ∀ {a : Addr} {v : Value}, A.cell? a = some v → (A.putObj l o').cell? a = some v := fun x => cell_kept x (grownBy_putObj' A l o') (fun r e => by cases e; exact ⟨o, hl, ho⟩)
  exact ⟨⟨k h1, k h2⟩, fun j hj i v hv => k (h3 j hj i v hv), Nat.lt_of_lt_of_le h4 (grownBy_putObj' A l o').size, Nat.lt_of_lt_of_le h5 (grownBy_putObj' A l o').size⟩
theorem SkyIn.on {Bs b q n c : Nat} {s : ByteArray} {L : List SunV} {A C : World} (h : SkyIn Bs b q n c s L A) (hb : Below A.heap.size A C) : SkyIn Bs b q n c s L C := by
  obtain ⟨⟨h1, h2⟩, h3, h4, hB⟩ := h
  exact ⟨⟨(hb.cell (p := ⟨Bs, 0, none⟩) hB).trans h1, (hb.cell (p := ⟨Bs, 1, none⟩) hB).trans h2⟩, h3.kept hb h4, Nat.lt_of_lt_of_le h4 hb.size, Nat.lt_of_lt_of_le hB hb.size⟩

set_option maxRecDepth 100000 in
set_option maxHeartbeats 3200000 in
theorem ticks1_in (m : Nat) (hm1 : 1 ≤ m) (l Bs b q n c M : Nat) (s : ByteArray) (L : List SunV) (t0 : Int) (p : Nat → Int × Int × Int) (hn : L.length = n) (hn0 : 0 < n) (hn64 : n ≤ 64) (hM : M ≤ 10000000) (ht0 : (L[0]?.getD sunZ).t = t0) (htl : (L[n - 1]?.getD sunZ).t = t0 + (M : Int)) (hr0 : 0 ≤ t0 ∧ t0 ≤ 10000000)
    (hS : ∀ (k : Nat) (W : World), k ≤ M → SunsAt W b q L → b < W.heap.size → Calls Tryz.prog 78 #[.slice (some ⟨b, q, none⟩) n c, .int .i64 (t0 + (k : Int))] W fun e w' => e = .returned (.agg #[.int .i64 (p k).1, .int .i64 (p k).2.1, .int .i64 (p k).2.2]) ∧ Below W.heap.size W w')
    (J Jx : List (Tk M) → World → Prop) (w : World) (hAb : AbidesFrom w.heap.size J) 
    (hY : ∀ pre x W1, J pre W1 → pre.length < M + 1 → YieldAt Fence.wide (m - 1) Tryz.prog l (encT t0 p x) W1 fun e W' =>
      (e = .returned (.bool true) ∧ J (pre ++ [x]) W' ∧ KeepsSky Bs b q n c s L W1 W') ∨ (e = .returned (.bool false) ∧ Jx (pre ++ [x]) W'))
    (hI : SkyIn Bs b q n c s L w) (h0 : J [] w) :
    CallsIn Fence.wide m Tryz.prog 98 #[.func (.yield l) #[] #[], .pointer (some ⟨Bs, 0, none⟩)] w fun e W' => (∃ v, e = .returned v) ∧
      ((∃ ys : List (Tk M), ys.map Subtype.val = List.range (M + 1) ∧ J ys W') ∨ (∃ pre, True ∧ Jx pre W')) := by
  have HY := Lib.hid hY
  have HS := Lib.hid hS
  have HA := Lib.hid hAb
  clear hY hS hAb
  have hro : Fence.wide.round = none := rfl
  have x0 : ∀ w1, (Instr.indexAt 88 (.slice (some ⟨b, q, none⟩) n c) (.int .i64 0)).run Tryz.prog w1 = .ok (.pointer (some ⟨b, q, none⟩)) w1 := fun w1 => by
    have h := sun_index b q n c 0 hn0 w1
    rw [Nat.zero_mul, Nat.add_zero] at h
    exact h
  have xl : ∀ w1, (Instr.indexAt 88 (.slice (some ⟨b, q, none⟩) n c) (.int .i64 ((n : Int) - 1))).run Tryz.prog w1 = .ok (.pointer (some ⟨b, q + (n - 1) * 4, none⟩)) w1 := fun w1 => by
    have h := sun_index b q n c (n - 1) (by omega) w1
    rwa [show ((n - 1 : Nat) : Int) = (n : Int) - 1 by omega] at h
  have xw : IntKind.i64.wrap ((n : Int) - 1) = (n : Int) - 1 := IntWalk.i64_in _ ⟨by omega, by omega⟩
  have HC : Hid (∀ W, SkyIn Bs b q n c s L W → W.cell? ⟨b, q, none⟩ = some (.int .i64 t0) ∧ W.cell? ⟨b, q + (n - 1) * 4, none⟩ = some (.int .i64 (t0 + (M : Int)))) := Lib.hid fun W h => by
    have h1 := (h.2.1.cell0 (show 0 < L.length by omega)).1
    have h2 := (h.2.1.cell0 (show n - 1 < L.length by omega)).1
    rw [ht0, Nat.zero_mul, Nat.add_zero] at h1
    rw [htl] at h2
    exact ⟨h1, h2⟩
  obtain ⟨ol, hol⟩ : ∃ ol, q + (n - 1) * 4 = ol := ⟨_, rfl⟩
  simp only [hol] at xl
  rw [hol] at HC
  obtain ⟨tl, htl'⟩ : ∃ tl, t0 + (M : Int) = tl := ⟨_, rfl⟩
  rw [htl'] at HC
  clear hol htl ht0 hn
  obtain ⟨⟨c0, c1⟩, cS, cB, cBs⟩ := hI
  obtain ⟨g0, g1⟩ := HC.out w ⟨⟨c0, c1⟩, cS, cB, cBs⟩
  refine callsIn_of_wp Tryz.func98 rfl trivial ?_ hro
  simp only [Tryz.ntmps98, List.size_toArray, List.length_cons, List.length_nil, Nat.reduceAdd, Nat.reduceSub, Array.replicate_succ, Array.replicate_zero, List.push_toArray, List.append_toArray, List.nil_append, List.cons_append]
  gi_wp2
  gi_loopw [3] (fun tv wr => ∃ k : Nat, k ≤ M + 1 ∧ tv = .int .i64 (t0 + (k : Int)) ∧ Hid (SkyIn Bs b q n c s L wr) ∧ ∃ ks : List (Tk M), ks.map Subtype.val = List.range k ∧ Hid (J ks wr))
    (fun tv _ => M + 1 - (intOf tv - t0).toNat)
  case atStart => exact ⟨0, Nat.zero_le _, by simp, Lib.hid ⟨⟨c0, c1⟩, cS, cB, cBs⟩, [], rfl, Lib.hid h0⟩
  case round =>
    obtain ⟨k, hk, rfl, hsk, ks, hks, hJ⟩ := hrel
    clear c0 c1 cS cB cBs g0 g1 h0
    have HKS := Lib.hid hks
    clear hks
    obtain ⟨⟨c0, c1⟩, cS, cB, cBs⟩ := hsk.out
    obtain ⟨g0, g1⟩ := HC.out wr hsk.out
    by_cases hlt : k ≤ M
    · have j1 : t0 + (k : Int) ≤ tl := by omega
      have HK := Lib.hid (HS.out k wr hlt cS cB)
      have hlen : ks.length < M + 1 := by
        have h := congrArg List.length HKS.out
        simp at h
        omega
      obtain ⟨tk, htk⟩ : ∃ tk : Int, t0 + (k : Int) = tk := ⟨_, rfl⟩
      have hb8 : tk ≤ 20000000 ∧ 0 ≤ tk := by omega
      rw [htk] at j1 HK ⊢
      have HT := Lib.hid htk
      have hE : Hid (encT t0 p (⟨k, hlt⟩ : Tk M) = #[.int .i64 tk, .agg #[.int .i64 (p k).1, .int .i64 (p k).2.1, .int .i64 (p k).2.2]]) := Lib.hid (by show #[Value.int .i64 (t0 + (k : Int)), _] = _; rw [htk])
      clear htk
      clear cS cB cBs
      gi_wp2_with (first
        | (refine ⟨trivial, ?_⟩; gi_at_call 78; refine (callsIn_wide.2 HK.out).mono ?_; rintro e W2 ⟨rfl, hb2⟩
           have hJ2 : J ks W2 := HA.out ks wr W2 none hJ.out ⟨hb2.os, hb2.tape, hb2.output, hb2.size, fun k hk _ => hb2.block k hk⟩ (fun r e => by cases e)
           have hI2 := Lib.hid (hsk.out.on hb2)
           obtain ⟨fn, tmps, assign, body, hy1, hR⟩ := HY.out ks ⟨k, hlt⟩ W2 hJ2 hlen
           have HR := Lib.hid hR
           rw [hE.out] at hy1
           clear hR hJ2))
      refine HR.out.mono ?_
      rintro e W3 (⟨rfl, hJ3, hk3⟩ | ⟨rfl, hJx3⟩)
      · have hI3 := Lib.hid (hk3 hI2.out)
        have HJ3 := Lib.hid hJ3
        clear hJ3 hk3
        gi_wp2
        go_roundw
        case rel => exact ⟨k + 1, by omega, (by have h := HT.out; congr 1; omega), hI3, _, by rw [List.map_append, HKS.out, List.range_succ]; rfl, HJ3⟩
        case measure => have h := HT.out; simp [intOf]; omega
      · have HJ3 := Lib.hid hJx3
        clear hJx3
        gi_wp2
        refine bodyPost_ret (results_none rfl _ _ _) rfl ?_
        exact ⟨⟨_, rfl⟩, .inr ⟨_, trivial, HJ3.out⟩⟩
    · have j1 : ¬ t0 + (k : Int) ≤ tl := by omega
      gi_wp2
      go_end0
      obtain rfl : k = M + 1 := by omega
      exact ⟨⟨_, rfl⟩, .inl ⟨ks, (by have h := HKS.out; rw [List.range_succ] at h; simpa using h), hJ.out⟩⟩

theorem ticks_stops (m : Nat) (hm1 : 1 ≤ m) (Bs b q n c M : Nat) (s : ByteArray) (L : List SunV) (t0 : Int) (p : Nat → Int × Int × Int) (hn : L.length = n) (hn0 : 0 < n) (hn64 : n ≤ 64) (hM : M ≤ 10000000) (ht0 : (L[0]?.getD sunZ).t = t0) (htl : (L[n - 1]?.getD sunZ).t = t0 + (M : Int)) (hr0 : 0 ≤ t0 ∧ t0 ≤ 10000000)
    (hS : ∀ (k : Nat) (W : World), k ≤ M → SunsAt W b q L → b < W.heap.size → Calls Tryz.prog 78 #[.slice (some ⟨b, q, none⟩) n c, .int .i64 (t0 + (k : Int))] W fun e w' => e = .returned (.agg #[.int .i64 (p k).1, .int .i64 (p k).2.1, .int .i64 (p k).2.2]) ∧ Below W.heap.size W w')
    (w : World) (hI : SkyIn Bs b q n c s L w) :
    SeqStopsK Fence.wide m Tryz.prog 98 #[.pointer (some ⟨Bs, 0, none⟩)] (encT (M := M) t0 p) (KeepsSky Bs b q n c s L) (fun ys : List (Tk M) => ys.map Subtype.val = List.range (M + 1)) (fun _ => True) (M + 1) w := fun l J Jx W1 hW1 hAb _ hY h0 =>
  ticks1_in m hm1 l Bs b q n c M s L t0 p hn hn0 hn64 hM ht0 htl hr0 hS J Jx W1 hAb hY (hI.on hW1) h0

set_option maxHeartbeats 1000000 in
/-- The iterator's maker: the sky is boxed; the function value captures the box. -/
theorem ticks_in (m : Nat) (sv sl : Value) (w : World) :
    CallsIn Fence.wide m Tryz.prog 79 #[.agg #[sv, sl]] w fun e w' => e = .returned (.func (.func 98) #[] #[.pointer (some ⟨w.heap.size, 0, none⟩)]) ∧ w' = w.alloc (.cells #[sv, sl] 90) := by
  refine callsIn_of_wp Tryz.func79 rfl trivial ?_ rfl
  simp only [Tryz.ntmps79, List.size_toArray, List.length_cons, List.length_nil, Nat.reduceAdd, Nat.reduceSub, Array.replicate_succ, Array.replicate_zero, List.push_toArray, List.append_toArray, List.nil_append, List.cons_append]
  gi_wp2
  go_ret
  exact ⟨rfl, rfl⟩
end Go.Proofs.YtpflbkgmgfhhnaaGreatDoor
