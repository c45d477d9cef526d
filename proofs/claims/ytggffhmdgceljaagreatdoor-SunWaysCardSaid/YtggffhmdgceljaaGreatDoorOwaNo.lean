/-
  The iterator over the ticks of a sky: each tick with the sun at it, for every loop body that keeps the sky.
-/
import Derived.Test.YtggffhmdgceljaaGreatDoorRows
import Derived.WalkKit
import Derived.WalkSpells
import Derived.WalkLawsBesides
import Derived.Lib.Hide
import Derived.BigQuiet
import Derived.Deep.QuietTactic
import Derived.Handy
import Derived.Deep.RegionHeld3
import Derived.Deep.RegionWith
import Derived.StillTailTactics
import Derived.RangeFuncNested
import Derived.RangeFuncBound
import Derived.RangeFuncCalls
import Derived.RangeFuncLeaves
import Derived.RangeFuncBox
import Derived.Shelf.Abstract
import Derived.Shelf.RegionOpen
import Derived.OwnWalkIn
import Derived.TacticsInMore
import Derived.LoopNIn
import Derived.LoopIn
import Derived.Maps.AppendAt
import Derived.Test.YtggffhmdgceljaaGreatDoorProg
import Derived.Laws.FloatArith
import Derived.Laws.BitsAllLaws
import Derived.Deep.DeepCutAuto
import Derived.Stop.BytesEq
import Derived.Deep.MidRow
import Derived.Laws.CopyRow
import Derived.WalkMore
import Derived.Deep.DrawnRows
import Derived.Deep.CutBlock
import Derived.Orders
import Derived.LoopTactic
import Derived.Laws.StructEq
import Derived.Deep.RegionLaw
import Derived.RegionTactic
import Derived.StillTail
import Derived.Laws.RangeString
import Derived.Laws.RangeAny
import Derived.RowKit
import Derived.Test.YtggffhmdgceljaaGreatDoorOwaWn
import Derived.Test.YtggffhmdgceljaaGreatDoorOwaXe
import Derived.Test.YtggffhmdgceljaaGreatDoorOwaIb
import Derived.Test.YtggffhmdgceljaaGreatDoorOwaNd
import Derived.Test.YtggffhmdgceljaaGreatDoorOwaId
import Derived.Test.YtggffhmdgceljaaGreatDoorOwaNc
import Derived.Test.YtggffhmdgceljaaGreatDoorOwaNh
import Derived.Test.YtggffhmdgceljaaGreatDoorOwaNi
import Derived.Test.YtggffhmdgceljaaGreatDoorOwaWo
namespace Go.Proofs.YtggffhmdgceljaaGreatDoor
open Go.RowKit Go.Shelf
set_option linter.unusedVariables false
set_option linter.unusedSimpArgs false
attribute [local go_sem] Oper.semAt_some

/-- The tick's number, from the first one on. -/
abbrev Tk (M : Nat) := { k : Nat // k ≤ M }
/-- What a round gets: the tick and the sun at it. -/
abbrev encT {M : Nat} (t0 : Int) (p : Nat → Int × Int × Int) (x : Tk M) : Array Value := #[.int .i64 (t0 + (x.1 : Nat)), .agg #[.int .i64 (p x.1).1, .int .i64 (p x.1).2.1, .int .i64 (p x.1).2.2]]

/-- The sky lies in a world: its box, and its suns. -/
def SkyIn (Bs b q n c : Nat) (s : ByteArray) (L : List SunV) (W : World) : Prop :=
  (W.cell? ⟨Bs, 0, none⟩ = some (.string s) ∧ W.cell? ⟨Bs, 1, none⟩ = some (.slice (some ⟨b, q, none⟩) n c)) ∧ SunsAt W b q L ∧ b < W.heap.size ∧ Bs < W.heap.size
def KeepsSky (Bs b q n c : Nat) (s : ByteArray) (L : List SunV) (A B : World) : Prop := SkyIn Bs b q n c s L A → SkyIn Bs b q n c s L B
theorem KeepsSky.t {Bs b q n c : Nat} {s : ByteArray} {L : List SunV} {A B C : World} (h : KeepsSky Bs b q n c s L A B) (k : KeepsSky Bs b q n c s L B C) : KeepsSky Bs b q n c s L A C := fun x => k (h x)
theorem KeepsSky.b {Bs b q n c N : Nat} {s : ByteArray} {L : List SunV} (A : World) (l : Nat) (o o' : Obj) (_ : N ≤ l) (hl : A.heap[l]? = some o) (ho : o.isCells = false) (_ : o.isWalk = false) : KeepsSky Bs b q n c s L A (A.putObj l o') := fun ⟨⟨h1, h2⟩, h3, h4, h5⟩ => by
  have k : ∀ {a : Addr} {v : Value}, A.cell? a = some v → (A.putObj l o').cell? a = some v := fun x => cell_kept x (grownBy_putObj' A l o') (fun r e => by cases e; exact ⟨o, hl, ho⟩)
  exact ⟨⟨k h1, k h2⟩, fun j hj i v hv => k (h3 j hj i v hv), Nat.lt_of_lt_of_le h4 (grownBy_putObj' A l o').size, Nat.lt_of_lt_of_le h5 (grownBy_putObj' A l o').size⟩
theorem SkyIn.on {Bs b q n c : Nat} {s : ByteArray} {L : List SunV} {A C : World} (h : SkyIn Bs b q n c s L A) (hb : Below A.heap.size A C) : SkyIn Bs b q n c s L C := by
  obtain ⟨⟨h1, h2⟩, h3, h4, hB⟩ := h
  exact ⟨⟨(hb.cell (p := ⟨Bs, 0, none⟩) hB).trans h1, (hb.cell (p := ⟨Bs, 1, none⟩) hB).trans h2⟩, h3.kept hb h4, Nat.lt_of_lt_of_le h4 hb.size, Nat.lt_of_lt_of_le hB hb.size⟩

set_option maxRecDepth 100000 in
set_option maxHeartbeats 3200000 in
theorem ticks1_in (m : Nat) (hm1 : 1 ≤ m) (l Bs b q n c M : Nat) (s : ByteArray) (L : List SunV) (t0 : Int) (p : Nat → Int × Int × Int) (hn : L.length = n) (hn0 : 0 < n) (hn64 : n ≤ 64) (hM : M ≤ 10000000) (ht0 : (L[0]?.getD sunZ).t = t0) (htl : (L[n - 1]?.getD sunZ).t = t0 + (M : Int)) (hr0 : 0 ≤ t0 ∧ t0 ≤ 10000000)
    (hS : ∀ (k : Nat) (W : World), k ≤ M → SunsAt W b q L → b < W.heap.size → Calls Tryz.prog 84 #[.slice (some ⟨b, q, none⟩) n c, .int .i64 (t0 + (k : Int))] W fun e w' => e = .returned (.agg #[.int .i64 (p k).1, .int .i64 (p k).2.1, .int .i64 (p k).2.2]) ∧ Below W.heap.size W w')
    (J Jx : List (Tk M) → World → Prop) (w : World) (hAb : AbidesFrom w.heap.size J) 
    (hY : ∀ pre x W1, J pre W1 → pre.length < M + 1 → YieldAt Fence.wide (m - 1) Tryz.prog l (encT t0 p x) W1 fun e W' =>
      (e = .returned (.bool true) ∧ J (pre ++ [x]) W' ∧ KeepsSky Bs b q n c s L W1 W') ∨ (e = .returned (.bool false) ∧ Jx (pre ++ [x]) W'))
    (hI : SkyIn Bs b q n c s L w) (h0 : J [] w) :
    CallsIn Fence.wide m Tryz.prog 105 #[.func (.yield l) #[] #[], .pointer (some ⟨Bs, 0, none⟩)] w fun e W' => (∃ v, e = .returned v) ∧
      ((∃ ys : List (Tk M), ys.map Subtype.val = List.range (M + 1) ∧ J ys W') ∨ (∃ pre, True ∧ Jx pre W')) := by
  have HY := Lib.hid hY
  have HS := Lib.hid hS
  have HA := Lib.hid hAb
  clear hY hS hAb
  have hro : Fence.wide.round = none := rfl
  have x0 : ∀ w1, (Instr.indexAt 78 (.slice (some ⟨b, q, none⟩) n c) (.int .i64 0)).run Tryz.prog w1 = .ok (.pointer (some ⟨b, q, none⟩)) w1 := fun w1 => by
    have h := sun_index b q n c 0 hn0 w1
    rw [Nat.zero_mul, Nat.add_zero] at h
    exact h
  have xl : ∀ w1, (Instr.indexAt 78 (.slice (some ⟨b, q, none⟩) n c) (.int .i64 ((n : Int) - 1))).run Tryz.prog w1 = .ok (.pointer (some ⟨b, q + (n - 1) * 4, none⟩)) w1 := fun w1 => by
    have h := sun_index b q n c (n - 1) (by omega) w1
    rwa [show ((n - 1 : Nat) : Int) = (n : Int) - 1 by omega] at h
  have xw : IntKind.i64.wrap ((n : Int) - 1) = (n : Int) - 1 := IntWalk.i64_in _ ⟨by omega, by omega⟩
  have HC : Hid (∀ W, SkyIn Bs b q n c s L W → W.cell? ⟨b, q, none⟩ = some (.int .i64 t0) ∧ W.cell? ⟨b, q + (n - 1) * 4, none⟩ = some (.int .i64 (t0 + (M : Int)))) := Lib.hid fun W h => by
    have h1 := (h.2.1.cell0 (show 0 < L.length by omega)).1
    have h2 := (h.2.1.cell0 (show n - 1 < L.length by omega)).1
    rw [ht0, Nat.zero_mul, Nat.add_zero] at h1
    rw [htl] at h2
    exact ⟨h1, h2⟩
  obtain ⟨ol, hol⟩ : ∃ ol, q + (n - 1) * 4 = ol := ⟨_, rfl⟩
  simp only [hol] at xl
  rw [hol] at HC
  obtain ⟨tl, htl'⟩ : ∃ tl, t0 + (M : Int) = tl := ⟨_, rfl⟩
  rw [htl'] at HC
  clear hol htl ht0 hn
  obtain ⟨⟨c0, c1⟩, cS, cB, cBs⟩ := hI
  obtain ⟨g0, g1⟩ := HC.out w ⟨⟨c0, c1⟩, cS, cB, cBs⟩
  refine callsIn_of_wp Tryz.func105 rfl trivial ?_ hro
  simp only [Tryz.ntmps105, List.size_toArray, List.length_cons, List.length_nil, Nat.reduceAdd, Nat.reduceSub, Array.replicate_succ, Array.replicate_zero, List.push_toArray, List.append_toArray, List.nil_append, List.cons_append]
  gi_wp2
  gi_loopw [3] (fun tv wr => ∃ k : Nat, k ≤ M + 1 ∧ tv = .int .i64 (t0 + (k : Int)) ∧ Hid (SkyIn Bs b q n c s L wr) ∧ ∃ ks : List (Tk M), ks.map Subtype.val = List.range k ∧ Hid (J ks wr))
    (fun tv _ => M + 1 - (intOf tv - t0).toNat)
  case atStart => exact ⟨0, Nat.zero_le _, by simp, Lib.hid ⟨⟨c0, c1⟩, cS, cB, cBs⟩, [], rfl, Lib.hid h0⟩
  case round =>
    obtain ⟨k, hk, rfl, hsk, ks, hks, hJ⟩ := hrel
    clear c0 c1 cS cB cBs g0 g1 h0
    have HKS := Lib.hid hks
    clear hks
    obtain ⟨⟨c0, c1⟩, cS, cB, cBs⟩ := hsk.out
    obtain ⟨g0, g1⟩ := HC.out wr hsk.out
    by_cases hlt : k ≤ M
    · have j1 : t0 + (k : Int) ≤ tl := by omega
      have HK := Lib.hid (HS.out k wr hlt cS cB)
      have hlen : ks.length < M + 1 := by
        have h := congrArg List.length HKS.out
        simp at h
        omega
      obtain ⟨tk, htk⟩ : ∃ tk : Int, t0 + (k : Int) = tk := ⟨_, rfl⟩
      have hb8 : tk ≤ 20000000 ∧ 0 ≤ tk := by omega
      rw [htk] at j1 HK ⊢
      have HT := Lib.hid htk
      have hE : Hid (encT t0 p (⟨k, hlt⟩ : Tk M) = #[.int .i64 tk, .agg #[.int .i64 (p k).1, .int .i64 (p k).2.1, .int .i64 (p k).2.2]]) := Lib.hid (by show #[Value.int .i64 (t0 + (k : Int)), _] = _; rw [htk])
      clear htk
      clear cS cB cBs
      gi_wp2_with (first
        | (refine ⟨trivial, ?_⟩; gi_at_call 84; refine (callsIn_wide.2 HK.out).mono ?_; rintro e W2 ⟨rfl, hb2⟩
           have hJ2 : J ks W2 := HA.out ks wr W2 none hJ.out ⟨hb2.os, hb2.tape, hb2.output, hb2.size, fun k hk _ => hb2.block k hk⟩ (fun r e => by cases e)
           have hI2 := Lib.hid (hsk.out.on hb2)
           obtain ⟨fn, tmps, assign, body, hy1, hR⟩ := HY.out ks ⟨k, hlt⟩ W2 hJ2 hlen
           have HR := Lib.hid hR
           rw [hE.out] at hy1
           clear hR hJ2))
      refine HR.out.mono ?_
      rintro e W3 (⟨rfl, hJ3, hk3⟩ | ⟨rfl, hJx3⟩)
      · have hI3 := Lib.hid (hk3 hI2.out)
        have HJ3 := Lib.hid hJ3
        clear hJ3 hk3
        gi_wp2
        go_roundw
        case rel => exact ⟨k + 1, by omega, (by have h := HT.out; congr 1; omega), hI3, _, by rw [List.map_append, HKS.out, List.range_succ]; rfl, HJ3⟩
        case measure => have h := HT.out; simp [intOf]; omega
      · have HJ3 := Lib.hid hJx3
        clear hJx3
        gi_wp2
        refine bodyPost_ret (results_none rfl _ _ _) rfl ?_
        exact ⟨⟨_, rfl⟩, .inr ⟨_, trivial, HJ3.out⟩⟩
    · have j1 : ¬ t0 + (k : Int) ≤ tl := by omega
      gi_wp2
      go_end0
      obtain rfl : k = M + 1 := by omega
      exact ⟨⟨_, rfl⟩, .inl ⟨ks, (by have h := HKS.out; rw [List.range_succ] at h; simpa using h), hJ.out⟩⟩

theorem ticks_stops (m : Nat) (hm1 : 1 ≤ m) (Bs b q n c M : Nat) (s : ByteArray) (L : List SunV) (t0 : Int) (p : Nat → Int × Int × Int) (hn : L.length = n) (hn0 : 0 < n) (hn64 : n ≤ 64) (hM : M ≤ 10000000) (ht0 : (L[0]?.getD sunZ).t = t0) (htl : (L[n - 1]?.getD sunZ).t = t0 + (M : Int)) (hr0 : 0 ≤ t0 ∧ t0 ≤ 10000000)
    (hS : ∀ (k : Nat) (W : World), k ≤ M → SunsAt W b q L → b < W.heap.size → Calls Tryz.prog 84 #[.slice (some ⟨b, q, none⟩) n c, .int .i64 (t0 + (k : Int))] W fun e w' => e = .returned (.agg #[.int .i64 (p k).1, .int .i64 (p k).2.1, .int .i64 (p k).2.2]) ∧ Below W.heap.size W w')
    (w : World) (hI : SkyIn Bs b q n c s L w) :
    SeqStopsK Fence.wide m Tryz.prog 105 #[.pointer (some ⟨Bs, 0, none⟩)] (encT (M := M) t0 p) (KeepsSky Bs b q n c s L) (fun ys : List (Tk M) => ys.map Subtype.val = List.range (M + 1)) (fun _ => True) (M + 1) w := fun l J Jx W1 hW1 hAb _ hY h0 =>
  ticks1_in m hm1 l Bs b q n c M s L t0 p hn hn0 hn64 hM ht0 htl hr0 hS J Jx W1 hAb hY (hI.on hW1) h0

set_option maxHeartbeats 1000000 in
/-- The iterator's maker: the sky is boxed; the function value captures the box. -/
theorem ticks_in (m : Nat) (sv sl : Value) (w : World) :
    CallsIn Fence.wide m Tryz.prog 82 #[.agg #[sv, sl]] w fun e w' => e = .returned (.func (.func 105) #[] #[.pointer (some ⟨w.heap.size, 0, none⟩)]) ∧ w' = w.alloc (.cells #[sv, sl] 80) := by
  refine callsIn_of_wp Tryz.func82 rfl trivial ?_ rfl
  simp only [Tryz.ntmps82, List.size_toArray, List.length_cons, List.length_nil, Nat.reduceAdd, Nat.reduceSub, Array.replicate_succ, Array.replicate_zero, List.push_toArray, List.append_toArray, List.nil_append, List.cons_append]
  gi_wp2
  go_ret
  exact ⟨rfl, rfl⟩
end Go.Proofs.YtggffhmdgceljaaGreatDoor

/-
  Contract of Daylight, for a valid sky.
-/
namespace Go.Proofs.YtggffhmdgceljaaGreatDoor
open Go.RowKit Go.Shelf
set_option linter.unusedVariables false
set_option linter.unusedSimpArgs false
attribute [local go_sem] Oper.semAt_some

/-- The spans of the ticks of a list at which the sun has risen. -/
def dayAdd (T0 : Nat) (p : Nat → Int × Int × Int) (l : List (Int × Int)) (k : Nat) : List (Int × Int) := if 0 < (p k).2.2 then extL l ((T0 + k : Nat) : Int) else l
def dayF (T0 : Nat) (p : Nat → Int × Int × Int) (ks : List Nat) : List (Int × Int) := ks.foldl (dayAdd T0 p) []
theorem dayF_one (T0 : Nat) (p : Nat → Int × Int × Int) (ks : List Nat) (k : Nat) : dayF T0 p (ks ++ [k]) = dayAdd T0 p (dayF T0 p ks) k := by
  unfold dayF
  rw [List.foldl_append]
  rfl
theorem dayF_len0 (T0 : Nat) (p : Nat → Int × Int × Int) : ∀ (ks : List Nat) (l : List (Int × Int)), (ks.foldl (dayAdd T0 p) l).length ≤ l.length + ks.length
  | [], _ => Nat.le_refl _
  | k :: ks, l => by
    have h1 := dayF_len0 T0 p ks (dayAdd T0 p l k)
    have h2 : (dayAdd T0 p l k).length ≤ l.length + 1 := by
      unfold dayAdd
      split
      · exact extL_len l _
      · omega
    simp only [List.foldl_cons, List.length_cons]
    omega
theorem dayF_len (T0 : Nat) (p : Nat → Int × Int × Int) (ks : List Nat) : (dayF T0 p ks).length ≤ ks.length := by
  have h := dayF_len0 T0 p ks []
  unfold dayF
  simpa using h

theorem sky_own {β : Type} (Bs b q n c : Nat) (s : ByteArray) (L : List SunV) : Own (fun (_ : β) W => SkyIn Bs b q n c s L W) := fun _ X Y row ⟨⟨h1, h2⟩, h3, h4, h5⟩ hg hr => by
  have k : ∀ {a : Addr} {v : Value}, X.cell? a = some v → Y.cell? a = some v := fun x => cell_kept x hg hr
  exact ⟨⟨k h1, k h2⟩, fun j hj i v hv => k (h3 j hj i v hv), Nat.lt_of_lt_of_le h4 hg.size, Nat.lt_of_lt_of_le h5 hg.size⟩
theorem SkyIn.row {Bs b q n c N : Nat} {s : ByteArray} {L : List SunV} {A C : World} {row : Option Nat} (h : SkyIn Bs b q n c s L A) (hg : A.grownBy C row) (hr : ∀ g, row = some g → N ≤ g) (h1 : Bs < N) (h2 : b < N) : SkyIn Bs b q n c s L C := by
  obtain ⟨⟨c0, c1⟩, c2, c3, c4⟩ := h
  have kb : ∀ (B o : Nat), B < N → B < A.heap.size → C.cell? ⟨B, o, none⟩ = A.cell? ⟨B, o, none⟩ := fun B o hB hA => by
    unfold World.cell?
    rw [hg.block B hA (fun e => by have := hr B e.symm; omega)]
  exact ⟨⟨(kb _ _ h1 c4).trans c0, (kb _ _ h1 c4).trans c1⟩, fun j hj i v hv => (kb _ _ h2 c3).trans (c2 j hj i v hv), Nat.lt_of_lt_of_le c3 hg.size, Nat.lt_of_lt_of_le c4 hg.size⟩

/-- The numbers of ticks. -/
def tkL {M : Nat} (ks : List (Tk M)) : List Nat := ks.map Subtype.val
theorem tkL_one {M : Nat} (ks : List (Tk M)) (x : Tk M) : tkL (ks ++ [x]) = tkL ks ++ [x.1] := by unfold tkL; rw [List.map_append]; rfl
theorem tkL_len {M : Nat} (ks : List (Tk M)) : (tkL ks).length = ks.length := by unfold tkL; rw [List.length_map]
def AnyVal (_ : Value) : Prop := True
theorem AnyVal.i (v : Value) : AnyVal v := trivial
theorem extL_some (l : List (Int × Int)) (a : Int) : ∃ k, (extL l a).length = k + 1 := by
  unfold extL
  split
  · rename_i h
    exact ⟨l.length - 1, by simp; omega⟩
  · exact ⟨l.length, by simp⟩

set_option maxRecDepth 100000 in
set_option maxHeartbeats 6400000 in
theorem daylight_ok (s : ByteArray) (L : List SunV) (b q n c M T0 : Nat) (p : Nat → Int × Int × Int) (w : World) (hb : b < w.heap.size) (hA : SunsAt w b q L) (hn : L.length = n) (hn0 : 0 < n) (hn64 : n ≤ 64) (hM : M ≤ 12998) (ht0 : (L[0]?.getD sunZ).t = (T0 : Int)) (htl : (L[n - 1]?.getD sunZ).t = (T0 : Int) + (M : Int)) (hr0 : T0 ≤ 10000000)
    (hS : ∀ (k : Nat) (W : World), k ≤ M → SunsAt W b q L → b < W.heap.size → Calls Tryz.prog 84 #[.slice (some ⟨b, q, none⟩) n c, .int .i64 ((T0 : Int) + (k : Int))] W fun e w' => e = .returned (.agg #[.int .i64 (p k).1, .int .i64 (p k).2.1, .int .i64 (p k).2.2]) ∧ Below W.heap.size W w')
    (KC : ∀ w1 : World, Below w.heap.size w w1 → Calls Tryz.prog 81 #[.agg #[.string s, .slice (some ⟨b, q, none⟩) n c]] w1 fun e w' => e = .returned (.int .i64 0) ∧ Below w1.heap.size w1 w') :
    CallsIn Fence.wide 6 Tryz.prog 34 #[.agg #[.string s, .slice (some ⟨b, q, none⟩) n c]] w fun e w' => ∃ v, e = .returned (.tuple #[v, .int .i64 0]) ∧
      w'.ownsRow w.heap.size 86 2 v (dayF T0 p (List.range (M + 1))).length ((dayF T0 p (List.range (M + 1))).flatMap qval) ∧ Below w.heap.size w w' := by
  have HKC := Lib.hid KC
  have HS := Lib.hid hS
  have HA := Lib.hid hA
  have hro : Fence.wide.round = none := rfl
  clear KC hS hA
  refine callsIn_of_wp_marks Tryz.func34 rfl trivial ?_ hro
  simp only [Tryz.ntmps34, List.size_toArray, List.length_cons, List.length_nil, Nat.reduceAdd, Nat.reduceSub, Array.replicate_succ, Array.replicate_zero, List.push_toArray, List.append_toArray, List.nil_append, List.cons_append]
  obtain ⟨Wb, hWb⟩ : ∃ Wb, w.alloc (.cells #[.string s, .slice (some ⟨b, q, none⟩) n c] 80) = Wb := ⟨_, rfl⟩
  have K0 : Hid (Kp w Wb [(w.heap.size, .cells #[.string s, .slice (some ⟨b, q, none⟩) n c] 80 (0, 0))]) := Lib.hid (by
    rw [← hWb]
    have k := (Kp.none w).alloc (.cells #[.string s, .slice (some ⟨b, q, none⟩) n c] 80)
    simpa using k)
  have hKC := Lib.hid (HKC.out Wb (Kp.below K0.out))
  obtain ⟨c0, c1⟩ := cells2 (K0.out.2 _ (.head _))
  gi_wp2_with (first
    | (refine ⟨trivial, ?_⟩; gi_at_call 81; try rw [hWb]
       refine (callsIn_wide.2 hKC.out).mono ?_; rintro e w2 ⟨rfl, hb2⟩
       have K2 := Lib.hid (K0.out.call hb2)
       have K3 := Lib.hid (K2.out.alloc (.cells #[.slice none 0 0] 75))
       clear c0 c1
       obtain ⟨c0, c1⟩ := cells2 (K3.out.2 _ (.tail _ (.head _))))
    | (refine ⟨trivial, ?_⟩; gi_at_call 82; refine (ticks_in _ _ _ _).mono ?_; rintro e w' ⟨rfl, rfl⟩))
  obtain ⟨W0, hW0⟩ : ∃ W0, (w2.alloc (.cells #[.slice none 0 0] 75)).alloc (.cells #[.string s, .slice (some ⟨b, q, none⟩) n c] 80) = W0 := ⟨_, rfl⟩
  have hb2' : Below w.heap.size w w2 := Kp.below K2.out
  have hb0 : Below w.heap.size w W0 := by rw [← hW0]; exact (hb2'.alloc hb2'.size _).alloc (by simp; have := hb2'.size; omega) _
  have hsz : W0.heap.size = w2.heap.size + 2 := by rw [← hW0]; simp
  have bS : Boxed W0 w2.heap.size 75 (.slice none 0 0) := by rw [← hW0]; exact (Boxed.new w2 _ _).alloc _
  have bI : SkyIn (w2.heap.size + 1) b q n c s L W0 := by
    have h1 : W0.heap[w2.heap.size + 1]? = some (.cells #[.string s, .slice (some ⟨b, q, none⟩) n c] 80 (0, 0)) := by
      rw [← hW0]
      have h := World.alloc_heap_new (w2.alloc (.cells #[.slice none 0 0] 75)) (.cells #[.string s, .slice (some ⟨b, q, none⟩) n c] 80)
      rwa [World.size_alloc] at h
    exact ⟨cells2 h1, HA.out.kept hb0 hb, by have := hb2'.size; omega, by omega⟩
  have hsb : w.heap.size ≤ w2.heap.size := hb2'.size
  rw [hW0]
  clear hW0 K3 K2 c0 c1 K0 hWb hb2'
  obtain ⟨B5, hB5⟩ : ∃ B5, w2.heap.size = B5 := ⟨_, rfl⟩
  rw [hB5] at bS bI hsz hsb ⊢
  clear hB5
  obtain ⟨N0, hN0⟩ : ∃ N0, W0.heap.size = N0 := ⟨_, rfl⟩
  have hbN : b < N0 := by omega
  have hM0 : (0 : Int) ≤ T0 ∧ (T0 : Int) ≤ 10000000 := by omega
  refine wpIn_rangeFunc_ownH hro (by omega) (gf := 105) (lb := #[.pointer (some ⟨B5 + 1, 0, none⟩)]) rfl trivial (enters_of Tryz.func105 (by kernel_rfl) rfl)
    (ticks_stops (6 - 1) (by omega) (B5 + 1) b q n c M s L (T0 : Int) p hn hn0 hn64 (by omega) ht0 htl hM0 HS.out W0 bI) KeepsSky.t KeepsSky.b (Below.refl _ _) (fun _ => rfl)
    (fun pre W1 => ((∃ v, Boxed W1 B5 75 v ∧ W1.ownsRow N0 86 2 v (dayF T0 p (tkL pre)).length ((dayF T0 p (tkL pre)).flatMap qval) ∧ AnyVal v) ∧ SkyIn (B5 + 1) b q n c s L W1) ∧ Below w.heap.size w W1 ∧ N0 ≤ W1.heap.size)
    (fun _ _ _ => False)
    (OwnFrom.and (OwnFrom.and (Own.from (holdsRow_own N0 B5 75 86 2 (fun pre : List (Tk M) => (dayF T0 p (tkL pre)).length) (fun pre => (dayF T0 p (tkL pre)).flatMap qval) (fun _ v => AnyVal v)) _) (Own.from (sky_own _ _ _ _ _ _ _) _)) (OwnFrom.and (ownFrom_below (Nat.le_refl _) (by omega)) (fun _ _ _ _ hs hg _ => Nat.le_trans hs hg.size)))
    (fun _ _ _ _ _ hs _ _ => hs)
    ⟨⟨⟨_, bS, World.ownsRow_nil _ _ _ _, AnyVal.i _⟩, bI⟩, hb0, by omega⟩
    (fun x a' W1 => ∃ Bx, W1.heap[Bx]? = some (.cells #[.int .i64 (p x.1).1, .int .i64 (p x.1).2.1, .int .i64 (p x.1).2.2] 94 (0, 0)) ∧ N0 ≤ W1.heap.size ∧ a' = { tmps := #[.agg #[.string s, .slice (some ⟨b, q, none⟩) n c], .pointer (some ⟨w.heap.size, 0, none⟩), .slice none 0 0, .int .i64 0, .int .i64 0, .pointer (some ⟨B5, 0, none⟩), .int .i64 ((T0 : Int) + (x.1 : Int)), .pointer (some ⟨Bx, 0, none⟩), .agg #[.string s, .slice (some ⟨b, q, none⟩) n c], .int .i64 0, .int .i64 0, .bool false, undef, .agg #[.string s, .slice (some ⟨b, q, none⟩) n c], .func (.func 105) #[] #[.pointer (some ⟨B5 + 1, 0, none⟩)], .int .i64 ((T0 : Int) + (x.1 : Int)), .agg #[.int .i64 (p x.1).1, .int .i64 (p x.1).2.1, .int .i64 (p x.1).2.2], undef, undef, undef, undef, undef, undef, undef], defers := [] })
    (fun x a' _ X Y row hs hg hr => by obtain ⟨Bx, h1, h2, h3⟩ := hs; exact ⟨Bx, row_own (β := Unit) Bx _ _ () X Y row h1 hg (fun r e => (hr r e).2), Nat.le_trans h2 hg.size, h3⟩)
    ?assign ?body ?done ?stop
  case assign =>
    rintro l pre x W1 K ⟨⟨⟨v, hv, hrow, _⟩, hI⟩, hB1, hN1⟩ hK
    gi_wp2
    have hal : Below W1.heap.size W1 (W1.alloc (.cells #[.int .i64 (p x.1).1, .int .i64 (p x.1).2.1, .int .i64 (p x.1).2.2] 94)) := below_allocS (Below.refl _ _) _
    exact hK _ _ ((KeepsOthers.alloc _ _).from _) (fun h => h.on hal) ⟨⟨⟨v, hv.alloc _, hrow.alloc _, AnyVal.i _⟩, hI.on hal⟩, hB1.alloc hB1.size _, Nat.le_trans hN1 hal.size⟩ ⟨W1.heap.size, heap_alloc_new W1 _, Nat.le_trans hN1 hal.size, rfl⟩
  case body =>
    rintro l pre x a' W1 hl ⟨r, hr⟩ ⟨⟨⟨v, hv, hrow, _⟩, hI⟩, hB1, hN1⟩ ⟨Bx, bX, _, rfl⟩ hlt
    obtain ⟨x0, x1, x2⟩ := cells3 bX
    have cS := hv.cell
    have fS := hv.frozen
    have hL := dayF_len T0 p (tkL pre)
    rw [tkL_len] at hL
    have hone := dayF_one T0 p (tkL pre) x.1
    have HONE : Hid (dayF T0 p (tkL (pre ++ [x])) = dayAdd T0 p (dayF T0 p (tkL pre)) x.1) := Lib.hid (by rw [tkL_one]; exact hone)
    clear hone
    obtain ⟨l0, hl0⟩ : ∃ l0, dayF T0 p (tkL pre) = l0 := ⟨_, rfl⟩
    rw [hl0] at hrow hL HONE
    by_cases hz : 0 < (p x.1).2.2
    · have hx := x.2
      have HX : Hid (dayAdd T0 p l0 x.1 = extL l0 ((T0 + x.1 : Nat) : Int)) := Lib.hid (by unfold dayAdd; rw [if_pos hz])
      have K := extended_any l0 (T0 + x.1) N0 v W1 hN1 (by omega) (by omega) hrow
      rw [show ((T0 + x.1 : Nat) : Int) = (T0 : Int) + (x.1 : Int) by omega] at K HX
      have HK := Lib.hid K
      clear K
      have HROW := Lib.hid hrow
      clear hrow
      gi_wp2_with (first
        | (refine ⟨trivial, ?_⟩; gi_at_call 83; refine (CallsIn.inRound l (callsIn_wide.2 HK.out)).mono ?_; rintro e W2 ⟨v', rfl, hrow2, hg2⟩
           obtain ⟨k8, hk8⟩ := extL_some l0 ((T0 : Int) + (x.1 : Int))
           rw [hk8] at hrow2
           obtain ⟨g, cap, rfl⟩ := ownsRow_succ hrow2
           have HK8 := Lib.hid hk8
           have hv2 := hv.kept hg2 (hv.not_row (by decide) HROW.out)
           have cS2 := hv2.cell
           have fS2 := hv2.frozen
           have HR2 := Lib.hid hrow2
           have HG2 := Lib.hid hg2
           have HV2 := Lib.hid hv2
           clear hrow2 hg2 hv2 cS fS hk8))
      have hown : ∀ g, v.ownBlock = some g → N0 ≤ g := fun g e => by
        rcases HROW.out.2 with ⟨rfl, _⟩ | ⟨g', cap, cur, rfl, hB, _⟩
        · simp [Value.ownBlock] at e
        · obtain rfl : g' = g := by simpa [Value.ownBlock] using e
          exact hB
      have q2 := OnlyBlk.set W2 B5 0 (.slice (some ⟨g, 0, none⟩) (k8 + 1) cap)
      have hne : B5 ≠ g := fun e => by
        have h := HR2.out
        rcases h.2 with ⟨h0, _⟩ | ⟨g', cap', cur, h0, hB, _⟩
        · cases h0
        · injection h0 with h1
          injection h1 with h2
          injection h2 with h3
          omega
      have hg5 : B5 + 1 < N0 := by omega
      have hS3 : KeepsSky (B5 + 1) b q n c s L W1 (W2.setCell ⟨B5, 0, none⟩ (.slice (some ⟨g, 0, none⟩) (k8 + 1) cap)) := fun h => by
        obtain ⟨⟨c0, c1⟩, c2, c3, c4⟩ := h.row HG2.out hown hg5 hbN
        have hbB : b ≠ B5 := by omega
        have kk : ∀ (B o : Nat), B ≠ B5 → (W2.setCell ⟨B5, 0, none⟩ (.slice (some ⟨g, 0, none⟩) (k8 + 1) cap)).cell? ⟨B, o, none⟩ = W2.cell? ⟨B, o, none⟩ := fun B o hB => by
          unfold World.cell?
          rw [Below.heap_setCell _ _ _ _ hB]
        exact ⟨⟨(kk _ _ (by omega)).trans c0, (kk _ _ (by omega)).trans c1⟩, fun j hj i v hv => (kk _ _ hbB).trans (c2 j hj i v hv), Nat.lt_of_lt_of_le c3 (KeepsOthers.setCell _ _ _).size, Nat.lt_of_lt_of_le c4 (KeepsOthers.setCell _ _ _).size⟩
      refine ⟨((KeepsOthers.of_grownBy HG2.out fun j o ej hj => ?_).trans (KeepsOthers.setCell _ _ _)).from _, hS3, ⟨⟨_, HV2.out.set _, ?_, AnyVal.i _⟩, hS3 hI⟩, ?_, ?_⟩
      · rcases HROW.out.2 with ⟨rfl, _⟩ | ⟨g', cap', cur, rfl, _, hgb, _⟩
        · simp [Value.ownBlock] at ej
        · obtain rfl : g' = j := by simpa [Value.ownBlock] using ej
          rw [hgb] at hj; cases hj; rfl
      · rw [HONE.out, HX.out, HK8.out]
        exact HR2.out.kept (grownBy_setCell' W2 B5 _) (.inr (fun e => by simp [Value.ownBlock] at e; omega))
      · exact (hB1.grown HG2.out hB1.size (fun k e => by have := hown k e; omega)).setCell (p := ⟨B5, 0, none⟩) hsb _
      · exact Nat.le_trans hN1 (Nat.le_trans HG2.out.size (KeepsOthers.setCell _ _ _).size)
    · have HX : Hid (dayAdd T0 p l0 x.1 = l0) := Lib.hid (by unfold dayAdd; rw [if_neg hz])
      gi_wp2
      refine ⟨(KeepsOthers.refl _).from _, fun h => h, ⟨⟨v, hv, ?_, AnyVal.i _⟩, hI⟩, hB1, hN1⟩
      rw [HONE.out, HX.out]
      exact hrow
  case done =>
    rintro D ys W1 hD hys ⟨⟨⟨v, hv, hrow, _⟩, hI⟩, hB1, hN1⟩ hK
    rw [show tkL ys = List.range (M + 1) from hys] at hrow
    have cS := hv.cell
    have HROW := Lib.hid hrow
    have HBB := Lib.hid hB1
    clear hrow hB1
    gi_wp2
    refine ⟨by simp, .inl ⟨_, _, rfl, run_takeDeferred hK, ?_⟩⟩
    exact ⟨.tuple #[v, .int .i64 0], by simp [results, Tryz.results34, go_sem], v, rfl, ownsRow_putObj (owns_base HROW.out (by omega)) _ hK rfl, HBB.out.trans (belowK_b (w := w) (Nat.le_refl _) W1 D _ _ (by omega) hK rfl rfl)⟩
  case stop =>
    rintro D c pre W1 _ _ h _
    exact h.elim
end Go.Proofs.YtggffhmdgceljaaGreatDoor
