/-
  What the rows of chapter 1 share: arguments that come in, opened; the table that Itoa reads; a world for the witness.
-/
import Derived.Test.YthmaoeajbmfmaaaGreatDoorDVk
import Derived.Test.YthmaoeajbmfmaaaGreatDoorCards
import Derived.Test.YthmaoeajbmfmaaaGreatDoorTie
import Derived.WalkKit
import Derived.ProofKit
import Derived.OpenShut
import Derived.Lib.SmallJoins
import Derived.Laws.Cover2
import Derived.Carry
import Derived.SizedLaws
import Derived.Deep.Slices
import Derived.Deep.DeepHandedRow
import Derived.Lib.LaidTab
import Derived.Lay
import Derived.Test.YthmaoeajbmfmaaaGreatDoorDJk
namespace Go.Proofs.YthmaoeajbmfmaaaGreatDoor
open Go.ChangeShapes Go.WideShapes Go.ChangeAt Go.RowKit Go.Joins Go.Deep
set_option linter.unusedVariables false

theorem ownKnobOff : ownKnob Tryz.prog.godebug = none := by kernel_rfl
theorem laidOut : laidOutB Tryz.prog = true := by kernel_rfl
theorem cellsMap : Tryz.prog.cellsOf 66 = 3 := by kernel_rfl
theorem cellsPoint : Tryz.prog.cellsOf 99 = 2 := by kernel_rfl
theorem cellsF : Tryz.prog.cellsOf 22 = 1 := by kernel_rfl

theorem float_form {H : Type} {enc : TypeId × Value → H} {P : Program} {W : World} {sp : Nat → Bool} {t k : Nat} {v : Value} {x : DataW H × List MemPlace} (ht : P.underlying t = some (.float .f32))
    (h : DataW.trod enc P W 0 sp true k t [v] = some x) : ∃ x : Nat, v = .float .f32 x ∧ x < 2 ^ 32 := by
  cases k with
  | zero => simp [DataW.trod] at h
  | succ n =>
    unfold DataW.trod at h
    rw [ht] at h
    split at h <;> simp_all
    rename_i k1 k2 b1 e2
    subst e2
    simpa [Lit.wf] using h.1.2
theorem plain_at {w : World} {a : Addr} {v : Value} (h : w.cell? a = some v) : a = ⟨a.block, a.off, none⟩ ∧ a.block < w.heap.size := by
  unfold World.cell? at h
  obtain ⟨b, o, s⟩ := a
  split at h
  · rename_i hh
    split at h
    · cases h
    · rename_i hs
      cases s with
      | none => exact ⟨rfl, (Array.getElem?_eq_some_iff.1 hh).1⟩
      | some _ => simp at hs
  · cases h


set_option maxRecDepth 100000 in
/-- A map that comes in, opened: whatever its length. -/
theorem openMap {H : Type} {enc : TypeId × Value → H} {W : World} {b0 : Nat} {v : Value} {d : DataW H} {p : List MemPlace}
    (hv : Value.okWide Tryz.prog W .any b0 66 v) (h : DataW.Trod enc Tryz.prog W 0 (fun _ => true) true 66 v d p) :
    ∃ (X Y : Int) (a : Option Addr) (n c : Nat) (xs : List Nat), v = .agg #[.int .i64 X, .int .i64 Y, .slice a n c] ∧ AnyMap W a n c xs := by
  obtain ⟨c0, c1, c2, y0, y1, y2, k, rfl, rfl, rfl, h0, h1, h2⟩ := open_agg3 Tryz.underlying66 (by kernel_rfl) cellsMap hv h
  obtain ⟨X, e0, rfl, wX⟩ := DataW.trod_int Tryz.underlying3 h0
  obtain ⟨Y, e1, rfl, wY⟩ := DataW.trod_int Tryz.underlying3 h1
  simp at e0 e1
  subst e0 e1
  rcases open_slice1 Tryz.underlying33 cellsF h2 with ⟨hcs, rfl⟩ | ⟨a, n, c, m, f, V, D, Pl, hcs, _, hl, hm, hmm, rfl, hx⟩
  · simp at hcs
    subst hcs
    exact ⟨X, Y, none, 0, 0, [], rfl, ⟨rfl, fun j hj => by omega, .inl ⟨rfl, rfl, rfl⟩, fun j hj => by omega⟩⟩
  · simp at hcs
    subst hcs
    have hnm : n ≤ m := by rw [hmm]; simp; exact hl
    have hxs : ∀ j, j < n → ∃ x : Nat, V j = .float .f32 x ∧ x < 2 ^ 32 := fun j hj => float_form Tryz.underlying22 (hx j (by omega)).2
    obtain ⟨xs, hxl, hxx⟩ : ∃ xs : List Nat, xs.length = n ∧ ∀ j, j < n → V j = .float .f32 (xs[j]?.getD 0) ∧ xs[j]?.getD 0 < 2 ^ 32 := by
      refine ⟨(List.range n).map (fun j => match V j with | .float _ x => x | _ => 0), by simp, fun j hj => ?_⟩
      obtain ⟨x, e, hx⟩ := hxs j hj
      rw [List.getElem?_map, List.getElem?_range hj]
      simp only [Option.map_some, Option.getD_some]
      rw [e]
      exact ⟨rfl, hx⟩
    refine ⟨X, Y, some a, n, c, xs, rfl, ⟨hxl, fun j hj => (hxx j hj).2, .inr ⟨a, rfl⟩, fun j hj => ?_⟩⟩
    have hpl : a = ⟨a.block, a.off, none⟩ := (plain_at (by simpa [Addr.add] using (hx 0 (by omega)).1)).1
    refine ⟨a.block, a.off, by rw [← hpl], ?_, fun j hj => ?_⟩
    · exact (plain_at (a := a) (by simpa [Addr.add] using (hx 0 (by omega)).1)).2
    · have h := (hx j (by omega)).1
      rw [(hxx j hj).1] at h
      rw [hpl, Addr.add_mid] at h
      exact h

set_option maxRecDepth 100000 in
theorem openPoint {H : Type} {enc : TypeId × Value → H} {W : World} {b0 : Nat} {v : Value} {d : DataW H} {p : List MemPlace}
    (hv : Value.okWide Tryz.prog W .any b0 99 v) (h : DataW.Trod enc Tryz.prog W 0 (fun _ => true) true 99 v d p) :
    ∃ (X Y : Int), v = .agg #[.int .i64 X, .int .i64 Y] := by
  obtain ⟨c0, c1, y0, y1, k, rfl, rfl, rfl, h0, h1⟩ := open_agg2 Tryz.underlying99 (by kernel_rfl) cellsPoint hv h
  obtain ⟨X, e0, rfl, wX⟩ := DataW.trod_int Tryz.underlying3 h0
  obtain ⟨Y, e1, rfl, wY⟩ := DataW.trod_int Tryz.underlying3 h1
  simp at e0 e1
  subst e0 e1
  exact ⟨X, Y, rfl⟩

/-! ### The table that Itoa reads, by the row's list -/

theorem gTab : Tryz.prog.globalNamed "internal/strconv.uint64pow10" = some 2 := by kernel_rfl
theorem gTabType : (Tryz.prog.globals[2]?).map (·.type) = some 272 := by kernel_rfl
theorem cellsTab : Tryz.prog.cellsOf 272 = 20 := by kernel_rfl
theorem cellsU : Tryz.prog.cellsOf 245 = 1 := by kernel_rfl
def laidList : List (String × DataW Unit) := [("math/bits.deBruijn32tab", Rows.laid_math_bits_deBruijn32tab), ("math/bits.deBruijn64tab", Rows.laid_math_bits_deBruijn64tab), ("internal/strconv.uint64pow10", Rows.laid_internal_strconv_uint64pow10)]
set_option maxRecDepth 100000 in
theorem tabAt_of {W : World} (h : laidMetH Tryz.prog laidList W) : TabAt W := by
  have h2 := h.filter (fun x => x.1 == "internal/strconv.uint64pow10")
  have e : laidList.filter (fun x => x.1 == "internal/strconv.uint64pow10") = [("internal/strconv.uint64pow10", Lib.tabData .u64 Lib.pow10Tab)] := by kernel_rfl
  rw [e] at h2
  exact Lib.tabIs_of_head (rest := []) gTab gTabType Tryz.underlying272 Tryz.underlying245 cellsU cellsTab h2

/-- A world for the witness: the settled one, the listed variables holding what the list says. -/
noncomputable def laidWorld (os : Os) : World := World.laidAll Tryz.prog os laidList
theorem laid_met (os : Os) (args : Array Value) : laidMet Tryz.prog laidList ((laidWorld os).forCall (fun _ _ => 0) ⟨#[], args, []⟩).memory :=
  laidMet_laidAll args (by kernel_rfl) (by kernel_rfl)
end Go.Proofs.YthmaoeajbmfmaaaGreatDoor

/-
  Arguments that are arrays of integers or of spans, opened.
-/
namespace Go.Proofs.YthmaoeajbmfmaaaGreatDoor
open Go.ChangeShapes Go.WideShapes Go.ChangeAt Go.RowKit Go.Joins Go.Deep
set_option linter.unusedVariables false
set_option maxRecDepth 100000

theorem cellsSpans : Tryz.prog.cellsOf 93 = 4 := by kernel_rfl
theorem cellsSpan : Tryz.prog.cellsOf 92 = 2 := by kernel_rfl
theorem cellsInt : Tryz.prog.cellsOf 3 = 1 := by kernel_rfl

theorem okWide_arr {P : Program} {w : World} {r : Reach} {base : Nat} {t n e : Nat} {v : Value} (ht : P.underlying t = some (.array n e)) (h : Value.okWide P w r base t v) : ∃ cs, v = .agg cs ∧ cs.size = P.cellsOf t := by
  simp only [Value.okWide, ht] at h
  obtain ⟨cs, h1, h2, _⟩ := h
  exact ⟨cs, h1, h2⟩

theorem openSpans {H : Type} {enc : TypeId × Value → H} {W : World} {b0 : Nat} {v : Value} {d : DataW H} {p : List MemPlace}
    (hv : Value.okWide Tryz.prog W .any b0 93 v) (h : DataW.Trod enc Tryz.prog W 0 (fun _ => true) true 93 v d p) :
    ∃ (n0 n1 n2 n3 : Int), v = .agg #[.int .i64 n0, .int .i64 n1, .int .i64 n2, .int .i64 n3] := by
  obtain ⟨cs, rfl, hsz⟩ := okWide_arr Tryz.underlying93 hv
  obtain ⟨c0, c1, c2, c3, rfl⟩ := array4 (hsz.trans cellsSpans)
  obtain ⟨fuel, hf⟩ := h
  obtain ⟨xs, m, _, _, _, hl, hi⟩ := DataW.trod_array Tryz.underlying93 hf
  rw [cellsSpan] at hi
  have key : ∀ (i : Nat) (c c' : Value), i < 2 → ((#[c0, c1, c2, c3] : Array Value).toList.drop (i * 2)).take 2 = [c, c'] → ∃ n n' : Int, c = .int .i64 n ∧ c' = .int .i64 n' := by
    intro i c c' hlt hc
    have h := hi i hlt
    simp only [Value.cells] at h
    rw [hc] at h
    obtain ⟨y, hy⟩ : ∃ y, xs[i]? = some y := ⟨_, List.getElem?_eq_getElem (by omega)⟩
    rw [hy] at h
    obtain ⟨y0, y1, k, _, _, h0, h1⟩ := trod_struct2 Tryz.underlying92 h
    have e1 : Tryz.prog.cellsOf 3 = 1 := cellsInt
    simp only [e1] at h0 h1
    obtain ⟨X, e0, _, _⟩ := DataW.trod_int Tryz.underlying3 h0
    obtain ⟨Y, e2, _, _⟩ := DataW.trod_int Tryz.underlying3 h1
    simp at e0 e2
    exact ⟨X, Y, e0, e2⟩
  obtain ⟨n0, n1, rfl, rfl⟩ := key 0 c0 c1 (by omega) rfl
  obtain ⟨n2, n3, rfl, rfl⟩ := key 1 c2 c3 (by omega) rfl
  exact ⟨n0, n1, n2, n3, rfl⟩
end Go.Proofs.YthmaoeajbmfmaaaGreatDoor

/-
  LightStreams returns true for all arguments; a slice of bytes with its capacity, opened.
-/
namespace Go.Proofs.YthmaoeajbmfmaaaGreatDoor
open Go.ChangeShapes Go.WideShapes Go.ChangeAt Go.RowKit Go.Joins Go.Deep
set_option linter.unusedVariables false
set_option maxRecDepth 100000

theorem byteC_of {z : Int} (h : (Lit.int .u8 z).wf = true) : 0 ≤ z ∧ z ≤ 255 := by
  have e0 : IntKind.u8.min = 0 := by rfl
  have e1 : IntKind.u8.max = 255 := by rfl
  simp only [Lit.wf, Bool.and_eq_true, decide_eq_true_eq, e0, e1] at h
  exact h
theorem cellsByteC : Tryz.prog.cellsOf 5 = 1 := by kernel_rfl

theorem openBytesC {H : Type} {enc : TypeId × Value → H} {W : World} {b0 : Nat} {v : Value} {d : DataW H} {p : List MemPlace}
    (hv : Value.okWide Tryz.prog W .any b0 45 v) (h : DataW.Trod enc Tryz.prog W 0 (fun _ => true) true 45 v d p) :
    ∃ (a : Option Addr) (n c : Nat) (S : List Int), v = .slice a n c ∧ n ≤ c ∧ c ≤ maxLen ∧ AnyBytes W a n S := by
  obtain ⟨a, n, c, rfl⟩ := okWide_slice Tryz.underlying45 hv
  obtain ⟨fuel, hf⟩ := h
  rcases open_slice Tryz.underlying45 hf with ⟨hcs, _⟩ | ⟨a, n, c, m, k, D, Pl, hcs, _, hl, hm, hmm, _, hx⟩
  · simp [Value.cells] at hcs
    obtain ⟨rfl, rfl, rfl⟩ := hcs
    exact ⟨none, 0, 0, [], rfl, Nat.le_refl _, by unfold maxLen; omega, ⟨rfl, fun v hv => nomatch hv⟩, fun j hj => absurd hj (by omega)⟩
  · simp [Value.cells] at hcs
    obtain ⟨rfl, rfl, rfl⟩ := hcs
    have hnm : n ≤ m := by rw [hmm]; simp; exact hl
    rw [cellsByteC] at hx
    obtain ⟨T, hT⟩ := choose_lt (α := Int) (p := fun i t => (0 ≤ t ∧ t ≤ 255) ∧ W.cell? ((a.add (i * 1)).add 0) = some (.int .u8 t)) (n := n) (fun i hi => by
      obtain ⟨cs', h1, h2⟩ := hx i (by omega)
      obtain ⟨_, hlen, hc⟩ := World.cells?_some h1
      obtain ⟨X, e0, _, hw⟩ := DataW.trod_int Tryz.underlying5 h2
      exact ⟨X, byteC_of hw, (hc 0 (by omega)).trans (by rw [e0]; rfl)⟩)
    refine ⟨_, _, _, (List.range n).map T, rfl, hl, hm, ⟨by simp, ?_⟩, fun j hj => ?_⟩
    · intro v hv'
      obtain ⟨i, hi', rfl⟩ := List.mem_map.1 hv'
      exact (hT i (by simpa using hi')).1
    have h0 := (hT 0 (by omega)).2
    have hpl := plain_at (a := a) (by simpa [Addr.add] using h0)
    refine ⟨a.block, a.off, by rw [← hpl.1], hpl.2, fun i u hu => ?_⟩
    rw [List.map_map, List.getElem?_map] at hu
    by_cases hi2 : i < n
    · rw [List.getElem?_range hi2] at hu
      have h := (hT i hi2).2
      rw [hpl.1] at h
      simp only [Addr.add_mid, Nat.mul_one, Nat.add_zero] at h
      rw [h]
      simpa using hu
    · rw [List.getElem?_eq_none (by simp; omega)] at hu
      simp at hu


set_option maxHeartbeats 3200000 in
theorem streams_all (w : World) (W H : Int) (a : Option Addr) (n c : Nat) (xs : List Nat) (S : List Int) (sa : Option Addr) (sn sc : Nat) (ht : TabAt w) (hM : AnyMap w a n c xs) (hcp : sn ≤ sc) (hcm : sc ≤ maxLen) (hA : AnyBytes w sa sn S) :
    Calls Tryz.prog 5 #[.agg #[.int .i64 W, .int .i64 H, .slice a n c], .slice sa sn sc] w (TruePost w) := by
  unfold maxLen at hcm
  by_cases hs : n ≤ 160 ∨ n = 4097
  · by_cases hn : sn ≤ 400 ∨ sn = 400001
    · exact streams_walk w W H a n c xs hM hs S sa sn sc hn hcp (by omega) hA ht
    · have KW : Hid (∀ w1 : World, Below w.heap.size w w1 → Calls Tryz.prog 18 #[] w1 fun e w' => e = .returned (.bool true) ∧ Below w.heap.size w w') :=
        Lib.hid fun w1 h => (awake_any w1 (ht.on h)).mono fun e w' ⟨he, hb⟩ => ⟨he, h.trans (hb.mono h.size)⟩
      have hsb : (decide (n ≤ 160) || decide (n = 4097)) = true := by simp; exact hs
      have KS : Hid (∀ w1 : World, Calls Tryz.prog 28 #[.agg #[.int .i64 W, .int .i64 H, .slice a n c]] w1 fun e w' => e = .returned (.bool true) ∧ Below w1.heap.size w1 w') := Lib.hid fun w1 => by
        have h := shortMap_all W H a n c w1
        rw [hsb] at h
        exact h
      have g1 : (400 : Int) < (sn : Int) := by omega
      have g2 : ((sn : Int) != 400001) = true := by simp; omega
      have hB0 : Below w.heap.size w (w.alloc (.cells #[.int .i64 W, .int .i64 H, .slice a n c] 66)) := (Below.refl _ w).alloc (Nat.le_refl _) _
      have HB0 := Lib.hid hB0
      clear hB0 hsb hs hn hA hM ht hcp hcm
      go_enter Tryz.func5, Tryz.ntmps5
      go_wp2_with (first
        | (go_at_call 28; refine (KS.out _).mono ?_; rintro e w1 ⟨rfl, hb1⟩; have HB1 := Lib.hid (HB0.out.trans (hb1.mono HB0.out.size)); clear hb1)
        | (go_at_call 18; refine (KW.out _ HB1.out).mono ?_; rintro e w2 ⟨rfl, hb2⟩))
      go_ret
      exact ⟨rfl, hb2⟩
  · have KW : Hid (∀ w1 : World, Below w.heap.size w w1 → Calls Tryz.prog 18 #[] w1 fun e w' => e = .returned (.bool true) ∧ Below w.heap.size w w') :=
      Lib.hid fun w1 h => (awake_any w1 (ht.on h)).mono fun e w' ⟨he, hb⟩ => ⟨he, h.trans (hb.mono h.size)⟩
    have hsb : (decide (n ≤ 160) || decide (n = 4097)) = false := by simp; omega
    have KS : Hid (∀ w1 : World, Calls Tryz.prog 28 #[.agg #[.int .i64 W, .int .i64 H, .slice a n c]] w1 fun e w' => e = .returned (.bool false) ∧ Below w1.heap.size w1 w') := Lib.hid fun w1 => by
      have h := shortMap_all W H a n c w1
      rw [hsb] at h
      exact h
    have hB0 : Below w.heap.size w (w.alloc (.cells #[.int .i64 W, .int .i64 H, .slice a n c] 66)) := (Below.refl _ w).alloc (Nat.le_refl _) _
    have HB0 := Lib.hid hB0
    clear hB0 hsb hs hA hM ht hcp hcm
    go_enter Tryz.func5, Tryz.ntmps5
    go_wp2_with (first
      | (go_at_call 28; refine (KS.out _).mono ?_; rintro e w1 ⟨rfl, hb1⟩; have HB1 := Lib.hid (HB0.out.trans (hb1.mono HB0.out.size)); clear hb1)
      | (go_at_call 18; refine (KW.out _ HB1.out).mono ?_; rintro e w2 ⟨rfl, hb2⟩))
    go_ret
    exact ⟨rfl, hb2⟩
end Go.Proofs.YthmaoeajbmfmaaaGreatDoor
