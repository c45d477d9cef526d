/-
  LightTelegrams returns true for every input, and each argument reads behind the call as it read before: for every telegram (with any numbers), every 24 bytes and every stream of bytes (of any length, nil or not); the package variables as its row lists them. The row's statement and its card.
-/
import Derived.Test.YthmaoeajbmfmaaaGreatDoorCVl
import Derived.Test.YthmaoeajbmfmaaaGreatDoorCards
import Derived.Test.YthmaoeajbmfmaaaGreatDoorTie
import Derived.WalkKit
import Derived.ProofKit
import Derived.OpenShut
import Derived.Lib.SmallJoins
import Derived.Laws.Cover2
import Derived.Carry
import Derived.SizedLaws
import Derived.Deep.Slices
import Derived.Deep.DeepHandedRow
import Derived.Lib.LaidTab
import Derived.Lay
import Derived.ChangeMaps5
import Derived.Test.YthmaoeajbmfmaaaGreatDoorCHq
namespace Go.Proofs.YthmaoeajbmfmaaaGreatDoor
open Go.ChangeShapes Go.WideShapes Go.ChangeAt Go.RowKit Go.Joins Go.Deep
set_option linter.unusedVariables false

theorem ownKnobOff : ownKnob Tryz.prog.godebug = none := by kernel_rfl
theorem laidOut : laidOutB Tryz.prog = true := by kernel_rfl
theorem cellsMap : Tryz.prog.cellsOf 66 = 3 := by kernel_rfl
theorem cellsPoint : Tryz.prog.cellsOf 99 = 2 := by kernel_rfl
theorem cellsF : Tryz.prog.cellsOf 22 = 1 := by kernel_rfl

theorem float_form {H : Type} {enc : TypeId × Value → H} {P : Program} {W : World} {sp : Nat → Bool} {t k : Nat} {v : Value} {x : DataW H × List MemPlace} (ht : P.underlying t = some (.float .f32))
    (h : DataW.trod enc P W 0 sp true k t [v] = some x) : ∃ x : Nat, v = .float .f32 x ∧ x < 2 ^ 32 := by
  cases k with
  | zero => simp [DataW.trod] at h
  | succ n =>
    unfold DataW.trod at h
    rw [ht] at h
    split at h <;> simp_all
    rename_i k1 k2 b1 e2
    subst e2
    simpa [Lit.wf] using h.1.2
theorem plain_at {w : World} {a : Addr} {v : Value} (h : w.cell? a = some v) : a = ⟨a.block, a.off, none⟩ ∧ a.block < w.heap.size := by
  unfold World.cell? at h
  obtain ⟨b, o, s⟩ := a
  split at h
  · rename_i hh
    split at h
    · cases h
    · rename_i hs
      cases s with
      | none => exact ⟨rfl, (Array.getElem?_eq_some_iff.1 hh).1⟩
      | some _ => simp at hs
  · cases h


set_option maxRecDepth 100000 in
/-- A map that comes in, opened: whatever its length. -/
theorem openMap {H : Type} {enc : TypeId × Value → H} {W : World} {b0 : Nat} {v : Value} {d : DataW H} {p : List MemPlace}
    (hv : Value.okWide Tryz.prog W .any b0 66 v) (h : DataW.Trod enc Tryz.prog W 0 (fun _ => true) true 66 v d p) :
    ∃ (X Y : Int) (a : Option Addr) (n c : Nat) (xs : List Nat), v = .agg #[.int .i64 X, .int .i64 Y, .slice a n c] ∧ AnyMap W a n c xs := by
  obtain ⟨c0, c1, c2, y0, y1, y2, k, rfl, rfl, rfl, h0, h1, h2⟩ := open_agg3 Tryz.underlying66 (by kernel_rfl) cellsMap hv h
  obtain ⟨X, e0, rfl, wX⟩ := DataW.trod_int Tryz.underlying3 h0
  obtain ⟨Y, e1, rfl, wY⟩ := DataW.trod_int Tryz.underlying3 h1
  simp at e0 e1
  subst e0 e1
  rcases open_slice1 Tryz.underlying33 cellsF h2 with ⟨hcs, rfl⟩ | ⟨a, n, c, m, f, V, D, Pl, hcs, _, hl, hm, hmm, rfl, hx⟩
  · simp at hcs
    subst hcs
    exact ⟨X, Y, none, 0, 0, [], rfl, ⟨rfl, fun j hj => by omega, .inl ⟨rfl, rfl, rfl⟩, fun j hj => by omega⟩⟩
  · simp at hcs
    subst hcs
    have hnm : n ≤ m := by rw [hmm]; simp; exact hl
    have hxs : ∀ j, j < n → ∃ x : Nat, V j = .float .f32 x ∧ x < 2 ^ 32 := fun j hj => float_form Tryz.underlying22 (hx j (by omega)).2
    obtain ⟨xs, hxl, hxx⟩ : ∃ xs : List Nat, xs.length = n ∧ ∀ j, j < n → V j = .float .f32 (xs[j]?.getD 0) ∧ xs[j]?.getD 0 < 2 ^ 32 := by
      refine ⟨(List.range n).map (fun j => match V j with | .float _ x => x | _ => 0), by simp, fun j hj => ?_⟩
      obtain ⟨x, e, hx⟩ := hxs j hj
      rw [List.getElem?_map, List.getElem?_range hj]
      simp only [Option.map_some, Option.getD_some]
      rw [e]
      exact ⟨rfl, hx⟩
    refine ⟨X, Y, some a, n, c, xs, rfl, ⟨hxl, fun j hj => (hxx j hj).2, .inr ⟨a, rfl⟩, fun j hj => ?_⟩⟩
    have hpl : a = ⟨a.block, a.off, none⟩ := (plain_at (by simpa [Addr.add] using (hx 0 (by omega)).1)).1
    refine ⟨a.block, a.off, by rw [← hpl], ?_, fun j hj => ?_⟩
    · exact (plain_at (a := a) (by simpa [Addr.add] using (hx 0 (by omega)).1)).2
    · have h := (hx j (by omega)).1
      rw [(hxx j hj).1] at h
      rw [hpl, Addr.add_mid] at h
      exact h

set_option maxRecDepth 100000 in
theorem openPoint {H : Type} {enc : TypeId × Value → H} {W : World} {b0 : Nat} {v : Value} {d : DataW H} {p : List MemPlace}
    (hv : Value.okWide Tryz.prog W .any b0 99 v) (h : DataW.Trod enc Tryz.prog W 0 (fun _ => true) true 99 v d p) :
    ∃ (X Y : Int), v = .agg #[.int .i64 X, .int .i64 Y] := by
  obtain ⟨c0, c1, y0, y1, k, rfl, rfl, rfl, h0, h1⟩ := open_agg2 Tryz.underlying99 (by kernel_rfl) cellsPoint hv h
  obtain ⟨X, e0, rfl, wX⟩ := DataW.trod_int Tryz.underlying3 h0
  obtain ⟨Y, e1, rfl, wY⟩ := DataW.trod_int Tryz.underlying3 h1
  simp at e0 e1
  subst e0 e1
  exact ⟨X, Y, rfl⟩

/-! ### The table that Itoa reads, by the row's list -/

theorem gTab : Tryz.prog.globalNamed "internal/strconv.uint64pow10" = some 2 := by kernel_rfl
theorem gTabType : (Tryz.prog.globals[2]?).map (·.type) = some 272 := by kernel_rfl
theorem cellsTab : Tryz.prog.cellsOf 272 = 20 := by kernel_rfl
theorem cellsU : Tryz.prog.cellsOf 245 = 1 := by kernel_rfl
def laidList : List (String × DataW Unit) := [("math/bits.deBruijn32tab", Rows.laid_math_bits_deBruijn32tab), ("math/bits.deBruijn64tab", Rows.laid_math_bits_deBruijn64tab), ("internal/strconv.uint64pow10", Rows.laid_internal_strconv_uint64pow10)]
set_option maxRecDepth 100000 in
theorem tabAt_of {W : World} (h : laidMetH Tryz.prog laidList W) : TabAt W := by
  have h2 := h.filter (fun x => x.1 == "internal/strconv.uint64pow10")
  have e : laidList.filter (fun x => x.1 == "internal/strconv.uint64pow10") = [("internal/strconv.uint64pow10", Lib.tabData .u64 Lib.pow10Tab)] := by kernel_rfl
  rw [e] at h2
  exact Lib.tabIs_of_head (rest := []) gTab gTabType Tryz.underlying272 Tryz.underlying245 cellsU cellsTab h2

/-- A world for the witness: the settled one, the listed variables holding what the list says. -/
noncomputable def laidWorld (os : Os) : World := World.laidAll Tryz.prog os laidList
theorem laid_met (os : Os) (args : Array Value) : laidMet Tryz.prog laidList ((laidWorld os).forCall (fun _ _ => 0) ⟨#[], args, []⟩).memory :=
  laidMet_laidAll args (by kernel_rfl) (by kernel_rfl)
end Go.Proofs.YthmaoeajbmfmaaaGreatDoor

/-
  Arguments that are arrays of integers or of spans, opened.
-/
namespace Go.Proofs.YthmaoeajbmfmaaaGreatDoor
open Go.ChangeShapes Go.WideShapes Go.ChangeAt Go.RowKit Go.Joins Go.Deep
set_option linter.unusedVariables false
set_option maxRecDepth 100000

theorem cellsSpans : Tryz.prog.cellsOf 93 = 4 := by kernel_rfl
theorem cellsSpan : Tryz.prog.cellsOf 92 = 2 := by kernel_rfl
theorem cellsInt : Tryz.prog.cellsOf 3 = 1 := by kernel_rfl

theorem okWide_arr {P : Program} {w : World} {r : Reach} {base : Nat} {t n e : Nat} {v : Value} (ht : P.underlying t = some (.array n e)) (h : Value.okWide P w r base t v) : ∃ cs, v = .agg cs ∧ cs.size = P.cellsOf t := by
  simp only [Value.okWide, ht] at h
  obtain ⟨cs, h1, h2, _⟩ := h
  exact ⟨cs, h1, h2⟩

theorem openSpans {H : Type} {enc : TypeId × Value → H} {W : World} {b0 : Nat} {v : Value} {d : DataW H} {p : List MemPlace}
    (hv : Value.okWide Tryz.prog W .any b0 93 v) (h : DataW.Trod enc Tryz.prog W 0 (fun _ => true) true 93 v d p) :
    ∃ (n0 n1 n2 n3 : Int), v = .agg #[.int .i64 n0, .int .i64 n1, .int .i64 n2, .int .i64 n3] := by
  obtain ⟨cs, rfl, hsz⟩ := okWide_arr Tryz.underlying93 hv
  obtain ⟨c0, c1, c2, c3, rfl⟩ := array4 (hsz.trans cellsSpans)
  obtain ⟨fuel, hf⟩ := h
  obtain ⟨xs, m, _, _, _, hl, hi⟩ := DataW.trod_array Tryz.underlying93 hf
  rw [cellsSpan] at hi
  have key : ∀ (i : Nat) (c c' : Value), i < 2 → ((#[c0, c1, c2, c3] : Array Value).toList.drop (i * 2)).take 2 = [c, c'] → ∃ n n' : Int, c = .int .i64 n ∧ c' = .int .i64 n' := by
    intro i c c' hlt hc
    have h := hi i hlt
    simp only [Value.cells] at h
    rw [hc] at h
    obtain ⟨y, hy⟩ : ∃ y, xs[i]? = some y := ⟨_, List.getElem?_eq_getElem (by omega)⟩
    rw [hy] at h
    obtain ⟨y0, y1, k, _, _, h0, h1⟩ := trod_struct2 Tryz.underlying92 h
    have e1 : Tryz.prog.cellsOf 3 = 1 := cellsInt
    simp only [e1] at h0 h1
    obtain ⟨X, e0, _, _⟩ := DataW.trod_int Tryz.underlying3 h0
    obtain ⟨Y, e2, _, _⟩ := DataW.trod_int Tryz.underlying3 h1
    simp at e0 e2
    exact ⟨X, Y, e0, e2⟩
  obtain ⟨n0, n1, rfl, rfl⟩ := key 0 c0 c1 (by omega) rfl
  obtain ⟨n2, n3, rfl, rfl⟩ := key 1 c2 c3 (by omega) rfl
  exact ⟨n0, n1, n2, n3, rfl⟩
end Go.Proofs.YthmaoeajbmfmaaaGreatDoor

/-
  Arguments that are slices of telegrams, opened.
-/
namespace Go.Proofs.YthmaoeajbmfmaaaGreatDoor
open Go.ChangeShapes Go.WideShapes Go.ChangeAt Go.RowKit Go.Joins Go.Deep
set_option linter.unusedVariables false
set_option maxRecDepth 100000

theorem cellsVec : Tryz.prog.cellsOf 41 = 3 := by kernel_rfl
theorem cellsTel : Tryz.prog.cellsOf 43 = 6 := by kernel_rfl
theorem list6 {α : Type} {l : List α} (h : l.length = 6) : ∃ a b c d e f, l = [a, b, c, d, e, f] := by
  match l, h with
  | [a, b, c, d, e, f], _ => exact ⟨a, b, c, d, e, f, rfl⟩

theorem tel_form {H : Type} {enc : TypeId × Value → H} {W : World} {sp : Nat → Bool} {k : Nat} {cs : List Value} {x : DataW H × List MemPlace} (hl : cs.length = 6)
    (h : DataW.trod enc Tryz.prog W 0 sp true k 43 cs = some x) : ∃ t : Tel, cs = t.val := by
  obtain ⟨c0, c1, c2, c3, c4, c5, rfl⟩ := list6 hl
  have e1 : Tryz.prog.cellsOf 3 = 1 := cellsInt
  have e3 : Tryz.prog.cellsOf 41 = 3 := cellsVec
  obtain ⟨y0, y1, y2, y3, n, _, _, h0, h1, h2, h3⟩ := trod_struct4 Tryz.underlying43 h
  simp only [e1, e3] at h0 h1 h2 h3
  obtain ⟨X0, q0, _, _⟩ := DataW.trod_int Tryz.underlying3 h0
  obtain ⟨X1, q1, _, _⟩ := DataW.trod_int Tryz.underlying3 h1
  obtain ⟨X2, q2, _, _⟩ := DataW.trod_int Tryz.underlying3 h2
  obtain ⟨xs, m, _, _, _, hlen, hf⟩ := DataW.trod_struct Tryz.underlying41 h3
  match xs, hlen with
  | [z0, z1, z2], _ =>
    have g0 : DataW.trod enc Tryz.prog W 0 sp true m 3 (([c3, c4, c5].drop 0).take (Tryz.prog.cellsOf 3)) = some z0 := hf 0 _ rfl
    have g1 : DataW.trod enc Tryz.prog W 0 sp true m 3 (([c3, c4, c5].drop 1).take (Tryz.prog.cellsOf 3)) = some z1 := hf 1 _ rfl
    have g2 : DataW.trod enc Tryz.prog W 0 sp true m 3 (([c3, c4, c5].drop 2).take (Tryz.prog.cellsOf 3)) = some z2 := hf 2 _ rfl
    rw [e1] at g0 g1 g2
    obtain ⟨X3, q3, _, _⟩ := DataW.trod_int Tryz.underlying3 g0
    obtain ⟨X4, q4, _, _⟩ := DataW.trod_int Tryz.underlying3 g1
    obtain ⟨X5, q5, _, _⟩ := DataW.trod_int Tryz.underlying3 g2
    simp at q0 q1 q2 q3 q4 q5
    subst q0 q1 q2 q3 q4 q5
    exact ⟨⟨X0, X1, X2, X3, X4, X5⟩, rfl⟩

instance : Inhabited Tel := ⟨tel0⟩

theorem openTels {H : Type} {enc : TypeId × Value → H} {W : World} {b0 : Nat} {v : Value} {d : DataW H} {p : List MemPlace}
    (hv : Value.okWide Tryz.prog W .any b0 59 v) (h : DataW.Trod enc Tryz.prog W 0 (fun _ => true) true 59 v d p) :
    ∃ (a : Option Addr) (n c : Nat) (L : List Tel), v = .slice a n c ∧ n ≤ maxLen ∧ AnyTels W a n L := by
  obtain ⟨a, n, c, rfl⟩ := okWide_slice Tryz.underlying59 hv
  obtain ⟨fuel, hf⟩ := h
  rcases open_slice Tryz.underlying59 hf with ⟨hcs, _⟩ | ⟨a, n, c, m, k, D, Pl, hcs, _, hl, hm, hmm, _, hx⟩
  · simp [Value.cells] at hcs
    obtain ⟨rfl, rfl, rfl⟩ := hcs
    exact ⟨none, 0, 0, [], rfl, by unfold maxLen; omega, rfl, fun j hj => absurd hj (by omega)⟩
  · simp [Value.cells] at hcs
    obtain ⟨rfl, rfl, rfl⟩ := hcs
    have hnm : n ≤ m := by rw [hmm]; simp; exact hl
    rw [cellsTel] at hx
    obtain ⟨T, hT⟩ := choose_lt (α := Tel) (p := fun i t => ∀ j u, t.val[j]? = some u → W.cell? ((a.add (i * 6)).add j) = some u) (n := n) (fun i hi => by
      obtain ⟨cs', h1, h2⟩ := hx i (by omega)
      obtain ⟨_, hlen, hc⟩ := World.cells?_some h1
      obtain ⟨t, rfl⟩ := tel_form hlen h2
      exact ⟨t, fun j u hu => (hc j (by have := (List.getElem?_eq_some_iff.1 hu).1; omega)).trans hu⟩)
    refine ⟨_, _, _, (List.range n).map T, rfl, Nat.le_trans hl hm, by simp, fun j hj => ?_⟩
    have h0 := hT 0 (by omega) 0 _ rfl
    have hpl := plain_at (a := a) (by simpa [Addr.add] using h0)
    refine ⟨a.block, a.off, by rw [← hpl.1], hpl.2, fun i hi j u hu => ?_⟩
    have hi2 : i < n := by simpa using hi
    have e : ((List.range n).map T)[i]?.getD tel0 = T i := by rw [List.getElem?_map, List.getElem?_range hi2]; rfl
    rw [e] at hu
    have h := hT i hi2 j u hu
    rw [hpl.1] at h
    simp only [Addr.add_mid] at h
    exact h
end Go.Proofs.YthmaoeajbmfmaaaGreatDoor

/-
  Arguments that are arrays of integers of any length, or a float, opened.
-/
namespace Go.Proofs.YthmaoeajbmfmaaaGreatDoor
open Go.ChangeShapes Go.WideShapes Go.ChangeAt Go.RowKit Go.Joins Go.Deep
set_option linter.unusedVariables false
set_option maxRecDepth 100000

theorem okWide_float {P : Program} {w : World} {r : Reach} {base : Nat} {t : TypeId} {v : Value} {k : FloatKind} (ht : P.underlying t = some (.float k)) (h : Value.okWide P w r base t v) : ∃ n, v = .float k n := by
  simp only [Value.okWide, ht, Cell.okWide] at h
  cases v <;> simp_all [Cell.ok]

theorem openFloat {H : Type} {enc : TypeId × Value → H} {W : World} {b0 : Nat} {t : TypeId} {v : Value} {d : DataW H} {p : List MemPlace} (ht : Tryz.prog.underlying t = some (.float .f32))
    (hv : Value.okWide Tryz.prog W .any b0 t v) (h : DataW.Trod enc Tryz.prog W 0 (fun _ => true) true t v d p) : ∃ x : Nat, v = .float .f32 x ∧ x < 2 ^ 32 := by
  obtain ⟨x, rfl⟩ := okWide_float ht hv
  obtain ⟨fuel, hf⟩ := h
  simp only [Value.cells] at hf
  obtain ⟨y, h1, h2⟩ := float_form ht hf
  exact ⟨y, h1, h2⟩

theorem openIntArr {H : Type} {enc : TypeId × Value → H} {W : World} {b0 : Nat} {t n e : Nat} {k : IntKind} {v : Value} {d : DataW H} {p : List MemPlace} (ht : Tryz.prog.underlying t = some (.array n e)) (he : Tryz.prog.underlying e = some (.int k)) (hc : Tryz.prog.cellsOf t = n) (hce : Tryz.prog.cellsOf e = 1)
    (hv : Value.okWide Tryz.prog W .any b0 t v) (h : DataW.Trod enc Tryz.prog W 0 (fun _ => true) true t v d p) : ∃ l : List Int, l.length = n ∧ v = .agg (l.map (Value.int k)).toArray := by
  obtain ⟨cs, rfl, hsz⟩ := okWide_arr ht hv
  obtain ⟨fuel, hf⟩ := h
  obtain ⟨xs, m, _, _, _, hl, hi⟩ := DataW.trod_array ht hf
  have key : ∀ i, i < n → ∃ z : Int, cs.toList[i]? = some (.int k z) := by
    intro i hlt
    have h := hi i hlt
    rw [hce, Nat.mul_one] at h
    simp only [Value.cells] at h
    obtain ⟨y, hy⟩ : ∃ y, xs[i]? = some y := ⟨_, List.getElem?_eq_getElem (by omega)⟩
    rw [hy] at h
    have hli : i < cs.toList.length := by rw [Array.length_toList]; omega
    have e1 : (cs.toList.drop i).take 1 = [cs.toList[i]] := by
      rw [List.drop_eq_getElem_cons hli]; rfl
    rw [e1] at h
    obtain ⟨X, e0, _, _⟩ := DataW.trod_int he h
    simp only [List.cons.injEq, and_true] at e0
    exact ⟨X, by rw [List.getElem?_eq_getElem hli, e0]⟩
  refine ⟨(List.range n).map (fun i => match cs.toList[i]? with | some (Value.int _ z) => z | _ => (0 : Int)), by simp, ?_⟩
  congr 1
  apply Array.ext'
  refine List.ext_getElem? fun i => ?_
  simp only [List.map_map, List.getElem?_map]
  by_cases hi' : i < n
  · obtain ⟨z, hz⟩ := key i hi'
    rw [hz, List.getElem?_range hi']
    have hz2 : cs[i]? = some (.int k z) := by simpa using hz
    simp [hz2]
  · have h1 : cs.toList[i]? = none := by rw [List.getElem?_eq_none]; rw [Array.length_toList]; omega
    have h2 : (List.range n)[i]? = none := by rw [List.getElem?_eq_none]; simp; omega
    rw [h1, h2]; rfl

theorem list7 {l : List Int} (h : l.length = 7) : ∃ a b c d e f g, l = [a, b, c, d, e, f, g] := by
  match l, h with
  | [a, b, c, d, e, f, g], _ => exact ⟨a, b, c, d, e, f, g, rfl⟩

end Go.Proofs.YthmaoeajbmfmaaaGreatDoor

/-
  LightTelegrams returns true for all arguments; arguments that are bytes or a telegram, opened.
-/
namespace Go.Proofs.YthmaoeajbmfmaaaGreatDoor
open Go.ChangeShapes Go.WideShapes Go.ChangeAt Go.RowKit Go.Joins Go.Deep
set_option linter.unusedVariables false
set_option maxRecDepth 100000

theorem byte_of {z : Int} (h : (Lit.int .u8 z).wf = true) : 0 ≤ z ∧ z ≤ 255 := by
  have e0 : IntKind.u8.min = 0 := by rfl
  have e1 : IntKind.u8.max = 255 := by rfl
  simp only [Lit.wf, Bool.and_eq_true, decide_eq_true_eq, e0, e1] at h
  exact h

theorem cellsByte : Tryz.prog.cellsOf 5 = 1 := by kernel_rfl
theorem cellsFrame : Tryz.prog.cellsOf 44 = 24 := by kernel_rfl

theorem openFrame {H : Type} {enc : TypeId × Value → H} {W : World} {b0 : Nat} {v : Value} {d : DataW H} {p : List MemPlace}
    (hv : Value.okWide Tryz.prog W .any b0 44 v) (h : DataW.Trod enc Tryz.prog W 0 (fun _ => true) true 44 v d p) : ∃ F : List Int, Bytes24 F ∧ v = .agg (F.map (Value.int .u8)).toArray := by
  obtain ⟨cs, rfl, hsz⟩ := okWide_arr Tryz.underlying44 hv
  rw [cellsFrame] at hsz
  obtain ⟨fuel, hf⟩ := h
  obtain ⟨xs, m, _, _, _, hl, hi⟩ := DataW.trod_array Tryz.underlying44 hf
  have key : ∀ i, i < 24 → ∃ z : Int, cs.toList[i]? = some (.int .u8 z) ∧ 0 ≤ z ∧ z ≤ 255 := by
    intro i hlt
    have h := hi i hlt
    rw [cellsByte, Nat.mul_one] at h
    simp only [Value.cells] at h
    obtain ⟨y, hy⟩ : ∃ y, xs[i]? = some y := ⟨_, List.getElem?_eq_getElem (by omega)⟩
    rw [hy] at h
    have hli : i < cs.toList.length := by rw [Array.length_toList]; omega
    have e1 : (cs.toList.drop i).take 1 = [cs.toList[i]] := by
      rw [List.drop_eq_getElem_cons hli]; rfl
    rw [e1] at h
    obtain ⟨X, e0, _, hw⟩ := DataW.trod_int Tryz.underlying5 h
    simp only [List.cons.injEq, and_true] at e0
    exact ⟨X, by rw [List.getElem?_eq_getElem hli, e0], byte_of hw⟩
  refine ⟨(List.range 24).map (fun i => match cs.toList[i]? with | some (Value.int _ z) => z | _ => (0 : Int)), ⟨by simp, ?_⟩, ?_⟩
  · intro v hv'
    obtain ⟨i, hi', rfl⟩ := List.mem_map.1 hv'
    obtain ⟨z, hz, hb⟩ := key i (by simpa using hi')
    rw [hz]; exact hb
  congr 1
  apply Array.ext'
  refine List.ext_getElem? fun i => ?_
  simp only [List.map_map, List.getElem?_map]
  by_cases hi' : i < 24
  · obtain ⟨z, hz, _⟩ := key i hi'
    rw [hz, List.getElem?_range hi']
    have hz2 : cs[i]? = some (.int .u8 z) := by simpa using hz
    simp [hz2]
  · have h1 : cs.toList[i]? = none := by rw [List.getElem?_eq_none]; rw [Array.length_toList]; omega
    have h2 : (List.range 24)[i]? = none := by rw [List.getElem?_eq_none]; simp; omega
    rw [h1, h2]; rfl

theorem openBytes {H : Type} {enc : TypeId × Value → H} {W : World} {b0 : Nat} {v : Value} {d : DataW H} {p : List MemPlace}
    (hv : Value.okWide Tryz.prog W .any b0 45 v) (h : DataW.Trod enc Tryz.prog W 0 (fun _ => true) true 45 v d p) :
    ∃ (a : Option Addr) (n c : Nat) (S : List Int), v = .slice a n c ∧ n ≤ maxLen ∧ AnyBytes W a n S := by
  obtain ⟨a, n, c, rfl⟩ := okWide_slice Tryz.underlying45 hv
  obtain ⟨fuel, hf⟩ := h
  rcases open_slice Tryz.underlying45 hf with ⟨hcs, _⟩ | ⟨a, n, c, m, k, D, Pl, hcs, _, hl, hm, hmm, _, hx⟩
  · simp [Value.cells] at hcs
    obtain ⟨rfl, rfl, rfl⟩ := hcs
    exact ⟨none, 0, 0, [], rfl, by unfold maxLen; omega, ⟨rfl, fun v hv => nomatch hv⟩, fun j hj => absurd hj (by omega)⟩
  · simp [Value.cells] at hcs
    obtain ⟨rfl, rfl, rfl⟩ := hcs
    have hnm : n ≤ m := by rw [hmm]; simp; exact hl
    rw [cellsByte] at hx
    obtain ⟨T, hT⟩ := choose_lt (α := Int) (p := fun i t => (0 ≤ t ∧ t ≤ 255) ∧ W.cell? ((a.add (i * 1)).add 0) = some (.int .u8 t)) (n := n) (fun i hi => by
      obtain ⟨cs', h1, h2⟩ := hx i (by omega)
      obtain ⟨_, hlen, hc⟩ := World.cells?_some h1
      obtain ⟨X, e0, _, hw⟩ := DataW.trod_int Tryz.underlying5 h2
      exact ⟨X, byte_of hw, (hc 0 (by omega)).trans (by rw [e0]; rfl)⟩)
    refine ⟨_, _, _, (List.range n).map T, rfl, Nat.le_trans hl hm, ⟨by simp, ?_⟩, fun j hj => ?_⟩
    · intro v hv'
      obtain ⟨i, hi', rfl⟩ := List.mem_map.1 hv'
      exact (hT i (by simpa using hi')).1
    have h0 := (hT 0 (by omega)).2
    have hpl := plain_at (a := a) (by simpa [Addr.add] using h0)
    refine ⟨a.block, a.off, by rw [← hpl.1], hpl.2, fun i u hu => ?_⟩
    rw [List.map_map, List.getElem?_map] at hu
    by_cases hi2 : i < n
    · rw [List.getElem?_range hi2] at hu
      have h := (hT i hi2).2
      rw [hpl.1] at h
      simp only [Addr.add_mid, Nat.mul_one, Nat.add_zero] at h
      rw [h]
      simpa using hu
    · rw [List.getElem?_eq_none (by simp; omega)] at hu
      simp at hu

theorem okWide_rec {P : Program} {w : World} {r : Reach} {base : Nat} {t : TypeId} {fs} {v : Value} (ht : P.underlying t = some (.struct fs)) (h : Value.okWide P w r base t v) : ∃ cs, v = .agg cs ∧ cs.size = P.cellsOf t := by
  simp only [Value.okWide, ht] at h
  cases v <;> simp_all
theorem openTel {H : Type} {enc : TypeId × Value → H} {W : World} {b0 : Nat} {v : Value} {d : DataW H} {p : List MemPlace}
    (hv : Value.okWide Tryz.prog W .any b0 43 v) (h : DataW.Trod enc Tryz.prog W 0 (fun _ => true) true 43 v d p) :
    ∃ (s c o x y z : Int), v = .agg #[.int .i64 s, .int .i64 c, .int .i64 o, .int .i64 x, .int .i64 y, .int .i64 z] := by
  obtain ⟨cs, rfl, hsz⟩ := okWide_rec Tryz.underlying43 hv
  rw [cellsTel] at hsz
  obtain ⟨fuel, hf⟩ := h
  simp only [Value.cells] at hf
  obtain ⟨t, ht⟩ := tel_form (by rw [Array.length_toList]; exact hsz) hf
  exact ⟨t.s, t.c, t.o, t.x, t.y, t.z, by rw [← Array.toArray_toList (xs := cs), ht]; rfl⟩

set_option maxHeartbeats 3200000 in
theorem telegrams_all (w : World) (s c o x y z : Int) (F : List Int) (hF : Bytes24 F) (S : List Int) (a : Option Addr) (n cp : Nat) (hm : n ≤ maxLen) (hA : AnyBytes w a n S) (ht : TabAt w) :
    Calls Tryz.prog 4 #[.agg #[.int .i64 s, .int .i64 c, .int .i64 o, .int .i64 x, .int .i64 y, .int .i64 z], .agg (F.map (Value.int .u8)).toArray, .slice a n cp] w (TruePost w) := by
  by_cases hn : n ≤ 400 ∨ n = 12289
  · exact telegrams_walk w s c o x y z F hF S a n cp hn hA ht
  · have KW : Hid (∀ w1 : World, Below w.heap.size w w1 → Calls Tryz.prog 18 #[] w1 fun e w' => e = .returned (.bool true) ∧ Below w.heap.size w w') :=
      Lib.hid fun w1 h => (awake_any w1 (ht.on h)).mono fun e w' ⟨he, hb⟩ => ⟨he, h.trans (hb.mono h.size)⟩
    have VF24 : (F.map (Value.int .u8)).length = 24 := by rw [List.length_map]; exact hF.1
    obtain ⟨VF, hVF⟩ : ∃ V, F.map (Value.int .u8) = V := ⟨_, rfl⟩
    rw [hVF] at VF24 ⊢
    have hiF2 : (Tryz.prog.info? 44).map (·.size) = some VF.length := by rw [size24, VF24]
    have g1 : (400 : Int) < (n : Int) := by omega
    have g2 : ((n : Int) != 12289) = true := by simp; omega
    unfold maxLen at hm
    clear hVF hF hn hA ht
    have hB0 : Below w.heap.size w ((w.alloc (.cells #[.int .i64 s, .int .i64 c, .int .i64 o, .int .i64 x, .int .i64 y, .int .i64 z] 43)).alloc (.cells VF.toArray 44)) := ((Below.refl _ w).alloc (Nat.le_refl _) _).alloc (by simp) _
    have HB0 := Lib.hid hB0
    clear hB0
    go_enter Tryz.func4, Tryz.ntmps4
    go_wp2_with (go_at_call 18; refine (KW.out _ HB0.out).mono ?_; rintro e w1 ⟨rfl, hb1⟩)
    go_ret
    exact ⟨rfl, hb1⟩
end Go.Proofs.YthmaoeajbmfmaaaGreatDoor

/-
  LightTelegrams returns true for every input, and each argument reads behind the call as it read before: for every telegram (with any numbers), every 24 bytes and every stream of bytes (of any length, nil or not); the package variables as its row lists them. The row's statement and its card.
-/
namespace Go.Proofs.YthmaoeajbmfmaaaGreatDoor.lightTelegrams
open Go.ChangeShapes Go.WideShapes Go.ChangeAt Go.RowKit Go.Joins Go.Deep
set_option linter.unusedVariables false

theorem params : Tryz.f4.params = #[43, 44, 45] := by kernel_rfl

set_option maxRecDepth 100000 in
theorem contract (H : Type) (enc : TypeId × Value → H) (W : World) (base : Nat) (args : Array Value) (ds gs : List (DataW H)) (before : List MemPlace)
    (hval0 : ∀ (j : Nat) t v, Tryz.f4.params[j]? = some t → args[j]? = some v → Value.okWide Tryz.prog W .any base t v)
    (hW : DataW.Whole enc Tryz.prog Tryz.f4.params.toList Rows.lightTelegramsSpec.vars false W args.toList ds gs before) (hL : laidMetH Tryz.prog Rows.lightTelegramsRow.laid W) :
    Calls Tryz.prog 4 args W fun e W' => ∃ v, e = .returned v ∧ Rows.lightTelegramsSpec.post enc Tryz.prog Tryz.f4 false true false false W args v W' := by
  have hval := hval0
  have hW' := hW
  obtain ⟨p, q, hA0, hV, rfl, hfz, hnd⟩ := hW
  have hA : DataW.TrodAll enc Tryz.prog W 0 (fun _ => true) true Tryz.f4.params.toList args.toList ds p := hA0
  rw [params] at hA hval
  obtain ⟨v0, vs0, d0, ds0, p0, q0, hargs, rfl, rfl, h0, r0⟩ := trodAll_cons hA
  obtain ⟨v1, vs1, d1, ds1, p1, q1, rfl, rfl, rfl, h1, r1⟩ := trodAll_cons r0
  obtain ⟨v2, vs2, d2, ds2, p2, q2, rfl, rfl, rfl, h2, r2⟩ := trodAll_cons r1
  obtain ⟨rfl, rfl, rfl⟩ := trodAll_nil r2
  obtain rfl : args = #[v0, v1, v2] := by cases args; simp_all
  obtain ⟨rfl, rfl⟩ := trodVars_none hV
  clear hA0 hval0
  simp only [List.append_nil] at hW'
  have hlt : ∀ x ∈ p0 ++ (p1 ++ p2), x.block < W.heap.size := fun x hx => by simpa using hW'.lt x hx
  obtain ⟨s, c, o, x, y, z, rfl⟩ := openTel (hval 0 43 v0 rfl rfl) h0
  obtain ⟨F, hF, rfl⟩ := openFrame (hval 1 44 v1 rfl rfl) h1
  obtain ⟨a, n, cp, S, rfl, hm, hA2⟩ := openBytes (hval 2 45 v2 rfl rfl) h2
  refine (telegrams_all W s c o x y z F hF S a n cp hm hA2 (tabAt_of hL)).mono fun e W' ⟨he, hb⟩ => ?_
  subst he
  refine ⟨_, rfl, _, _, _, [], p0 ++ (p1 ++ p2), [], hW', trodAll_cons_mk (shut_bool Tryz.underlying4 _) trodAll_mk0, ?_, rfl, hb.frame _, fun h => by cases h⟩
  have h := (trodAll_cons_mk (Below.trod laidOut (by kernel_rfl) (of_decide_eq_true (by kernel_rfl)) h0 hb (fun x hx => hlt x (List.mem_append_left _ hx))) (trodAll_cons_mk (Below.trod laidOut (by kernel_rfl) (of_decide_eq_true (by kernel_rfl)) h1 hb (fun x hx => hlt x (List.mem_append_right _ (List.mem_append_left _ hx)))) (trodAll_cons_mk (Below.trod laidOut (by kernel_rfl) (of_decide_eq_true (by kernel_rfl)) h2 hb (fun x hx => hlt x (List.mem_append_right _ (List.mem_append_right _ hx)))) trodAll_mk0)))
  simp only [List.append_nil] at h
  exact h

def wArgs : Array Value := #[.agg #[.int .i64 0, .int .i64 0, .int .i64 0, .int .i64 0, .int .i64 0, .int .i64 0], .agg #[.int .u8 0, .int .u8 0, .int .u8 0, .int .u8 0, .int .u8 0, .int .u8 0, .int .u8 0, .int .u8 0, .int .u8 0, .int .u8 0, .int .u8 0, .int .u8 0, .int .u8 0, .int .u8 0, .int .u8 0, .int .u8 0, .int .u8 0, .int .u8 0, .int .u8 0, .int .u8 0, .int .u8 0, .int .u8 0, .int .u8 0, .int .u8 0], .slice none 0 0]
theorem reads (os : Os) {H : Type} (enc : TypeId × Value → H) : ∃ places, DataW.whole enc Tryz.prog ((laidWorld os).forCall (fun _ _ => 0) ⟨#[], wArgs, []⟩).memory Tryz.f4.params.toList Rows.lightTelegramsSpec.vars false wArgs.toList 8 = some ([.agg [.lit (.int .i64 0), .lit (.int .i64 0), .lit (.int .i64 0), .agg [.lit (.int .i64 0), .lit (.int .i64 0), .lit (.int .i64 0)]], .agg [.lit (.int .u8 0), .lit (.int .u8 0), .lit (.int .u8 0), .lit (.int .u8 0), .lit (.int .u8 0), .lit (.int .u8 0), .lit (.int .u8 0), .lit (.int .u8 0), .lit (.int .u8 0), .lit (.int .u8 0), .lit (.int .u8 0), .lit (.int .u8 0), .lit (.int .u8 0), .lit (.int .u8 0), .lit (.int .u8 0), .lit (.int .u8 0), .lit (.int .u8 0), .lit (.int .u8 0), .lit (.int .u8 0), .lit (.int .u8 0), .lit (.int .u8 0), .lit (.int .u8 0), .lit (.int .u8 0), .lit (.int .u8 0)], .nil], [], places) :=
  ⟨[], by kernel_rfl⟩

set_option maxRecDepth 100000 in
theorem lifted (os : Os) (started : os.Started) (H : Type) (enc : TypeId × Value → H) (F : Stop.Interp) :
    ReturnsInHanded {} Tryz.checked os 4 .any ((OpenSpec.ofChange Rows.lightTelegramsSpec).preRow enc Tryz.prog Tryz.f4 Rows.lightTelegramsRow.domain false Rows.lightTelegramsRow.laid) (((OpenSpec.ofChange Rows.lightTelegramsSpec).at F).post enc Tryz.prog Tryz.f4 false true false false) := by
  obtain ⟨places, hx⟩ := reads os enc
  refine returnsInHanded_of_row (C := Tryz.checked) (s := OpenSpec.ofChange Rows.lightTelegramsSpec) ownKnobOff started (by kernel_rfl) Tryz.func4
    (witness_row_at (enc := enc) (C := Tryz.checked) false (laidWorld os) wArgs rfl (by kernel_rfl) (by kernel_rfl) (by kernel_rfl)
      (OpenSpec.preRow_of_cond 8 hx (by kernel_rfl) (fun k hk => by cases hk) (by kernel_rfl) (laid_met os _))) ?_
  intro W base args ds gs before hval hW _ _ _ hL _ _
  exact contract H enc W base args ds gs before hval hW hL

theorem said : Rows.LightTelegramsSaid :=
  OpenClaim.holds_of_cond 4 Tryz.f4 rfl rfl rfl rfl rfl rfl rfl ⟨rfl, rfl, rfl, rfl, rfl⟩ rfl rfl rfl rfl rfl (by kernel_rfl) Tryz.func4 (by kernel_rfl)
    (of_decide_eq_true (by kernel_rfl)) (by unfold Func.isWrapper; first | (rw [if_pos (by decide +kernel)]; kernel_rfl) | (rw [if_neg (by decide +kernel)]; exact ⟨rfl, rfl⟩))
    (fun os started H enc _ F => by rw [OpenClaim.pre_eq_preRow]; exact lifted os started H enc F)

/-- No parameter wants a stand-in; the program's own looks are off: what the card asks. -/
theorem plain (f : FuncId) (fn : Func) (hf : Tryz.pinned.checked.prog.funcNamed "spillage/spillagelaw01.LightTelegrams" = some f) (hfn : Tryz.pinned.checked.prog.funcs[f]? = some fn) :
    Rows.lightTelegramsCard.stood.looks = Tryz.pinned.checked.prog.looks [] ∧ ∀ (j : Nat) t, fn.params[j]? = some t → Tryz.pinned.checked.prog.wantsStandIn t = false := by
  obtain rfl : f = 4 := Option.some.inj ((show Tryz.prog.funcNamed "spillage/spillagelaw01.LightTelegrams" = some 4 by kernel_rfl).symm.trans hf) |>.symm
  obtain rfl : fn = Tryz.f4 := (Option.some.inj (Tryz.func4.symm.trans hfn)).symm
  refine ⟨by kernel_rfl, fun j t ht => ?_⟩
  rw [params] at ht
  have hm : t = 43 ∨ t = 44 ∨ t = 45 := by simpa using Array.mem_of_getElem? ht
  rcases hm with rfl | rfl | rfl
  · exact (show Tryz.prog.wantsStandIn 43 = false by kernel_rfl)
  · exact (show Tryz.prog.wantsStandIn 44 = false by kernel_rfl)
  · exact (show Tryz.prog.wantsStandIn 45 = false by kernel_rfl)

/-- ████ THE CARD ████ -/
theorem card : Rows.LightTelegramsCardSaid :=
  Claim7.holds_tied_plain_at .later [] _ _ _ _ said (fun _ h => by cases h) (by kernel_rfl) (fun _ h => by cases h) lightTelegrams_row_tie rfl ⟨rfl, rfl⟩ (by kernel_rfl) rfl plain (by kernel_rfl)
#print axioms card
end Go.Proofs.YthmaoeajbmfmaaaGreatDoor.lightTelegrams
