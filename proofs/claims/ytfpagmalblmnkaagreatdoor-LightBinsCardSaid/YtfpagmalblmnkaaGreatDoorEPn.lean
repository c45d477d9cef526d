/-
  LightWaves: what Four answers, for any four words of float32.
-/
import Derived.Test.YtfpagmalblmnkaaGreatDoorEPm
import Derived.Test.YtfpagmalblmnkaaGreatDoorEVk
import Derived.Test.YtfpagmalblmnkaaGreatDoorEPg
import Derived.Test.YtfpagmalblmnkaaGreatDoorCards
import Derived.Test.YtfpagmalblmnkaaGreatDoorTie
import Derived.WalkKit
import Derived.ProofKit
import Derived.OpenShut
import Derived.Lib.SmallJoins
import Derived.Laws.Cover2
import Derived.Carry
import Derived.SizedLaws
import Derived.Deep.Slices
import Derived.Deep.DeepHandedRow
import Derived.Lib.LaidTab
import Derived.Lay
import Derived.ChangeMaps5
namespace Go.Proofs.YtfpagmalblmnkaaGreatDoor
open Go.RowKit Ieee
set_option linter.unusedVariables false

theorem smp_eq {a : Nat} {k : Int} (h : Smp a k) (hk : k.natAbs < 2 ^ 24) : FloatKind.f32.format.order a (smpOf k) = some .eq := by
  have e : single.order a (smpOf k) = some (compare k k) := h.order (smpOf_smp k hk)
  have c : compare k k = .eq := by
    show compareOfLessAndEq _ _ = _
    unfold compareOfLessAndEq; rw [if_neg (by omega), if_pos rfl]
  rw [c] at e
  exact e
theorem zero_eq : FloatKind.f32.format.order 0 0 = some .eq := by
  have h := smp_eq (smpOf_smp 0 (by decide)) (by decide)
  rwa [show smpOf 0 = 0 from by decide +kernel] at h
theorem vals4 {L : List Value} (h : L.length = 4) {a b c d : Value} (h0 : L[0]? = some a) (h1 : L[1]? = some b) (h2 : L[2]? = some c) (h3 : L[3]? = some d) : L = [a, b, c, d] := by
  match L, h with
  | [_, _, _, _], _ =>
    cases h0; cases h1; cases h2; cases h3
    rfl

theorem fourC_all (x0 x1 x2 x3 : Nat) (HX : ∀ j, j < 4 → ([x0, x1, x2, x3] : List Nat)[j]?.getD 0 < 2 ^ 32) :
    ∃ c0 c1 c2 c3 c4 c5 c6 c7 : Nat, FourC x0 x1 x2 x3 c0 c1 c2 c3 c4 c5 c6 c7 (firstNZ (([x0, x1, x2, x3] : List Nat).map smpErr)) := by
  by_cases h : firstNZ (([x0, x1, x2, x3] : List Nat).map smpErr) = 0
  · have hz := firstNZ_all h
    obtain ⟨ks, hks⟩ : ∃ ks : List Int, [kOf x0, kOf x1, kOf x2, kOf x3] = ks := ⟨_, rfl⟩
    have hS : ∀ j, j < 4 → Smp (([x0, x1, x2, x3] : List Nat)[j]?.getD 0) (ks[j]?.getD 0) ∧ (ks[j]?.getD 0).natAbs ≤ 16384 := by
      subst hks
      intro j hj
      match j, hj with
      | 0, _ => exact smp_kOf (hz _ (by simp))
      | 1, _ => exact smp_kOf (hz _ (by simp))
      | 2, _ => exact smp_kOf (hz _ (by simp))
      | 3, _ => exact smp_kOf (hz _ (by simp))
    have hl : ks.length = 4 := by rw [← hks]; rfl
    have hs := fun k => acc_small (fun j hj => (hS j hj).2) k 4 (by omega)
    refine ⟨smpOf (accR ks 0 4), smpOf (accI ks 0 4), smpOf (accR ks 1 4), smpOf (accI ks 1 4), smpOf (accR ks 2 4), smpOf (accI ks 2 4), smpOf (accR ks 3 4), smpOf (accI ks 3 4), ?_⟩
    rw [h]
    refine ⟨fun w1 => ?_, .inl ⟨rfl, fun w1 => refFour_any x0 x1 x2 x3 ks hS w1⟩⟩
    refine (four_any x0 x1 x2 x3 ks hl (fun j hj => ⟨HX j hj, hS j hj⟩) w1).mono ?_
    rintro e w' ⟨L, rfl, ⟨hL, hp⟩, hb⟩
    obtain ⟨a0, b0, g0, A0, B0, -⟩ := hp 0 (by omega)
    obtain ⟨a1, b1, g1, A1, B1, -⟩ := hp 1 (by omega)
    obtain ⟨a2, b2, g2, A2, B2, -⟩ := hp 2 (by omega)
    obtain ⟨a3, b3, g3, A3, B3, -⟩ := hp 3 (by omega)
    have eL := vals4 hL g0 g1 g2 g3
    subst eL
    refine ⟨a0, b0, a1, b1, a2, b2, a3, b3, rfl, ⟨smp_eq A0 ?_, smp_eq B0 ?_, smp_eq A1 ?_, smp_eq B1 ?_, smp_eq A2 ?_, smp_eq B2 ?_, smp_eq A3 ?_, smp_eq B3 ?_⟩, hb⟩
    · have := (hs 0).1; omega
    · have := (hs 0).2; omega
    · have := (hs 1).1; omega
    · have := (hs 1).2; omega
    · have := (hs 2).1; omega
    · have := (hs 2).2; omega
    · have := (hs 3).1; omega
    · have := (hs 3).2; omega
  · exact ⟨0, 0, 0, 0, 0, 0, 0, 0, fun w1 => (four_bad x0 x1 x2 x3 HX _ rfl h w1).mono fun e w' hh => ⟨0, 0, 0, 0, 0, 0, 0, 0, hh.1, ⟨zero_eq, zero_eq, zero_eq, zero_eq, zero_eq, zero_eq, zero_eq, zero_eq⟩, hh.2⟩, .inr ⟨h, rfl, rfl, rfl, rfl, rfl, rfl, rfl, rfl⟩⟩
end Go.Proofs.YtfpagmalblmnkaaGreatDoor

/-
  What the walks of chapter 1's rows share: the cells of a map's variable, a map's own copy.
-/
namespace Go.Proofs.YtfpagmalblmnkaaGreatDoor
open Go.RowKit
set_option linter.unusedVariables false
set_option linter.unusedSimpArgs false

theorem map_cells {w : World} {B : Nat} {W H : Int} {a : Option Addr} {n c : Nat} (h : w.heap[B]? = some (.cells #[.int .i64 W, .int .i64 H, .slice a n c] 41 (0, 0))) :
    w.cell? ⟨B, 0, none⟩ = some (.int .i64 W) ∧ w.cell? ⟨B, 1, none⟩ = some (.int .i64 H) ∧ w.cell? ⟨B, 2, none⟩ = some (.slice a n c) :=
  ⟨by rw [cell_of_row w _ 0 _ _ (0, 0) h]; rfl, by rw [cell_of_row w _ 1 _ _ (0, 0) h]; rfl, by rw [cell_of_row w _ 2 _ _ (0, 0) h]; rfl⟩
theorem own_of (W H : Int) (a : Option Addr) (n c : Nat) (xs : List Nat) (hm : n ≤ 100000) (wx : World) (hM : AnyMap wx a n c xs) : Calls Tryz.prog 17 #[.agg #[.int .i64 W, .int .i64 H, .slice a n c]] wx fun e w' =>
    ∃ g c', e = .returned (.agg #[.int .i64 W, .int .i64 H, .slice (some ⟨g, 0, none⟩) n c']) ∧ AnyMap w' (some ⟨g, 0, none⟩) n c' xs ∧ Below wx.heap.size wx w' :=
  (lawOwn_all W H a n c xs hm hM).mono fun e w' h => h.map hM.len hM.words
end Go.Proofs.YtfpagmalblmnkaaGreatDoor

/-
  What the rows of chapter 1 share: arguments that come in, opened; the table that Itoa reads; a world for the witness.
-/
namespace Go.Proofs.YtfpagmalblmnkaaGreatDoor
open Go.ChangeShapes Go.WideShapes Go.ChangeAt Go.RowKit Go.Joins Go.Deep
set_option linter.unusedVariables false

theorem ownKnobOff : ownKnob Tryz.prog.godebug = none := by kernel_rfl
theorem laidOut : laidOutB Tryz.prog = true := by kernel_rfl
theorem cellsMap : Tryz.prog.cellsOf 41 = 3 := by kernel_rfl
theorem cellsPoint : Tryz.prog.cellsOf 117 = 2 := by kernel_rfl
theorem cellsF : Tryz.prog.cellsOf 22 = 1 := by kernel_rfl

theorem float_form {H : Type} {enc : TypeId × Value → H} {P : Program} {W : World} {sp : Nat → Bool} {t k : Nat} {v : Value} {x : DataW H × List MemPlace} (ht : P.underlying t = some (.float .f32))
    (h : DataW.trod enc P W 0 sp true k t [v] = some x) : ∃ x : Nat, v = .float .f32 x ∧ x < 2 ^ 32 := by
  cases k with
  | zero => simp [DataW.trod] at h
  | succ n =>
    unfold DataW.trod at h
    rw [ht] at h
    split at h <;> simp_all
    rename_i k1 k2 b1 e2
    subst e2
    simpa [Lit.wf] using h.1.2
theorem plain_at {w : World} {a : Addr} {v : Value} (h : w.cell? a = some v) : a = ⟨a.block, a.off, none⟩ ∧ a.block < w.heap.size := by
  unfold World.cell? at h
  obtain ⟨b, o, s⟩ := a
  split at h
  · rename_i hh
    split at h
    · cases h
    · rename_i hs
      cases s with
      | none => exact ⟨rfl, (Array.getElem?_eq_some_iff.1 hh).1⟩
      | some _ => simp at hs
  · cases h


set_option maxRecDepth 100000 in
/-- A map that comes in, opened: whatever its length. -/
theorem openMap {H : Type} {enc : TypeId × Value → H} {W : World} {b0 : Nat} {v : Value} {d : DataW H} {p : List MemPlace}
    (hv : Value.okWide Tryz.prog W .any b0 41 v) (h : DataW.Trod enc Tryz.prog W 0 (fun _ => true) true 41 v d p) :
    ∃ (X Y : Int) (a : Option Addr) (n c : Nat) (xs : List Nat), v = .agg #[.int .i64 X, .int .i64 Y, .slice a n c] ∧ AnyMap W a n c xs := by
  obtain ⟨c0, c1, c2, y0, y1, y2, k, rfl, rfl, rfl, h0, h1, h2⟩ := open_agg3 Tryz.underlying41 (by kernel_rfl) cellsMap hv h
  obtain ⟨X, e0, rfl, wX⟩ := DataW.trod_int Tryz.underlying3 h0
  obtain ⟨Y, e1, rfl, wY⟩ := DataW.trod_int Tryz.underlying3 h1
  simp at e0 e1
  subst e0 e1
  rcases open_slice1 Tryz.underlying33 cellsF h2 with ⟨hcs, rfl⟩ | ⟨a, n, c, m, f, V, D, Pl, hcs, _, hl, hm, hmm, rfl, hx⟩
  · simp at hcs
    subst hcs
    exact ⟨X, Y, none, 0, 0, [], rfl, ⟨rfl, fun j hj => by omega, .inl ⟨rfl, rfl, rfl⟩, fun j hj => by omega⟩⟩
  · simp at hcs
    subst hcs
    have hnm : n ≤ m := by rw [hmm]; simp; exact hl
    have hxs : ∀ j, j < n → ∃ x : Nat, V j = .float .f32 x ∧ x < 2 ^ 32 := fun j hj => float_form Tryz.underlying22 (hx j (by omega)).2
    obtain ⟨xs, hxl, hxx⟩ : ∃ xs : List Nat, xs.length = n ∧ ∀ j, j < n → V j = .float .f32 (xs[j]?.getD 0) ∧ xs[j]?.getD 0 < 2 ^ 32 := by
      refine ⟨(List.range n).map (fun j => match V j with | .float _ x => x | _ => 0), by simp, fun j hj => ?_⟩
      obtain ⟨x, e, hx⟩ := hxs j hj
      rw [List.getElem?_map, List.getElem?_range hj]
      simp only [Option.map_some, Option.getD_some]
      rw [e]
      exact ⟨rfl, hx⟩
    refine ⟨X, Y, some a, n, c, xs, rfl, ⟨hxl, fun j hj => (hxx j hj).2, .inr ⟨a, rfl⟩, fun j hj => ?_⟩⟩
    have hpl : a = ⟨a.block, a.off, none⟩ := (plain_at (by simpa [Addr.add] using (hx 0 (by omega)).1)).1
    refine ⟨a.block, a.off, by rw [← hpl], ?_, fun j hj => ?_⟩
    · exact (plain_at (a := a) (by simpa [Addr.add] using (hx 0 (by omega)).1)).2
    · have h := (hx j (by omega)).1
      rw [(hxx j hj).1] at h
      rw [hpl, Addr.add_mid] at h
      exact h

set_option maxRecDepth 100000 in
theorem openPoint {H : Type} {enc : TypeId × Value → H} {W : World} {b0 : Nat} {v : Value} {d : DataW H} {p : List MemPlace}
    (hv : Value.okWide Tryz.prog W .any b0 117 v) (h : DataW.Trod enc Tryz.prog W 0 (fun _ => true) true 117 v d p) :
    ∃ (X Y : Int), v = .agg #[.int .i64 X, .int .i64 Y] := by
  obtain ⟨c0, c1, y0, y1, k, rfl, rfl, rfl, h0, h1⟩ := open_agg2 Tryz.underlying117 (by kernel_rfl) cellsPoint hv h
  obtain ⟨X, e0, rfl, wX⟩ := DataW.trod_int Tryz.underlying3 h0
  obtain ⟨Y, e1, rfl, wY⟩ := DataW.trod_int Tryz.underlying3 h1
  simp at e0 e1
  subst e0 e1
  exact ⟨X, Y, rfl⟩

/-! ### The table that Itoa reads, by the row's list -/

theorem gTab : Tryz.prog.globalNamed "internal/strconv.uint64pow10" = some 2 := by kernel_rfl
theorem gTabType : (Tryz.prog.globals[2]?).map (·.type) = some 255 := by kernel_rfl
theorem cellsTab : Tryz.prog.cellsOf 255 = 20 := by kernel_rfl
theorem cellsU : Tryz.prog.cellsOf 238 = 1 := by kernel_rfl
def laidList : List (String × DataW Unit) := [("math/bits.deBruijn32tab", Rows.laid_math_bits_deBruijn32tab), ("math/bits.deBruijn64tab", Rows.laid_math_bits_deBruijn64tab), ("internal/strconv.uint64pow10", Rows.laid_internal_strconv_uint64pow10)]
set_option maxRecDepth 100000 in
theorem tabAt_of {W : World} (h : laidMetH Tryz.prog laidList W) : TabAt W := by
  have h2 := h.filter (fun x => x.1 == "internal/strconv.uint64pow10")
  have e : laidList.filter (fun x => x.1 == "internal/strconv.uint64pow10") = [("internal/strconv.uint64pow10", Lib.tabData .u64 Lib.pow10Tab)] := by kernel_rfl
  rw [e] at h2
  exact Lib.tabIs_of_head (rest := []) gTab gTabType Tryz.underlying255 Tryz.underlying238 cellsU cellsTab h2

/-- A world for the witness: the settled one, the listed variables holding what the list says. -/
noncomputable def laidWorld (os : Os) : World := World.laidAll Tryz.prog os laidList
theorem laid_met (os : Os) (args : Array Value) : laidMet Tryz.prog laidList ((laidWorld os).forCall (fun _ _ => 0) ⟨#[], args, []⟩).memory :=
  laidMet_laidAll args (by kernel_rfl) (by kernel_rfl)
end Go.Proofs.YtfpagmalblmnkaaGreatDoor

/-
  Arguments that are arrays of integers or of spans, opened.
-/
namespace Go.Proofs.YtfpagmalblmnkaaGreatDoor
open Go.ChangeShapes Go.WideShapes Go.ChangeAt Go.RowKit Go.Joins Go.Deep
set_option linter.unusedVariables false
set_option maxRecDepth 100000

theorem cellsSpan : Tryz.prog.cellsOf 90 = 2 := by kernel_rfl
theorem cellsInt : Tryz.prog.cellsOf 3 = 1 := by kernel_rfl

theorem okWide_arr {P : Program} {w : World} {r : Reach} {base : Nat} {t n e : Nat} {v : Value} (ht : P.underlying t = some (.array n e)) (h : Value.okWide P w r base t v) : ∃ cs, v = .agg cs ∧ cs.size = P.cellsOf t := by
  simp only [Value.okWide, ht] at h
  obtain ⟨cs, h1, h2, _⟩ := h
  exact ⟨cs, h1, h2⟩

end Go.Proofs.YtfpagmalblmnkaaGreatDoor

/-
  Arguments that are arrays of integers of any length, or a float, opened.
-/
namespace Go.Proofs.YtfpagmalblmnkaaGreatDoor
open Go.ChangeShapes Go.WideShapes Go.ChangeAt Go.RowKit Go.Joins Go.Deep
set_option linter.unusedVariables false
set_option maxRecDepth 100000

theorem okWide_float {P : Program} {w : World} {r : Reach} {base : Nat} {t : TypeId} {v : Value} {k : FloatKind} (ht : P.underlying t = some (.float k)) (h : Value.okWide P w r base t v) : ∃ n, v = .float k n := by
  simp only [Value.okWide, ht, Cell.okWide] at h
  cases v <;> simp_all [Cell.ok]

theorem openFloat {H : Type} {enc : TypeId × Value → H} {W : World} {b0 : Nat} {t : TypeId} {v : Value} {d : DataW H} {p : List MemPlace} (ht : Tryz.prog.underlying t = some (.float .f32))
    (hv : Value.okWide Tryz.prog W .any b0 t v) (h : DataW.Trod enc Tryz.prog W 0 (fun _ => true) true t v d p) : ∃ x : Nat, v = .float .f32 x ∧ x < 2 ^ 32 := by
  obtain ⟨x, rfl⟩ := okWide_float ht hv
  obtain ⟨fuel, hf⟩ := h
  simp only [Value.cells] at hf
  obtain ⟨y, h1, h2⟩ := float_form ht hf
  exact ⟨y, h1, h2⟩

theorem openIntArr {H : Type} {enc : TypeId × Value → H} {W : World} {b0 : Nat} {t n e : Nat} {k : IntKind} {v : Value} {d : DataW H} {p : List MemPlace} (ht : Tryz.prog.underlying t = some (.array n e)) (he : Tryz.prog.underlying e = some (.int k)) (hc : Tryz.prog.cellsOf t = n) (hce : Tryz.prog.cellsOf e = 1)
    (hv : Value.okWide Tryz.prog W .any b0 t v) (h : DataW.Trod enc Tryz.prog W 0 (fun _ => true) true t v d p) : ∃ l : List Int, l.length = n ∧ v = .agg (l.map (Value.int k)).toArray := by
  obtain ⟨cs, rfl, hsz⟩ := okWide_arr ht hv
  obtain ⟨fuel, hf⟩ := h
  obtain ⟨xs, m, _, _, _, hl, hi⟩ := DataW.trod_array ht hf
  have key : ∀ i, i < n → ∃ z : Int, cs.toList[i]? = some (.int k z) := by
    intro i hlt
    have h := hi i hlt
    rw [hce, Nat.mul_one] at h
    simp only [Value.cells] at h
    obtain ⟨y, hy⟩ : ∃ y, xs[i]? = some y := ⟨_, List.getElem?_eq_getElem (by omega)⟩
    rw [hy] at h
    have hli : i < cs.toList.length := by rw [Array.length_toList]; omega
    have e1 : (cs.toList.drop i).take 1 = [cs.toList[i]] := by
      rw [List.drop_eq_getElem_cons hli]; rfl
    rw [e1] at h
    obtain ⟨X, e0, _, _⟩ := DataW.trod_int he h
    simp only [List.cons.injEq, and_true] at e0
    exact ⟨X, by rw [List.getElem?_eq_getElem hli, e0]⟩
  refine ⟨(List.range n).map (fun i => match cs.toList[i]? with | some (Value.int _ z) => z | _ => (0 : Int)), by simp, ?_⟩
  congr 1
  apply Array.ext'
  refine List.ext_getElem? fun i => ?_
  simp only [List.map_map, List.getElem?_map]
  by_cases hi' : i < n
  · obtain ⟨z, hz⟩ := key i hi'
    rw [hz, List.getElem?_range hi']
    have hz2 : cs[i]? = some (.int k z) := by simpa using hz
    simp [hz2]
  · have h1 : cs.toList[i]? = none := by rw [List.getElem?_eq_none]; rw [Array.length_toList]; omega
    have h2 : (List.range n)[i]? = none := by rw [List.getElem?_eq_none]; simp; omega
    rw [h1, h2]; rfl

theorem list7 {l : List Int} (h : l.length = 7) : ∃ a b c d e f g, l = [a, b, c, d, e, f, g] := by
  match l, h with
  | [a, b, c, d, e, f, g], _ => exact ⟨a, b, c, d, e, f, g, rfl⟩

end Go.Proofs.YtfpagmalblmnkaaGreatDoor
