/-
  What the walks of chapter 1's rows share: the cells of a map's variable, a map's own copy.
-/
import Derived.Test.YtlnhgplloaiiiaaGreatDoorCVk
import Derived.Test.YtlnhgplloaiiiaaGreatDoorCWj
import Derived.Test.YtlnhgplloaiiiaaGreatDoorCards
import Derived.Test.YtlnhgplloaiiiaaGreatDoorTie
import Derived.WalkKit
import Derived.ProofKit
import Derived.OpenShut
import Derived.Lib.SmallJoins
import Derived.Laws.Cover2
import Derived.Carry
import Derived.SizedLaws
import Derived.Deep.Slices
import Derived.Deep.DeepHandedRow
import Derived.Lib.LaidTab
import Derived.Lay
namespace Go.Proofs.YtlnhgplloaiiiaaGreatDoor
open Go.RowKit
set_option linter.unusedVariables false
set_option linter.unusedSimpArgs false

theorem map_cells {w : World} {B : Nat} {W H : Int} {a : Option Addr} {n c : Nat} (h : w.heap[B]? = some (.cells #[.int .i64 W, .int .i64 H, .slice a n c] 48 (0, 0))) :
    w.cell? ⟨B, 0, none⟩ = some (.int .i64 W) ∧ w.cell? ⟨B, 1, none⟩ = some (.int .i64 H) ∧ w.cell? ⟨B, 2, none⟩ = some (.slice a n c) :=
  ⟨by rw [cell_of_row w _ 0 _ _ (0, 0) h]; rfl, by rw [cell_of_row w _ 1 _ _ (0, 0) h]; rfl, by rw [cell_of_row w _ 2 _ _ (0, 0) h]; rfl⟩
theorem own_of (W H : Int) (a : Option Addr) (n c : Nat) (xs : List Nat) (hm : n ≤ 100000) (wx : World) (hM : AnyMap wx a n c xs) : Calls Tryz.prog 32 #[.agg #[.int .i64 W, .int .i64 H, .slice a n c]] wx fun e w' =>
    ∃ g c', e = .returned (.agg #[.int .i64 W, .int .i64 H, .slice (some ⟨g, 0, none⟩) n c']) ∧ AnyMap w' (some ⟨g, 0, none⟩) n c' xs ∧ Below wx.heap.size wx w' :=
  (lawOwn_all W H a n c xs hm hM).mono fun e w' h => h.map hM.len hM.words
end Go.Proofs.YtlnhgplloaiiiaaGreatDoor

/-
  What the rows of chapter 1 share: arguments that come in, opened; the table that Itoa reads; a world for the witness.
-/
namespace Go.Proofs.YtlnhgplloaiiiaaGreatDoor
open Go.ChangeShapes Go.WideShapes Go.ChangeAt Go.RowKit Go.Joins Go.Deep
set_option linter.unusedVariables false

theorem ownKnobOff : ownKnob Tryz.prog.godebug = none := by kernel_rfl
theorem laidOut : laidOutB Tryz.prog = true := by kernel_rfl
theorem cellsMap : Tryz.prog.cellsOf 48 = 3 := by kernel_rfl
theorem cellsPoint : Tryz.prog.cellsOf 50 = 2 := by kernel_rfl
theorem cellsF : Tryz.prog.cellsOf 23 = 1 := by kernel_rfl

theorem float_form {H : Type} {enc : TypeId × Value → H} {P : Program} {W : World} {sp : Nat → Bool} {t k : Nat} {v : Value} {x : DataW H × List MemPlace} (ht : P.underlying t = some (.float .f32))
    (h : DataW.trod enc P W 0 sp true k t [v] = some x) : ∃ x : Nat, v = .float .f32 x ∧ x < 2 ^ 32 := by
  cases k with
  | zero => simp [DataW.trod] at h
  | succ n =>
    unfold DataW.trod at h
    rw [ht] at h
    split at h <;> simp_all
    rename_i k1 k2 b1 e2
    subst e2
    simpa [Lit.wf] using h.1.2
theorem plain_at {w : World} {a : Addr} {v : Value} (h : w.cell? a = some v) : a = ⟨a.block, a.off, none⟩ ∧ a.block < w.heap.size := by
  unfold World.cell? at h
  obtain ⟨b, o, s⟩ := a
  split at h
  · rename_i hh
    split at h
    · cases h
    · rename_i hs
      cases s with
      | none => exact ⟨rfl, (Array.getElem?_eq_some_iff.1 hh).1⟩
      | some _ => simp at hs
  · cases h


set_option maxRecDepth 100000 in
/-- A map that comes in, opened: whatever its length. -/
theorem openMap {H : Type} {enc : TypeId × Value → H} {W : World} {b0 : Nat} {v : Value} {d : DataW H} {p : List MemPlace}
    (hv : Value.okWide Tryz.prog W .any b0 48 v) (h : DataW.Trod enc Tryz.prog W 0 (fun _ => true) true 48 v d p) :
    ∃ (X Y : Int) (a : Option Addr) (n c : Nat) (xs : List Nat), v = .agg #[.int .i64 X, .int .i64 Y, .slice a n c] ∧ AnyMap W a n c xs := by
  obtain ⟨c0, c1, c2, y0, y1, y2, k, rfl, rfl, rfl, h0, h1, h2⟩ := open_agg3 Tryz.underlying48 (by kernel_rfl) cellsMap hv h
  obtain ⟨X, e0, rfl, wX⟩ := DataW.trod_int Tryz.underlying3 h0
  obtain ⟨Y, e1, rfl, wY⟩ := DataW.trod_int Tryz.underlying3 h1
  simp at e0 e1
  subst e0 e1
  rcases open_slice1 Tryz.underlying46 cellsF h2 with ⟨hcs, rfl⟩ | ⟨a, n, c, m, f, V, D, Pl, hcs, _, hl, hm, hmm, rfl, hx⟩
  · simp at hcs
    subst hcs
    exact ⟨X, Y, none, 0, 0, [], rfl, ⟨rfl, fun j hj => by omega, .inl ⟨rfl, rfl, rfl⟩, fun j hj => by omega⟩⟩
  · simp at hcs
    subst hcs
    have hnm : n ≤ m := by rw [hmm]; simp; exact hl
    have hxs : ∀ j, j < n → ∃ x : Nat, V j = .float .f32 x ∧ x < 2 ^ 32 := fun j hj => float_form Tryz.underlying23 (hx j (by omega)).2
    obtain ⟨xs, hxl, hxx⟩ : ∃ xs : List Nat, xs.length = n ∧ ∀ j, j < n → V j = .float .f32 (xs[j]?.getD 0) ∧ xs[j]?.getD 0 < 2 ^ 32 := by
      refine ⟨(List.range n).map (fun j => match V j with | .float _ x => x | _ => 0), by simp, fun j hj => ?_⟩
      obtain ⟨x, e, hx⟩ := hxs j hj
      rw [List.getElem?_map, List.getElem?_range hj]
      simp only [Option.map_some, Option.getD_some]
      rw [e]
      exact ⟨rfl, hx⟩
    refine ⟨X, Y, some a, n, c, xs, rfl, ⟨hxl, fun j hj => (hxx j hj).2, .inr ⟨a, rfl⟩, fun j hj => ?_⟩⟩
    have hpl : a = ⟨a.block, a.off, none⟩ := (plain_at (by simpa [Addr.add] using (hx 0 (by omega)).1)).1
    refine ⟨a.block, a.off, by rw [← hpl], ?_, fun j hj => ?_⟩
    · exact (plain_at (a := a) (by simpa [Addr.add] using (hx 0 (by omega)).1)).2
    · have h := (hx j (by omega)).1
      rw [(hxx j hj).1] at h
      rw [hpl, Addr.add_mid] at h
      exact h

set_option maxRecDepth 100000 in
theorem openPoint {H : Type} {enc : TypeId × Value → H} {W : World} {b0 : Nat} {v : Value} {d : DataW H} {p : List MemPlace}
    (hv : Value.okWide Tryz.prog W .any b0 50 v) (h : DataW.Trod enc Tryz.prog W 0 (fun _ => true) true 50 v d p) :
    ∃ (X Y : Int), v = .agg #[.int .i64 X, .int .i64 Y] := by
  obtain ⟨c0, c1, y0, y1, k, rfl, rfl, rfl, h0, h1⟩ := open_agg2 Tryz.underlying50 (by kernel_rfl) cellsPoint hv h
  obtain ⟨X, e0, rfl, wX⟩ := DataW.trod_int Tryz.underlying3 h0
  obtain ⟨Y, e1, rfl, wY⟩ := DataW.trod_int Tryz.underlying3 h1
  simp at e0 e1
  subst e0 e1
  exact ⟨X, Y, rfl⟩

/-! ### The table that Itoa reads, by the row's list -/

theorem gTab : Tryz.prog.globalNamed "internal/strconv.uint64pow10" = some 2 := by kernel_rfl
theorem gTabType : (Tryz.prog.globals[2]?).map (·.type) = some 255 := by kernel_rfl
theorem cellsTab : Tryz.prog.cellsOf 255 = 20 := by kernel_rfl
theorem cellsU : Tryz.prog.cellsOf 241 = 1 := by kernel_rfl
def laidList : List (String × DataW Unit) := [("math/bits.deBruijn32tab", Rows.laid_math_bits_deBruijn32tab), ("math/bits.deBruijn64tab", Rows.laid_math_bits_deBruijn64tab), ("internal/strconv.uint64pow10", Rows.laid_internal_strconv_uint64pow10)]
set_option maxRecDepth 100000 in
theorem tabAt_of {W : World} (h : laidMetH Tryz.prog laidList W) : TabAt W := by
  have h2 := h.filter (fun x => x.1 == "internal/strconv.uint64pow10")
  have e : laidList.filter (fun x => x.1 == "internal/strconv.uint64pow10") = [("internal/strconv.uint64pow10", Lib.tabData .u64 Lib.pow10Tab)] := by kernel_rfl
  rw [e] at h2
  exact Lib.tabIs_of_head (rest := []) gTab gTabType Tryz.underlying255 Tryz.underlying241 cellsU cellsTab h2

/-- A world for the witness: the settled one, the listed variables holding what the list says. -/
noncomputable def laidWorld (os : Os) : World := World.laidAll Tryz.prog os laidList
theorem laid_met (os : Os) (args : Array Value) : laidMet Tryz.prog laidList ((laidWorld os).forCall (fun _ _ => 0) ⟨#[], args, []⟩).memory :=
  laidMet_laidAll args (by kernel_rfl) (by kernel_rfl)
end Go.Proofs.YtlnhgplloaiiiaaGreatDoor
