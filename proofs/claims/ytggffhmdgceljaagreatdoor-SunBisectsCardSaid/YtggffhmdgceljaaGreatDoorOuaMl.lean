/-
  Arguments that are arrays of four integers of 8 bits, opened.
-/
import Derived.Test.YtggffhmdgceljaaGreatDoorRows
import Derived.WalkKit
import Derived.WalkSpells
import Derived.WalkLawsBesides
import Derived.Lib.Hide
import Derived.BigQuiet
import Derived.Deep.QuietTactic
import Derived.Handy
import Derived.Deep.RegionHeld3
import Derived.Deep.RegionWith
import Derived.StillTailTactics
import Derived.RangeFuncNested
import Derived.RangeFuncBound
import Derived.RangeFuncCalls
import Derived.RangeFuncLeaves
import Derived.RangeFuncBox
import Derived.Shelf.Abstract
import Derived.Shelf.RegionOpen
import Derived.OwnWalkIn
import Derived.TacticsInMore
import Derived.LoopNIn
import Derived.LoopIn
import Derived.Maps.AppendAt
import Derived.Test.YtggffhmdgceljaaGreatDoorProg
import Derived.Laws.FloatArith
import Derived.Laws.BitsAllLaws
import Derived.Deep.DeepCutAuto
import Derived.Stop.BytesEq
import Derived.Deep.MidRow
import Derived.Laws.CopyRow
import Derived.WalkMore
import Derived.Deep.DrawnRows
import Derived.Deep.CutBlock
import Derived.Orders
import Derived.LoopTactic
import Derived.Laws.StructEq
import Derived.Deep.RegionLaw
import Derived.RegionTactic
import Derived.StillTail
import Derived.Laws.RangeString
import Derived.Laws.RangeAny
import Derived.Shelf.Strings.Builder1
import Derived.Shelf.Strings.OnBuilder
import Derived.Shelf.LaysM
import Derived.Shelf.Strconv.Itoa3
import Derived.Lib.AppendIntMem
import Derived.Lib.ItoaLen
import Derived.RowKit
import Derived.Test.YtggffhmdgceljaaGreatDoorCards
import Derived.Test.YtggffhmdgceljaaGreatDoorTie
import Derived.ProofKit
import Derived.OpenShut
import Derived.Lib.SmallJoins
import Derived.Laws.Cover2
import Derived.Carry
import Derived.SizedLaws
import Derived.Deep.Slices
import Derived.Deep.DeepHandedRow
import Derived.Lib.LaidTab
import Derived.Lay
import Derived.Test.YtggffhmdgceljaaGreatDoorOuaWn
import Derived.Test.YtggffhmdgceljaaGreatDoorOuaXe
import Derived.Test.YtggffhmdgceljaaGreatDoorOuaNi
import Derived.Test.YtggffhmdgceljaaGreatDoorOuaNv
import Derived.Test.YtggffhmdgceljaaGreatDoorOuaWo
import Derived.Test.YtggffhmdgceljaaGreatDoorOuaNo
import Derived.Test.YtggffhmdgceljaaGreatDoorOuaNy
import Derived.Test.YtggffhmdgceljaaGreatDoorOuaAr
import Derived.Test.YtggffhmdgceljaaGreatDoorOuaMk
namespace Go.Proofs.YtggffhmdgceljaaGreatDoor
open Go.ChangeShapes Go.WideShapes Go.ChangeAt Go.RowKit Go.Joins Go.Deep
set_option linter.unusedVariables false
set_option maxRecDepth 100000

theorem cellsI8s : Tryz.prog.cellsOf 42 = 4 := by kernel_rfl
theorem cellsI8 : Tryz.prog.cellsOf 41 = 1 := by kernel_rfl
theorem okWide_arrS {P : Program} {w : World} {r : Reach} {base : Nat} {t n e : Nat} {v : Value} (ht : P.underlying t = some (.array n e)) (h : Value.okWide P w r base t v) : ∃ cs, v = .agg cs ∧ cs.size = P.cellsOf t := by
  simp only [Value.okWide, ht] at h
  obtain ⟨cs, h1, h2, _⟩ := h
  exact ⟨cs, h1, h2⟩

theorem openI8 {H : Type} {enc : TypeId × Value → H} {W : World} {b0 : Nat} {v : Value} {d : DataW H} {p : List MemPlace}
    (hv : Value.okWide Tryz.prog W .any b0 42 v) (h : DataW.Trod enc Tryz.prog W 0 (fun _ => true) true 42 v d p) :
    ∃ (n0 n1 n2 n3 : Int), I8 n0 ∧ I8 n1 ∧ I8 n2 ∧ I8 n3 ∧ v = .agg #[.int .i8 n0, .int .i8 n1, .int .i8 n2, .int .i8 n3] := by
  obtain ⟨cs, rfl, hsz⟩ := okWide_arrS Tryz.underlying42 hv
  obtain ⟨c0, c1, c2, c3, rfl⟩ := array4 (hsz.trans cellsI8s)
  obtain ⟨fuel, hf⟩ := h
  obtain ⟨xs, m, _, _, _, hl, hi⟩ := DataW.trod_array Tryz.underlying42 hf
  rw [cellsI8] at hi
  have key : ∀ (i : Nat) (c : Value), i < 4 → ((#[c0, c1, c2, c3] : Array Value).toList.drop (i * 1)).take 1 = [c] → ∃ n : Int, I8 n ∧ c = .int .i8 n := by
    intro i c hlt hc
    have h := hi i hlt
    simp only [Value.cells] at h
    rw [hc] at h
    obtain ⟨y, hy⟩ : ∃ y, xs[i]? = some y := ⟨_, List.getElem?_eq_getElem (by omega)⟩
    rw [hy] at h
    obtain ⟨X, e0, _, wX⟩ := DataW.trod_int Tryz.underlying41 h
    simp at e0
    refine ⟨X, ?_, e0⟩
    simp [Lit.wf, IntKind.min, IntKind.max, IntKind.signed, IntKind.bits] at wX
    exact ⟨by omega, by omega⟩
  obtain ⟨n0, h0, rfl⟩ := key 0 c0 (by omega) rfl
  obtain ⟨n1, h1, rfl⟩ := key 1 c1 (by omega) rfl
  obtain ⟨n2, h2, rfl⟩ := key 2 c2 (by omega) rfl
  obtain ⟨n3, h3, rfl⟩ := key 3 c3 (by omega) rfl
  exact ⟨n0, n1, n2, n3, h0, h1, h2, h3, rfl⟩

end Go.Proofs.YtggffhmdgceljaaGreatDoor
