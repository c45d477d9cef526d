/-
  Arguments that are two vectors, or two integers of 8 bits without a sign, opened.
-/
import Derived.Test.YtggffhmdgceljaaGreatDoorRows
import Derived.WalkKit
import Derived.WalkSpells
import Derived.WalkLawsBesides
import Derived.Lib.Hide
import Derived.BigQuiet
import Derived.Deep.QuietTactic
import Derived.Handy
import Derived.Deep.RegionHeld3
import Derived.Deep.RegionWith
import Derived.StillTailTactics
import Derived.RangeFuncNested
import Derived.RangeFuncBound
import Derived.RangeFuncCalls
import Derived.RangeFuncLeaves
import Derived.RangeFuncBox
import Derived.Shelf.Abstract
import Derived.Shelf.RegionOpen
import Derived.OwnWalkIn
import Derived.TacticsInMore
import Derived.LoopNIn
import Derived.LoopIn
import Derived.Maps.AppendAt
import Derived.Test.YtggffhmdgceljaaGreatDoorProg
import Derived.Laws.FloatArith
import Derived.Laws.BitsAllLaws
import Derived.Deep.DeepCutAuto
import Derived.Stop.BytesEq
import Derived.Deep.MidRow
import Derived.Laws.CopyRow
import Derived.WalkMore
import Derived.Deep.DrawnRows
import Derived.Deep.CutBlock
import Derived.Orders
import Derived.LoopTactic
import Derived.Laws.StructEq
import Derived.Deep.RegionLaw
import Derived.RegionTactic
import Derived.StillTail
import Derived.Laws.RangeString
import Derived.Laws.RangeAny
import Derived.Shelf.Strings.Builder1
import Derived.Shelf.Strings.OnBuilder
import Derived.Shelf.LaysM
import Derived.Shelf.Strconv.Itoa3
import Derived.Lib.AppendIntMem
import Derived.Lib.ItoaLen
import Derived.RowKit
import Derived.Test.YtggffhmdgceljaaGreatDoorCards
import Derived.Test.YtggffhmdgceljaaGreatDoorTie
import Derived.ProofKit
import Derived.OpenShut
import Derived.Lib.SmallJoins
import Derived.Laws.Cover2
import Derived.Carry
import Derived.SizedLaws
import Derived.Deep.Slices
import Derived.Deep.DeepHandedRow
import Derived.Lib.LaidTab
import Derived.Lay
import Derived.Test.YtggffhmdgceljaaGreatDoorOwaWn
import Derived.Test.YtggffhmdgceljaaGreatDoorOwaXe
import Derived.Test.YtggffhmdgceljaaGreatDoorOwaNi
import Derived.Test.YtggffhmdgceljaaGreatDoorOwaNv
import Derived.Test.YtggffhmdgceljaaGreatDoorOwaWo
import Derived.Test.YtggffhmdgceljaaGreatDoorOwaNo
import Derived.Test.YtggffhmdgceljaaGreatDoorOwaNy
import Derived.Test.YtggffhmdgceljaaGreatDoorOwaAd
import Derived.Test.YtggffhmdgceljaaGreatDoorOwaIo
import Derived.Test.YtggffhmdgceljaaGreatDoorOwaGs
namespace Go.Proofs.YtggffhmdgceljaaGreatDoor
open Go.ChangeShapes Go.WideShapes Go.ChangeAt Go.RowKit Go.Joins Go.Deep
set_option linter.unusedVariables false
set_option maxRecDepth 100000

theorem cellsV2 : Tryz.prog.cellsOf 46 = 6 := by kernel_rfl
theorem cellsU8s : Tryz.prog.cellsOf 60 = 2 := by kernel_rfl
theorem cellsU8 : Tryz.prog.cellsOf 5 = 1 := by kernel_rfl
theorem okWide_arrV {P : Program} {w : World} {r : Reach} {base : Nat} {t n e : Nat} {v : Value} (ht : P.underlying t = some (.array n e)) (h : Value.okWide P w r base t v) : ∃ cs, v = .agg cs ∧ cs.size = P.cellsOf t := by
  simp only [Value.okWide, ht] at h
  obtain ⟨cs, h1, h2, _⟩ := h
  exact ⟨cs, h1, h2⟩
theorem listS6 {α : Type} {l : List α} (h : l.length = 6) : ∃ a b c d e f, l = [a, b, c, d, e, f] := by
  match l, h with
  | [a, b, c, d, e, f], _ => exact ⟨a, b, c, d, e, f, rfl⟩
theorem listS2 {α : Type} {l : List α} (h : l.length = 2) : ∃ a b, l = [a, b] := by
  match l, h with
  | [a, b], _ => exact ⟨a, b, rfl⟩

theorem openVecs2 {H : Type} {enc : TypeId × Value → H} {W : World} {b0 : Nat} {v : Value} {d : DataW H} {p : List MemPlace}
    (hv : Value.okWide Tryz.prog W .any b0 46 v) (h : DataW.Trod enc Tryz.prog W 0 (fun _ => true) true 46 v d p) :
    ∃ (n0 n1 n2 n3 n4 n5 : Int), v = .agg #[.int .i64 n0, .int .i64 n1, .int .i64 n2, .int .i64 n3, .int .i64 n4, .int .i64 n5] := by
  obtain ⟨cs, rfl, hsz⟩ := okWide_arrV Tryz.underlying46 hv
  obtain ⟨l, rfl⟩ : ∃ l : List Value, cs = l.toArray := ⟨cs.toList, by simp⟩
  have hl : l.length = 6 := by simpa using hsz.trans cellsV2
  obtain ⟨c0, c1, c2, c3, c4, c5, rfl⟩ := listS6 hl
  obtain ⟨fuel, hf⟩ := h
  obtain ⟨xs, m, _, _, _, hl2, hi⟩ := DataW.trod_array Tryz.underlying46 hf
  rw [cellsVec] at hi
  have e1 : Tryz.prog.cellsOf 3 = 1 := cellsInt1
  have key : ∀ (i : Nat) (c c' c'' : Value), i < 2 → (([c0, c1, c2, c3, c4, c5] : List Value).drop (i * 3)).take 3 = [c, c', c''] → ∃ n n' n'' : Int, c = .int .i64 n ∧ c' = .int .i64 n' ∧ c'' = .int .i64 n'' := by
    intro i c c' c'' hlt hc
    have h := hi i hlt
    simp only [Value.cells] at h
    rw [hc] at h
    obtain ⟨y, hy⟩ : ∃ y, xs[i]? = some y := ⟨_, List.getElem?_eq_getElem (by omega)⟩
    rw [hy] at h
    obtain ⟨zs, k, _, _, _, hlen, hg⟩ := DataW.trod_struct Tryz.underlying23 h
    match zs, hlen with
    | [z0, z1, z2], _ =>
      have g0 : DataW.trod enc Tryz.prog W 0 (fun _ => true) true k 3 (([c, c', c''].drop 0).take (Tryz.prog.cellsOf 3)) = some z0 := hg 0 _ rfl
      have g1 : DataW.trod enc Tryz.prog W 0 (fun _ => true) true k 3 (([c, c', c''].drop 1).take (Tryz.prog.cellsOf 3)) = some z1 := hg 1 _ rfl
      have g2 : DataW.trod enc Tryz.prog W 0 (fun _ => true) true k 3 (([c, c', c''].drop 2).take (Tryz.prog.cellsOf 3)) = some z2 := hg 2 _ rfl
      rw [e1] at g0 g1 g2
      obtain ⟨X0, q0, _, _⟩ := DataW.trod_int Tryz.underlying3 g0
      obtain ⟨X1, q1, _, _⟩ := DataW.trod_int Tryz.underlying3 g1
      obtain ⟨X2, q2, _, _⟩ := DataW.trod_int Tryz.underlying3 g2
      simp at q0 q1 q2
      exact ⟨X0, X1, X2, q0, q1, q2⟩
  obtain ⟨n0, n1, n2, rfl, rfl, rfl⟩ := key 0 c0 c1 c2 (by omega) rfl
  obtain ⟨n3, n4, n5, rfl, rfl, rfl⟩ := key 1 c3 c4 c5 (by omega) rfl
  exact ⟨n0, n1, n2, n3, n4, n5, rfl⟩

theorem openU82 {H : Type} {enc : TypeId × Value → H} {W : World} {b0 : Nat} {v : Value} {d : DataW H} {p : List MemPlace}
    (hv : Value.okWide Tryz.prog W .any b0 60 v) (h : DataW.Trod enc Tryz.prog W 0 (fun _ => true) true 60 v d p) :
    ∃ (n0 n1 : Int), U8 n0 ∧ U8 n1 ∧ v = .agg #[.int .u8 n0, .int .u8 n1] := by
  obtain ⟨cs, rfl, hsz⟩ := okWide_arrV Tryz.underlying60 hv
  obtain ⟨l, rfl⟩ : ∃ l : List Value, cs = l.toArray := ⟨cs.toList, by simp⟩
  have hl : l.length = 2 := by simpa using hsz.trans cellsU8s
  obtain ⟨c0, c1, rfl⟩ := listS2 hl
  obtain ⟨fuel, hf⟩ := h
  obtain ⟨xs, m, _, _, _, hl2, hi⟩ := DataW.trod_array Tryz.underlying60 hf
  rw [cellsU8] at hi
  have key : ∀ (i : Nat) (c : Value), i < 2 → (([c0, c1] : List Value).drop (i * 1)).take 1 = [c] → ∃ n : Int, U8 n ∧ c = .int .u8 n := by
    intro i c hlt hc
    have h := hi i hlt
    simp only [Value.cells] at h
    rw [hc] at h
    obtain ⟨y, hy⟩ : ∃ y, xs[i]? = some y := ⟨_, List.getElem?_eq_getElem (by omega)⟩
    rw [hy] at h
    obtain ⟨X, e0, _, wX⟩ := DataW.trod_int Tryz.underlying5 h
    simp at e0
    refine ⟨X, ?_, e0⟩
    simp [Lit.wf, IntKind.min, IntKind.max, IntKind.signed, IntKind.bits] at wX
    exact ⟨by omega, by omega⟩
  obtain ⟨n0, h0, rfl⟩ := key 0 c0 (by omega) rfl
  obtain ⟨n1, h1, rfl⟩ := key 1 c1 (by omega) rfl
  exact ⟨n0, n1, h0, h1, rfl⟩
end Go.Proofs.YtggffhmdgceljaaGreatDoor
