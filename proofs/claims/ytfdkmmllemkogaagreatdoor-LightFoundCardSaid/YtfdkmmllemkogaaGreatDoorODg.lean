/-
  Arguments that are arrays of integers or of spans, opened.
-/
import Derived.Test.YtfdkmmllemkogaaGreatDoorOBd
import Derived.OpenShut
namespace Go.Proofs.YtfdkmmllemkogaaGreatDoor
open Go.ChangeShapes Go.WideShapes Go.ChangeAt Go.RowKit Go.Joins Go.Deep
set_option linter.unusedVariables false
set_option maxRecDepth 100000

theorem cellsInts4 : Tryz.prog.cellsOf 72 = 4 := by kernel_rfl
theorem cellsSpans : Tryz.prog.cellsOf 71 = 4 := by kernel_rfl
theorem cellsSpan : Tryz.prog.cellsOf 70 = 2 := by kernel_rfl
theorem cellsInt : Tryz.prog.cellsOf 3 = 1 := by kernel_rfl

theorem okWide_arr {P : Program} {w : World} {r : Reach} {base : Nat} {t n e : Nat} {v : Value} (ht : P.underlying t = some (.array n e)) (h : Value.okWide P w r base t v) : ∃ cs, v = .agg cs ∧ cs.size = P.cellsOf t := by
  simp only [Value.okWide, ht] at h
  obtain ⟨cs, h1, h2, _⟩ := h
  exact ⟨cs, h1, h2⟩

theorem openInts4 {H : Type} {enc : TypeId × Value → H} {W : World} {b0 : Nat} {v : Value} {d : DataW H} {p : List MemPlace}
    (hv : Value.okWide Tryz.prog W .any b0 72 v) (h : DataW.Trod enc Tryz.prog W 0 (fun _ => true) true 72 v d p) :
    ∃ (n0 n1 n2 n3 : Int), v = .agg #[.int .i64 n0, .int .i64 n1, .int .i64 n2, .int .i64 n3] := by
  obtain ⟨cs, rfl, hsz⟩ := okWide_arr Tryz.underlying72 hv
  obtain ⟨c0, c1, c2, c3, rfl⟩ := array4 (hsz.trans cellsInts4)
  obtain ⟨fuel, hf⟩ := h
  obtain ⟨xs, m, _, _, _, hl, hi⟩ := DataW.trod_array Tryz.underlying72 hf
  rw [cellsInt] at hi
  have key : ∀ (i : Nat) (c : Value), i < 4 → ((#[c0, c1, c2, c3] : Array Value).toList.drop (i * 1)).take 1 = [c] → ∃ n : Int, c = .int .i64 n := by
    intro i c hlt hc
    have h := hi i hlt
    simp only [Value.cells] at h
    rw [hc] at h
    obtain ⟨y, hy⟩ : ∃ y, xs[i]? = some y := ⟨_, List.getElem?_eq_getElem (by omega)⟩
    rw [hy] at h
    obtain ⟨X, e0, _, _⟩ := DataW.trod_int Tryz.underlying3 h
    simp at e0
    exact ⟨X, e0⟩
  obtain ⟨n0, rfl⟩ := key 0 c0 (by omega) rfl
  obtain ⟨n1, rfl⟩ := key 1 c1 (by omega) rfl
  obtain ⟨n2, rfl⟩ := key 2 c2 (by omega) rfl
  obtain ⟨n3, rfl⟩ := key 3 c3 (by omega) rfl
  exact ⟨n0, n1, n2, n3, rfl⟩

theorem openSpans {H : Type} {enc : TypeId × Value → H} {W : World} {b0 : Nat} {v : Value} {d : DataW H} {p : List MemPlace}
    (hv : Value.okWide Tryz.prog W .any b0 71 v) (h : DataW.Trod enc Tryz.prog W 0 (fun _ => true) true 71 v d p) :
    ∃ (n0 n1 n2 n3 : Int), v = .agg #[.int .i64 n0, .int .i64 n1, .int .i64 n2, .int .i64 n3] := by
  obtain ⟨cs, rfl, hsz⟩ := okWide_arr Tryz.underlying71 hv
  obtain ⟨c0, c1, c2, c3, rfl⟩ := array4 (hsz.trans cellsSpans)
  obtain ⟨fuel, hf⟩ := h
  obtain ⟨xs, m, _, _, _, hl, hi⟩ := DataW.trod_array Tryz.underlying71 hf
  rw [cellsSpan] at hi
  have key : ∀ (i : Nat) (c c' : Value), i < 2 → ((#[c0, c1, c2, c3] : Array Value).toList.drop (i * 2)).take 2 = [c, c'] → ∃ n n' : Int, c = .int .i64 n ∧ c' = .int .i64 n' := by
    intro i c c' hlt hc
    have h := hi i hlt
    simp only [Value.cells] at h
    rw [hc] at h
    obtain ⟨y, hy⟩ : ∃ y, xs[i]? = some y := ⟨_, List.getElem?_eq_getElem (by omega)⟩
    rw [hy] at h
    obtain ⟨y0, y1, k, _, _, h0, h1⟩ := trod_struct2 Tryz.underlying70 h
    have e1 : Tryz.prog.cellsOf 3 = 1 := cellsInt
    simp only [e1] at h0 h1
    obtain ⟨X, e0, _, _⟩ := DataW.trod_int Tryz.underlying3 h0
    obtain ⟨Y, e2, _, _⟩ := DataW.trod_int Tryz.underlying3 h1
    simp at e0 e2
    exact ⟨X, Y, e0, e2⟩
  obtain ⟨n0, n1, rfl, rfl⟩ := key 0 c0 c1 (by omega) rfl
  obtain ⟨n2, n3, rfl, rfl⟩ := key 1 c2 c3 (by omega) rfl
  exact ⟨n0, n1, n2, n3, rfl⟩
end Go.Proofs.YtfdkmmllemkogaaGreatDoor
