/-
  Arguments that are arrays of integers of any length, or a float, opened.
-/
import Derived.Test.YtfdkmmllemkogaaGreatDoorODg
import Derived.OpenShut
import Derived.ChangeMaps5
namespace Go.Proofs.YtfdkmmllemkogaaGreatDoor
open Go.ChangeShapes Go.WideShapes Go.ChangeAt Go.RowKit Go.Joins Go.Deep
set_option linter.unusedVariables false
set_option maxRecDepth 100000

theorem okWide_float {P : Program} {w : World} {r : Reach} {base : Nat} {t : TypeId} {v : Value} {k : FloatKind} (ht : P.underlying t = some (.float k)) (h : Value.okWide P w r base t v) : ∃ n, v = .float k n := by
  simp only [Value.okWide, ht, Cell.okWide] at h
  cases v <;> simp_all [Cell.ok]

theorem openFloat {H : Type} {enc : TypeId × Value → H} {W : World} {b0 : Nat} {t : TypeId} {v : Value} {d : DataW H} {p : List MemPlace} (ht : Tryz.prog.underlying t = some (.float .f32))
    (hv : Value.okWide Tryz.prog W .any b0 t v) (h : DataW.Trod enc Tryz.prog W 0 (fun _ => true) true t v d p) : ∃ x : Nat, v = .float .f32 x ∧ x < 2 ^ 32 := by
  obtain ⟨x, rfl⟩ := okWide_float ht hv
  obtain ⟨fuel, hf⟩ := h
  simp only [Value.cells] at hf
  obtain ⟨y, h1, h2⟩ := float_form ht hf
  exact ⟨y, h1, h2⟩

theorem openIntArr {H : Type} {enc : TypeId × Value → H} {W : World} {b0 : Nat} {t n e : Nat} {k : IntKind} {v : Value} {d : DataW H} {p : List MemPlace} (ht : Tryz.prog.underlying t = some (.array n e)) (he : Tryz.prog.underlying e = some (.int k)) (hc : Tryz.prog.cellsOf t = n) (hce : Tryz.prog.cellsOf e = 1)
    (hv : Value.okWide Tryz.prog W .any b0 t v) (h : DataW.Trod enc Tryz.prog W 0 (fun _ => true) true t v d p) : ∃ l : List Int, l.length = n ∧ v = .agg (l.map (Value.int k)).toArray := by
  obtain ⟨cs, rfl, hsz⟩ := okWide_arr ht hv
  obtain ⟨fuel, hf⟩ := h
  obtain ⟨xs, m, _, _, _, hl, hi⟩ := DataW.trod_array ht hf
  have key : ∀ i, i < n → ∃ z : Int, cs.toList[i]? = some (.int k z) := by
    intro i hlt
    have h := hi i hlt
    rw [hce, Nat.mul_one] at h
    simp only [Value.cells] at h
    obtain ⟨y, hy⟩ : ∃ y, xs[i]? = some y := ⟨_, List.getElem?_eq_getElem (by omega)⟩
    rw [hy] at h
    have hli : i < cs.toList.length := by rw [Array.length_toList]; omega
    have e1 : (cs.toList.drop i).take 1 = [cs.toList[i]] := by
      rw [List.drop_eq_getElem_cons hli]; rfl
    rw [e1] at h
    obtain ⟨X, e0, _, _⟩ := DataW.trod_int he h
    simp only [List.cons.injEq, and_true] at e0
    exact ⟨X, by rw [List.getElem?_eq_getElem hli, e0]⟩
  refine ⟨(List.range n).map (fun i => match cs.toList[i]? with | some (Value.int _ z) => z | _ => (0 : Int)), by simp, ?_⟩
  congr 1
  apply Array.ext'
  refine List.ext_getElem? fun i => ?_
  simp only [List.map_map, List.getElem?_map]
  by_cases hi' : i < n
  · obtain ⟨z, hz⟩ := key i hi'
    rw [hz, List.getElem?_range hi']
    have hz2 : cs[i]? = some (.int k z) := by simpa using hz
    simp [hz2]
  · have h1 : cs.toList[i]? = none := by rw [List.getElem?_eq_none]; rw [Array.length_toList]; omega
    have h2 : (List.range n)[i]? = none := by rw [List.getElem?_eq_none]; simp; omega
    rw [h1, h2]; rfl

theorem list7 {l : List Int} (h : l.length = 7) : ∃ a b c d e f g, l = [a, b, c, d, e, f, g] := by
  match l, h with
  | [a, b, c, d, e, f, g], _ => exact ⟨a, b, c, d, e, f, g, rfl⟩

theorem openInts7 {H : Type} {enc : TypeId × Value → H} {W : World} {b0 : Nat} {v : Value} {d : DataW H} {p : List MemPlace}
    (hv : Value.okWide Tryz.prog W .any b0 22 v) (h : DataW.Trod enc Tryz.prog W 0 (fun _ => true) true 22 v d p) :
    ∃ (n0 n1 n2 n3 n4 n5 n6 : Int), v = .agg #[.int .i64 n0, .int .i64 n1, .int .i64 n2, .int .i64 n3, .int .i64 n4, .int .i64 n5, .int .i64 n6] := by
  obtain ⟨l, hl, rfl⟩ := openIntArr Tryz.underlying22 Tryz.underlying3 (by kernel_rfl) cellsInt hv h
  obtain ⟨a, b, c, d, e, f, g, rfl⟩ := list7 hl
  exact ⟨a, b, c, d, e, f, g, rfl⟩
end Go.Proofs.YtfdkmmllemkogaaGreatDoor
