/-
  LightWaves: what Unfour answers for any panel of words, arguments that are arrays of float32, and LightWaves for all arguments.
-/
import Derived.Test.YtfdkmmllemkogaaGreatDoorOPn
import Derived.Test.YtfdkmmllemkogaaGreatDoorOFl
import Derived.Test.YtfdkmmllemkogaaGreatDoorOPj
import Derived.Test.YtfdkmmllemkogaaGreatDoorOBd
namespace Go.Proofs.YtfdkmmllemkogaaGreatDoor
open Go.ChangeShapes Go.WideShapes Go.ChangeAt Go.RowKit Go.Joins Go.Deep Ieee
set_option linter.unusedVariables false
set_option maxRecDepth 100000

theorem ints4_of {Q : Nat → Int → Int → Prop} (h : ∀ j, j < 4 → ∃ k l, Q j k l) : ∃ ks ls : List Int, ∀ j, j < 4 → Q j (ks[j]?.getD 0) (ls[j]?.getD 0) := by
  obtain ⟨k0, l0, h0⟩ := h 0 (by omega)
  obtain ⟨k1, l1, h1⟩ := h 1 (by omega)
  obtain ⟨k2, l2, h2⟩ := h 2 (by omega)
  obtain ⟨k3, l3, h3⟩ := h 3 (by omega)
  refine ⟨[k0, k1, k2, k3], [l0, l1, l2, l3], fun j hj => ?_⟩
  match j, hj with
  | 0, _ => exact h0
  | 1, _ => exact h1
  | 2, _ => exact h2
  | 3, _ => exact h3

theorem cells4C {w : World} {b : Nat} (x0 y0 x1 y1 x2 y2 x3 y3 : Nat) (h : w.heap[b]? = some (.cells #[.complex .f32 x0 y0, .complex .f32 x1 y1, .complex .f32 x2 y2, .complex .f32 x3 y3] 95 (0, 0))) :
    ∀ j, j < 4 → w.cell? ⟨b, 0 + j, none⟩ = some (.complex .f32 (([(x0, y0), (x1, y1), (x2, y2), (x3, y3)] : List (Nat × Nat))[j]?.getD (0, 0)).1 (([(x0, y0), (x1, y1), (x2, y2), (x3, y3)] : List (Nat × Nat))[j]?.getD (0, 0)).2) := fun j hj => by
  rw [Nat.zero_add, cell_of_row _ _ j _ _ (0, 0) h]
  match j, hj with
  | 0, _ => rfl
  | 1, _ => rfl
  | 2, _ => rfl
  | 3, _ => rfl

set_option maxHeartbeats 1600000 in
theorem unfourC_all (p0 p1 p2 p3 p4 p5 p6 p7 : Nat) (HX : ∀ j, j < 4 → (([(p0, p1), (p2, p3), (p4, p5), (p6, p7)] : List (Nat × Nat))[j]?.getD (0, 0)).1 < 2 ^ 32 ∧ (([(p0, p1), (p2, p3), (p4, p5), (p6, p7)] : List (Nat × Nat))[j]?.getD (0, 0)).2 < 2 ^ 32) :
    ∃ (s0 s1 s2 s3 : Nat) (d2 r2 : Int), UnfourC p0 p1 p2 p3 p4 p5 p6 p7 s0 s1 s2 s3 d2 r2 := by
  by_cases h : firstNZ (([(p0, p1), (p2, p3), (p4, p5), (p6, p7)] : List (Nat × Nat)).map (fun z => numErr z.1 z.2)) = 0
  · have hz := firstNZ_all h
    have hK : ∀ j, j < 4 → ∃ k l, Smp (([p0, p2, p4, p6] : List Nat)[j]?.getD 0) k ∧ Smp (([p1, p3, p5, p7] : List Nat)[j]?.getD 0) l ∧ k.natAbs ≤ 65536 ∧ l.natAbs ≤ 65536 := fun j hj => by
      match j, hj with
      | 0, _ => exact numErr_zero (hz (numErr p0 p1) (by simp))
      | 1, _ => exact numErr_zero (hz (numErr p2 p3) (by simp))
      | 2, _ => exact numErr_zero (hz (numErr p4 p5) (by simp))
      | 3, _ => exact numErr_zero (hz (numErr p6 p7) (by simp))
    obtain ⟨ks, ls, HS⟩ := ints4_of hK
    have hE : ∀ (w1 : World) (b : Nat), b < w1.heap.size → w1.heap[b]? = some (.cells #[.complex .f32 p0 p1, .complex .f32 p2 p3, .complex .f32 p4 p5, .complex .f32 p6 p7] 95 (0, 0)) → Calls Tryz.prog 157 #[.slice (some ⟨b, 0, none⟩) 4 4, .func (.func 158) #[] #[]] w1 fun e w' =>
        e = .returned (.slice (some ⟨w1.heap.size, 0, none⟩) 4 4) ∧ (∀ j, j < 4 → w'.cell? ⟨w1.heap.size, 0 + j, none⟩ = some (.int .i64 0)) ∧ Below w1.heap.size w1 w' := fun w1 b hb hx => by
      refine (mapped_num b 0 4 4 [(p0, p1), (p2, p3), (p4, p5), (p6, p7)] rfl (by decide) hb (cells4C _ _ _ _ _ _ _ _ hx) HX).mono ?_
      rintro e w' ⟨he, ho, hbl⟩
      refine ⟨he, fun j hj => ?_, hbl⟩
      rw [Nat.zero_add]
      refine owns_cell ho ?_
      match j, hj with
      | 0, _ => exact congrArg (fun z => some (Value.int .i64 z)) (hz (numErr p0 p1) (by simp))
      | 1, _ => exact congrArg (fun z => some (Value.int .i64 z)) (hz (numErr p2 p3) (by simp))
      | 2, _ => exact congrArg (fun z => some (Value.int .i64 z)) (hz (numErr p4 p5) (by simp))
      | 3, _ => exact congrArg (fun z => some (Value.int .i64 z)) (hz (numErr p6 p7) (by simp))
    have hA := fun w1 => unfour_any p0 p1 p2 p3 p4 p5 p6 p7 ks ls HS hE w1
    have hR := fun w1 => refUnfour_any p0 p1 p2 p3 p4 p5 p6 p7 ks ls HS w1
    have hP := fun w1 => refCheckPanel_any p0 p1 p2 p3 p4 p5 p6 p7 w1
    rw [h] at hP
    by_cases ho : ∀ i, i < 4 → unOk ks ls i
    · refine ⟨smpOf (unR ks ls 0 4 / 4), smpOf (unR ks ls 1 4 / 4), smpOf (unR ks ls 2 4 / 4), smpOf (unR ks ls 3 4 / 4), 0, 0, fun w1 => (hA w1).mono ?_, hP, .inl ⟨rfl, fun w1 => (hR w1).mono ?_⟩⟩
      · rintro e w' ⟨hb, ⟨_, r0, r1, r2, r3, he, hs⟩ | ⟨hn, _⟩⟩
        · refine ⟨r0, r1, r2, r3, he, ⟨smp_eq (hs 0 (by omega)) ?_, smp_eq (hs 1 (by omega)) ?_, smp_eq (hs 2 (by omega)) ?_, smp_eq (hs 3 (by omega)) ?_⟩, hb⟩
          · have := (ho 0 (by omega)).2.2; omega
          · have := (ho 1 (by omega)).2.2; omega
          · have := (ho 2 (by omega)).2.2; omega
          · have := (ho 3 (by omega)).2.2; omega
        · exact absurd ho hn
      · rintro e w' ⟨hb, ⟨_, he⟩ | ⟨hn, _⟩⟩
        · exact ⟨he, hb⟩
        · exact absurd ho hn
    · refine ⟨0, 0, 0, 0, 0, 1, fun w1 => (hA w1).mono ?_, hP, .inl ⟨rfl, fun w1 => (hR w1).mono ?_⟩⟩
      · rintro e w' ⟨hb, ⟨hn, _⟩ | ⟨_, he⟩⟩
        · exact absurd hn ho
        · exact ⟨0, 0, 0, 0, he, ⟨zero_eq, zero_eq, zero_eq, zero_eq⟩, hb⟩
      · rintro e w' ⟨hb, ⟨hn, _⟩ | ⟨_, he⟩⟩
        · exact absurd hn ho
        · exact ⟨he, hb⟩
  · refine ⟨0, 0, 0, 0, _, _, fun w1 => (unfour_err p0 p1 p2 p3 p4 p5 p6 p7 HX _ rfl h w1).mono ?_, fun w1 => refCheckPanel_any p0 p1 p2 p3 p4 p5 p6 p7 w1, .inr ⟨h, rfl, rfl, rfl, rfl, rfl⟩⟩
    rintro e w' ⟨he, hb⟩
    exact ⟨0, 0, 0, 0, he, ⟨zero_eq, zero_eq, zero_eq, zero_eq⟩, hb⟩

theorem openFloatArr {H : Type} {enc : TypeId × Value → H} {W : World} {b0 : Nat} {t n e : Nat} {v : Value} {d : DataW H} {p : List MemPlace} (ht : Tryz.prog.underlying t = some (.array n e)) (he : Tryz.prog.underlying e = some (.float .f32)) (hc : Tryz.prog.cellsOf t = n) (hce : Tryz.prog.cellsOf e = 1)
    (hv : Value.okWide Tryz.prog W .any b0 t v) (h : DataW.Trod enc Tryz.prog W 0 (fun _ => true) true t v d p) : ∃ l : List Nat, l.length = n ∧ (∀ z ∈ l, z < 2 ^ 32) ∧ v = .agg (l.map (Value.float .f32)).toArray := by
  obtain ⟨cs, rfl, hsz⟩ := okWide_arr ht hv
  have hokv := hv
  obtain ⟨fuel, hf⟩ := h
  obtain ⟨xs, m, _, _, _, hl, hi⟩ := DataW.trod_array ht hf
  have key : ∀ i, i < n → ∃ z : Nat, cs.toList[i]? = some (.float .f32 z) ∧ z < 2 ^ 32 := by
    intro i hlt
    have h := hi i hlt
    rw [hce, Nat.mul_one] at h
    simp only [Value.cells] at h
    obtain ⟨y, hy⟩ : ∃ y, xs[i]? = some y := ⟨_, List.getElem?_eq_getElem (by omega)⟩
    rw [hy] at h
    have hli : i < cs.toList.length := by rw [Array.length_toList]; omega
    have e1 : (cs.toList.drop i).take 1 = [cs.toList[i]] := by
      rw [List.drop_eq_getElem_cons hli]; rfl
    rw [e1] at h
    obtain ⟨X, e0, hw⟩ := float_form he h
    exact ⟨X, by rw [List.getElem?_eq_getElem hli, e0], hw⟩
  refine ⟨(List.range n).map (fun i => match cs.toList[i]? with | some (Value.float _ z) => z | _ => (0 : Nat)), by simp, ?_, ?_⟩
  · intro z hz
    obtain ⟨i, hi', rfl⟩ := List.mem_map.1 hz
    obtain ⟨y, hy, h1⟩ := key i (List.mem_range.1 hi')
    rw [hy]
    exact h1
  · congr 1
    apply Array.ext'
    refine List.ext_getElem? fun i => ?_
    simp only [List.map_map, List.getElem?_map]
    by_cases hi' : i < n
    · obtain ⟨z, hz, _⟩ := key i hi'
      rw [hz, List.getElem?_range hi']
      have hz2 : cs[i]? = some (.float .f32 z) := by simpa using hz
      simp [hz2]
    · have h1 : cs.toList[i]? = none := by rw [List.getElem?_eq_none]; rw [Array.length_toList]; omega
      have h2 : (List.range n)[i]? = none := by rw [List.getElem?_eq_none]; simp; omega
      rw [h1, h2]; rfl
theorem openFloats4 {H : Type} {enc : TypeId × Value → H} {W : World} {b0 : Nat} {v : Value} {d : DataW H} {p : List MemPlace}
    (hv : Value.okWide Tryz.prog W .any b0 92 v) (h : DataW.Trod enc Tryz.prog W 0 (fun _ => true) true 92 v d p) :
    ∃ x0 x1 x2 x3 : Nat, v = .agg #[.float .f32 x0, .float .f32 x1, .float .f32 x2, .float .f32 x3] ∧ ∀ z ∈ [x0, x1, x2, x3], z < 2 ^ 32 := by
  obtain ⟨l, hl, hb, rfl⟩ := openFloatArr Tryz.underlying92 Tryz.underlying23 (by kernel_rfl) (by kernel_rfl) hv h
  match l, hl with
  | [x0, x1, x2, x3], _ => exact ⟨x0, x1, x2, x3, rfl, hb⟩
theorem openFloats8 {H : Type} {enc : TypeId × Value → H} {W : World} {b0 : Nat} {v : Value} {d : DataW H} {p : List MemPlace}
    (hv : Value.okWide Tryz.prog W .any b0 93 v) (h : DataW.Trod enc Tryz.prog W 0 (fun _ => true) true 93 v d p) :
    ∃ x0 x1 x2 x3 x4 x5 x6 x7 : Nat, v = .agg #[.float .f32 x0, .float .f32 x1, .float .f32 x2, .float .f32 x3, .float .f32 x4, .float .f32 x5, .float .f32 x6, .float .f32 x7] ∧ ∀ z ∈ [x0, x1, x2, x3, x4, x5, x6, x7], z < 2 ^ 32 := by
  obtain ⟨l, hl, hb, rfl⟩ := openFloatArr Tryz.underlying93 Tryz.underlying23 (by kernel_rfl) (by kernel_rfl) hv h
  match l, hl with
  | [x0, x1, x2, x3, x4, x5, x6, x7], _ => exact ⟨x0, x1, x2, x3, x4, x5, x6, x7, rfl, hb⟩

set_option maxHeartbeats 1600000 in
theorem waves_all (w : World) (x0 x1 x2 x3 p0 p1 p2 p3 p4 p5 p6 p7 : Nat) (hx : ∀ z ∈ [x0, x1, x2, x3], z < 2 ^ 32) (hp : ∀ z ∈ [p0, p1, p2, p3, p4, p5, p6, p7], z < 2 ^ 32) (ht : TabAt w) :
    Calls Tryz.prog 8 #[.agg #[.float .f32 x0, .float .f32 x1, .float .f32 x2, .float .f32 x3], .agg #[.float .f32 p0, .float .f32 p1, .float .f32 p2, .float .f32 p3, .float .f32 p4, .float .f32 p5, .float .f32 p6, .float .f32 p7]] w (TruePost w) := by
  have HX : ∀ j, j < 4 → ([x0, x1, x2, x3] : List Nat)[j]?.getD 0 < 2 ^ 32 := fun j hj => by
    match j, hj with
    | 0, _ => exact hx x0 (by simp)
    | 1, _ => exact hx x1 (by simp)
    | 2, _ => exact hx x2 (by simp)
    | 3, _ => exact hx x3 (by simp)
  have HP : ∀ j, j < 4 → (([(p0, p1), (p2, p3), (p4, p5), (p6, p7)] : List (Nat × Nat))[j]?.getD (0, 0)).1 < 2 ^ 32 ∧ (([(p0, p1), (p2, p3), (p4, p5), (p6, p7)] : List (Nat × Nat))[j]?.getD (0, 0)).2 < 2 ^ 32 := fun j hj => by
    match j, hj with
    | 0, _ => exact ⟨hp p0 (by simp), hp p1 (by simp)⟩
    | 1, _ => exact ⟨hp p2 (by simp), hp p3 (by simp)⟩
    | 2, _ => exact ⟨hp p4 (by simp), hp p5 (by simp)⟩
    | 3, _ => exact ⟨hp p6 (by simp), hp p7 (by simp)⟩
  obtain ⟨c0, c1, c2, c3, c4, c5, c6, c7, h4⟩ := fourC_all x0 x1 x2 x3 HX
  obtain ⟨s0, s1, s2, s3, d2, r2, h5⟩ := unfourC_all p0 p1 p2 p3 p4 p5 p6 p7 HP
  refine waves_walk w x0 x1 x2 x3 p0 p1 p2 p3 p4 p5 p6 p7 c0 c1 c2 c3 c4 c5 c6 c7 s0 s1 s2 s3 _ d2 r2 h4 h5 (fun w1 hb => ?_) ht
  refine checkSamples_all w.heap.size 0 4 4 [x0, x1, x2, x3] rfl (by decide) w1 fun j hj => ?_
  rw [Nat.zero_add, cell_of_row _ _ j _ _ (0, 0) hb]
  match j, hj with
  | 0, _ => rfl
  | 1, _ => rfl
  | 2, _ => rfl
  | 3, _ => rfl
end Go.Proofs.YtfdkmmllemkogaaGreatDoor
