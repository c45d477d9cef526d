/-
  The walk of LightWaves from what its callees answer: FourC, UnfourC, and the answer of CheckSamples; two arrays of complex64 or float32 whose parts are equal by order are equal.
-/
import Derived.Test.YtfdkmmllemkogaaGreatDoorOPk
import Derived.Test.YtfdkmmllemkogaaGreatDoorOLm
import Derived.Test.YtfdkmmllemkogaaGreatDoorOVk
namespace Go.Proofs.YtfdkmmllemkogaaGreatDoor
open Go.RowKit Go.Shelf
set_option linter.unusedVariables false
set_option linter.unusedSimpArgs false

/-- The panel of the parts, as far as it is filled. -/
def panelTo8 (ps : List Nat) (k : Nat) : List Value := (List.range 4).map fun j => if j < k then .complex .f32 (ps[2 * j]?.getD 0) (ps[2 * j + 1]?.getD 0) else .complex .f32 0 0
theorem panelTo8_len (ps : List Nat) (k : Nat) : (panelTo8 ps k).length = 4 := by simp [panelTo8]
theorem panelTo8_step (ps : List Nat) {k : Nat} (hk : k < 4) : (panelTo8 ps k).set k (.complex .f32 (ps[2 * k]?.getD 0) (ps[2 * k + 1]?.getD 0)) = panelTo8 ps (k + 1) := by
  refine List.ext_getElem? fun i => ?_
  by_cases hi : i < 4
  · by_cases hik : i = k
    · subst hik
      rw [List.getElem?_set_self (by rw [panelTo8_len]; exact hi)]
      unfold panelTo8
      rw [List.getElem?_map, List.getElem?_range hi, Option.map_some, if_pos (by omega)]
    · rw [List.getElem?_set_ne (fun e => hik e.symm)]
      unfold panelTo8
      rw [List.getElem?_map, List.getElem?_map, List.getElem?_range hi, Option.map_some, Option.map_some]
      by_cases h : i < k
      · rw [if_pos h, if_pos (by omega)]
      · rw [if_neg h, if_neg (by omega)]
  · rw [List.getElem?_eq_none (by rw [List.length_set, panelTo8_len]; omega), List.getElem?_eq_none (by rw [panelTo8_len]; omega)]

section
variable {P : Program} (w : World)
theorem equalIn_cplx (d : Nat) (t e : TypeId) (n : Nat) (ht : P.underlying t = some (.array n e)) (he : P.underlying e = some (.complex .f32)) (hsz : ∀ w, (sizeOf e).run P w = .ok 1 w) (xs ys : List (Nat × Nat)) (hx : xs.length = n) (hy : ys.length = n)
    (ho : ∀ i, i < n → FloatKind.f32.format.order (xs[i]?.getD (0, 0)).1 (ys[i]?.getD (0, 0)).1 = some .eq ∧ FloatKind.f32.format.order (xs[i]?.getD (0, 0)).2 (ys[i]?.getD (0, 0)).2 = some .eq) :
    (Op.equalIn (d + 2) t (.agg (xs.map (fun z => Value.complex .f32 z.1 z.2)).toArray) (.agg (ys.map (fun z => Value.complex .f32 z.1 z.2)).toArray)).run P w = .ok true w := by
  rw [Op.equalIn]
  simp only [Sem.run_bind, run_underlying ht, Result.andThen_ok, hsz, Std.Legacy.Range.forIn_eq_forIn_range', Std.Legacy.Range.size, Nat.sub_zero, Nat.add_sub_cancel, Nat.div_one]
  have hl : ∀ i ∈ List.range' 0 n 1, i < n := fun i hi => by simpa using (List.mem_range'_1.1 hi).2
  generalize List.range' 0 n 1 = l at hl ⊢
  induction l with
  | nil => simp
  | cons i l ih =>
    have hi : i < n := hl i (by simp)
    obtain ⟨o1, o2⟩ := ho i hi
    have px : (part e (xs.map (fun z => Value.complex .f32 z.1 z.2)).toArray (i * 1)).run P w = .ok (Value.complex .f32 (xs[i]?.getD (0, 0)).1 (xs[i]?.getD (0, 0)).2) w := by
      simp [part, isAgg, run_underlying he, List.getElem?_eq_getElem (show i < xs.length by omega)]
    have py : (part e (ys.map (fun z => Value.complex .f32 z.1 z.2)).toArray (i * 1)).run P w = .ok (Value.complex .f32 (ys[i]?.getD (0, 0)).1 (ys[i]?.getD (0, 0)).2) w := by
      simp [part, isAgg, run_underlying he, List.getElem?_eq_getElem (show i < ys.length by omega)]
    have pe : (Op.equalIn (d + 1) e (Value.complex .f32 (xs[i]?.getD (0, 0)).1 (xs[i]?.getD (0, 0)).2) (Value.complex .f32 (ys[i]?.getD (0, 0)).1 (ys[i]?.getD (0, 0)).2)).run P w = .ok true w := by
      rw [Op.equalIn]
      simp [run_underlying he, Sem.run_bind, Op.floatEq, o1, o2]
    simp only [List.forIn_cons, Sem.run_bind, px, py, pe, Result.andThen_ok]
    simp only [Bool.not_true, Bool.false_eq_true, if_false, Sem.run_pure, Result.andThen_ok]
    exact ih fun j hj => hl j (by simp [hj])
theorem equalIn_flt (d : Nat) (t e : TypeId) (n : Nat) (ht : P.underlying t = some (.array n e)) (he : P.underlying e = some (.float .f32)) (hsz : ∀ w, (sizeOf e).run P w = .ok 1 w) (xs ys : List Nat) (hx : xs.length = n) (hy : ys.length = n)
    (ho : ∀ i, i < n → FloatKind.f32.format.order (xs[i]?.getD 0) (ys[i]?.getD 0) = some .eq) :
    (Op.equalIn (d + 2) t (.agg (xs.map (fun z => Value.float .f32 z)).toArray) (.agg (ys.map (fun z => Value.float .f32 z)).toArray)).run P w = .ok true w := by
  rw [Op.equalIn]
  simp only [Sem.run_bind, run_underlying ht, Result.andThen_ok, hsz, Std.Legacy.Range.forIn_eq_forIn_range', Std.Legacy.Range.size, Nat.sub_zero, Nat.add_sub_cancel, Nat.div_one]
  have hl : ∀ i ∈ List.range' 0 n 1, i < n := fun i hi => by simpa using (List.mem_range'_1.1 hi).2
  generalize List.range' 0 n 1 = l at hl ⊢
  induction l with
  | nil => simp
  | cons i l ih =>
    have hi : i < n := hl i (by simp)
    have o1 := ho i hi
    have px : (part e (xs.map (fun z => Value.float .f32 z)).toArray (i * 1)).run P w = .ok (Value.float .f32 (xs[i]?.getD 0)) w := by
      simp [part, isAgg, run_underlying he, List.getElem?_eq_getElem (show i < xs.length by omega)]
    have py : (part e (ys.map (fun z => Value.float .f32 z)).toArray (i * 1)).run P w = .ok (Value.float .f32 (ys[i]?.getD 0)) w := by
      simp [part, isAgg, run_underlying he, List.getElem?_eq_getElem (show i < ys.length by omega)]
    have pe : (Op.equalIn (d + 1) e (Value.float .f32 (xs[i]?.getD 0)) (Value.float .f32 (ys[i]?.getD 0))).run P w = .ok true w := by
      rw [Op.equalIn]
      simp [run_underlying he, Sem.run_bind, Op.floatEq, o1]
    simp only [List.forIn_cons, Sem.run_bind, px, py, pe, Result.andThen_ok]
    simp only [Bool.not_true, Bool.false_eq_true, if_false, Sem.run_pure, Result.andThen_ok]
    exact ih fun j hj => hl j (by simp [hj])
end
theorem eq_panel (q0 q1 q2 q3 q4 q5 q6 q7 c0 c1 c2 c3 c4 c5 c6 c7 : Nat) (h : FloatKind.f32.format.order q0 c0 = some .eq ∧ FloatKind.f32.format.order q1 c1 = some .eq ∧ FloatKind.f32.format.order q2 c2 = some .eq ∧ FloatKind.f32.format.order q3 c3 = some .eq ∧ FloatKind.f32.format.order q4 c4 = some .eq ∧ FloatKind.f32.format.order q5 c5 = some .eq ∧ FloatKind.f32.format.order q6 c6 = some .eq ∧ FloatKind.f32.format.order q7 c7 = some .eq) (w : World) :
    (Op.equalIn 10000 95 (.agg #[.complex .f32 q0 q1, .complex .f32 q2 q3, .complex .f32 q4 q5, .complex .f32 q6 q7]) (.agg #[.complex .f32 c0 c1, .complex .f32 c2 c3, .complex .f32 c4 c5, .complex .f32 c6 c7])).run Tryz.prog w = .ok true w := by
  obtain ⟨o0, o1, o2, o3, o4, o5, o6, o7⟩ := h
  refine equalIn_cplx w 9998 95 94 4 (Tryz.underlying95) (Tryz.underlying94) (fun w => by first | kernel_rfl | rfl) [(q0, q1), (q2, q3), (q4, q5), (q6, q7)] [(c0, c1), (c2, c3), (c4, c5), (c6, c7)] rfl rfl (fun i hi => ?_)
  match i, hi with
  | 0, _ => exact ⟨o0, o1⟩
  | 1, _ => exact ⟨o2, o3⟩
  | 2, _ => exact ⟨o4, o5⟩
  | 3, _ => exact ⟨o6, o7⟩
theorem eq_four (t0 t1 t2 t3 s0 s1 s2 s3 : Nat) (h : FloatKind.f32.format.order t0 s0 = some .eq ∧ FloatKind.f32.format.order t1 s1 = some .eq ∧ FloatKind.f32.format.order t2 s2 = some .eq ∧ FloatKind.f32.format.order t3 s3 = some .eq) (w : World) :
    (Op.equalIn 10000 92 (.agg #[.float .f32 t0, .float .f32 t1, .float .f32 t2, .float .f32 t3]) (.agg #[.float .f32 s0, .float .f32 s1, .float .f32 s2, .float .f32 s3])).run Tryz.prog w = .ok true w := by
  obtain ⟨o0, o1, o2, o3⟩ := h
  refine equalIn_flt w 9998 92 23 4 (Tryz.underlying92) (Tryz.underlying23) (fun w => by first | kernel_rfl | rfl) [t0, t1, t2, t3] [s0, s1, s2, s3] rfl rfl (fun i hi => ?_)
  match i, hi with
  | 0, _ => exact o0
  | 1, _ => exact o1
  | 2, _ => exact o2
  | 3, _ => exact o3

/-- What Four answers, and the variable that it is held against. -/
def FourC (x0 x1 x2 x3 c0 c1 c2 c3 c4 c5 c6 c7 : Nat) (r1 : Int) : Prop := (∀ w1 : World, Calls Tryz.prog 68 #[.agg #[.float .f32 x0, .float .f32 x1, .float .f32 x2, .float .f32 x3]] w1 fun e w' =>
    ∃ q0 q1 q2 q3 q4 q5 q6 q7 : Nat, e = .returned (.tuple #[.agg #[.complex .f32 q0 q1, .complex .f32 q2 q3, .complex .f32 q4 q5, .complex .f32 q6 q7], .int .i64 r1]) ∧ (FloatKind.f32.format.order q0 c0 = some .eq ∧ FloatKind.f32.format.order q1 c1 = some .eq ∧ FloatKind.f32.format.order q2 c2 = some .eq ∧ FloatKind.f32.format.order q3 c3 = some .eq ∧ FloatKind.f32.format.order q4 c4 = some .eq ∧ FloatKind.f32.format.order q5 c5 = some .eq ∧ FloatKind.f32.format.order q6 c6 = some .eq ∧ FloatKind.f32.format.order q7 c7 = some .eq) ∧ Below w1.heap.size w1 w') ∧
  ((r1 = 0 ∧ ∀ w1 : World, Calls Tryz.prog 72 #[.agg #[.float .f32 x0, .float .f32 x1, .float .f32 x2, .float .f32 x3]] w1 fun e w' => e = .returned (.agg #[.complex .f32 c0 c1, .complex .f32 c2 c3, .complex .f32 c4 c5, .complex .f32 c6 c7]) ∧ Below w1.heap.size w1 w') ∨
   (r1 ≠ 0 ∧ c0 = 0 ∧ c1 = 0 ∧ c2 = 0 ∧ c3 = 0 ∧ c4 = 0 ∧ c5 = 0 ∧ c6 = 0 ∧ c7 = 0))
/-- What Unfour answers, and what it is held against. -/
def UnfourC (p0 p1 p2 p3 p4 p5 p6 p7 s0 s1 s2 s3 : Nat) (d2 r2 : Int) : Prop := (∀ w1 : World, Calls Tryz.prog 69 #[.agg #[.complex .f32 p0 p1, .complex .f32 p2 p3, .complex .f32 p4 p5, .complex .f32 p6 p7]] w1 fun e w' =>
    ∃ t0 t1 t2 t3 : Nat, e = .returned (.tuple #[.agg #[.float .f32 t0, .float .f32 t1, .float .f32 t2, .float .f32 t3], .int .i64 r2]) ∧ (FloatKind.f32.format.order t0 s0 = some .eq ∧ FloatKind.f32.format.order t1 s1 = some .eq ∧ FloatKind.f32.format.order t2 s2 = some .eq ∧ FloatKind.f32.format.order t3 s3 = some .eq) ∧ Below w1.heap.size w1 w') ∧
  (∀ w1 : World, Calls Tryz.prog 71 #[.agg #[.complex .f32 p0 p1, .complex .f32 p2 p3, .complex .f32 p4 p5, .complex .f32 p6 p7]] w1 fun e w' => e = .returned (.int .i64 d2) ∧ Below w1.heap.size w1 w') ∧
  ((d2 = 0 ∧ ∀ w1 : World, Calls Tryz.prog 73 #[.agg #[.complex .f32 p0 p1, .complex .f32 p2 p3, .complex .f32 p4 p5, .complex .f32 p6 p7]] w1 fun e w' => e = .returned (.tuple #[.agg #[.float .f32 s0, .float .f32 s1, .float .f32 s2, .float .f32 s3], .int .i64 r2]) ∧ Below w1.heap.size w1 w') ∨
   (d2 ≠ 0 ∧ d2 = r2 ∧ s0 = 0 ∧ s1 = 0 ∧ s2 = 0 ∧ s3 = 0))
theorem FourC.get {x0 x1 x2 x3 c0 c1 c2 c3 c4 c5 c6 c7 : Nat} {r1 : Int} (h : FourC x0 x1 x2 x3 c0 c1 c2 c3 c4 c5 c6 c7 r1) : ∀ w1 : World, Calls Tryz.prog 68 #[.agg #[.float .f32 x0, .float .f32 x1, .float .f32 x2, .float .f32 x3]] w1 fun e w' =>
    ∃ q0 q1 q2 q3 q4 q5 q6 q7 : Nat, e = .returned (.tuple #[.agg #[.complex .f32 q0 q1, .complex .f32 q2 q3, .complex .f32 q4 q5, .complex .f32 q6 q7], .int .i64 r1]) ∧ (FloatKind.f32.format.order q0 c0 = some .eq ∧ FloatKind.f32.format.order q1 c1 = some .eq ∧ FloatKind.f32.format.order q2 c2 = some .eq ∧ FloatKind.f32.format.order q3 c3 = some .eq ∧ FloatKind.f32.format.order q4 c4 = some .eq ∧ FloatKind.f32.format.order q5 c5 = some .eq ∧ FloatKind.f32.format.order q6 c6 = some .eq ∧ FloatKind.f32.format.order q7 c7 = some .eq) ∧ Below w1.heap.size w1 w' := h.1
theorem UnfourC.get {p0 p1 p2 p3 p4 p5 p6 p7 s0 s1 s2 s3 : Nat} {d2 r2 : Int} (h : UnfourC p0 p1 p2 p3 p4 p5 p6 p7 s0 s1 s2 s3 d2 r2) : ∀ w1 : World, Calls Tryz.prog 69 #[.agg #[.complex .f32 p0 p1, .complex .f32 p2 p3, .complex .f32 p4 p5, .complex .f32 p6 p7]] w1 fun e w' =>
    ∃ t0 t1 t2 t3 : Nat, e = .returned (.tuple #[.agg #[.float .f32 t0, .float .f32 t1, .float .f32 t2, .float .f32 t3], .int .i64 r2]) ∧ (FloatKind.f32.format.order t0 s0 = some .eq ∧ FloatKind.f32.format.order t1 s1 = some .eq ∧ FloatKind.f32.format.order t2 s2 = some .eq ∧ FloatKind.f32.format.order t3 s3 = some .eq) ∧ Below w1.heap.size w1 w' := h.1
theorem UnfourC.chk {p0 p1 p2 p3 p4 p5 p6 p7 s0 s1 s2 s3 : Nat} {d2 r2 : Int} (h : UnfourC p0 p1 p2 p3 p4 p5 p6 p7 s0 s1 s2 s3 d2 r2) : ∀ w1 : World, Calls Tryz.prog 71 #[.agg #[.complex .f32 p0 p1, .complex .f32 p2 p3, .complex .f32 p4 p5, .complex .f32 p6 p7]] w1 fun e w' => e = .returned (.int .i64 d2) ∧ Below w1.heap.size w1 w' := h.2.1
theorem FourC.alt {x0 x1 x2 x3 c0 c1 c2 c3 c4 c5 c6 c7 : Nat} {r1 : Int} (h : FourC x0 x1 x2 x3 c0 c1 c2 c3 c4 c5 c6 c7 r1) : ((r1 = 0 ∧ ∀ w1 : World, Calls Tryz.prog 72 #[.agg #[.float .f32 x0, .float .f32 x1, .float .f32 x2, .float .f32 x3]] w1 fun e w' => e = .returned (.agg #[.complex .f32 c0 c1, .complex .f32 c2 c3, .complex .f32 c4 c5, .complex .f32 c6 c7]) ∧ Below w1.heap.size w1 w') ∨
   (r1 ≠ 0 ∧ c0 = 0 ∧ c1 = 0 ∧ c2 = 0 ∧ c3 = 0 ∧ c4 = 0 ∧ c5 = 0 ∧ c6 = 0 ∧ c7 = 0)) := h.2
theorem UnfourC.alt {p0 p1 p2 p3 p4 p5 p6 p7 s0 s1 s2 s3 : Nat} {d2 r2 : Int} (h : UnfourC p0 p1 p2 p3 p4 p5 p6 p7 s0 s1 s2 s3 d2 r2) : ((d2 = 0 ∧ ∀ w1 : World, Calls Tryz.prog 73 #[.agg #[.complex .f32 p0 p1, .complex .f32 p2 p3, .complex .f32 p4 p5, .complex .f32 p6 p7]] w1 fun e w' => e = .returned (.tuple #[.agg #[.float .f32 s0, .float .f32 s1, .float .f32 s2, .float .f32 s3], .int .i64 r2]) ∧ Below w1.heap.size w1 w') ∨
   (d2 ≠ 0 ∧ d2 = r2 ∧ s0 = 0 ∧ s1 = 0 ∧ s2 = 0 ∧ s3 = 0)) := h.2.2
theorem kp_put4 {w w1 : World} {l : List (Nat × Obj)} {B : Nat} {x y z u : Value} {T : TypeId} (h : Kp w w1 ((B, .cells #[x, y, z, u] T (0, 0)) :: l)) (hs : w.heap.size ≤ B) (hne : ∀ p ∈ l, p.1 ≠ B) (a b c d : Value) :
    Kp w ((((w1.setCell ⟨B, 0, Option.none⟩ a).setCell ⟨B, 1, Option.none⟩ b).setCell ⟨B, 2, Option.none⟩ c).setCell ⟨B, 3, Option.none⟩ d) ((B, .cells #[a, b, c, d] T (0, 0)) :: l) := by
  refine ⟨(((h.1.setCell (p := ⟨B, 0, Option.none⟩) hs _).setCell (p := ⟨B, 1, Option.none⟩) hs _).setCell (p := ⟨B, 2, Option.none⟩) hs _).setCell (p := ⟨B, 3, Option.none⟩) hs _, fun p hp => ?_⟩
  rcases List.mem_cons.1 hp with rfl | hp
  · exact blk_set4u (h.2 _ (.head _)) _ _ _ _
  · have hn := hne p hp
    exact (Below.heap_setCell _ _ _ _ hn).trans ((Below.heap_setCell _ _ _ _ hn).trans ((Below.heap_setCell _ _ _ _ hn).trans ((Below.heap_setCell _ _ _ _ hn).trans (h.2 p (.tail _ hp)))))

attribute [local go_sem] store_complex store_float4
set_option maxRecDepth 1000000 in
set_option maxHeartbeats 12800000 in
theorem waves_walk (w : World) (x0 x1 x2 x3 p0 p1 p2 p3 p4 p5 p6 p7 c0 c1 c2 c3 c4 c5 c6 c7 s0 s1 s2 s3 : Nat) (r1 d2 r2 : Int)
    (h4 : FourC x0 x1 x2 x3 c0 c1 c2 c3 c4 c5 c6 c7 r1) (h5 : UnfourC p0 p1 p2 p3 p4 p5 p6 p7 s0 s1 s2 s3 d2 r2)
    (hC : ∀ w1 : World, w1.heap[w.heap.size]? = some (.cells #[.float .f32 x0, .float .f32 x1, .float .f32 x2, .float .f32 x3] 92 (0, 0)) → Calls Tryz.prog 70 #[.slice (some ⟨w.heap.size, 0, none⟩) 4 4] w1 fun e w' => e = .returned (.int .i64 r1) ∧ w1 = w')
    (ht : TabAt w) :
    Calls Tryz.prog 8 #[.agg #[.float .f32 x0, .float .f32 x1, .float .f32 x2, .float .f32 x3], .agg #[.float .f32 p0, .float .f32 p1, .float .f32 p2, .float .f32 p3, .float .f32 p4, .float .f32 p5, .float .f32 p6, .float .f32 p7]] w (TruePost w) := by
  have H4 := Lib.hid h4
  have H5 := Lib.hid h5
  have HC := Lib.hid hC
  have KW : Hid (∀ w1 : World, Below w.heap.size w w1 → Calls Tryz.prog 19 #[] w1 fun e w' => e = .returned (.bool true) ∧ Below w.heap.size w w') :=
    Lib.hid fun w1 h => (awake_any w1 (ht.on h)).mono fun e w' ⟨he, hb⟩ => ⟨he, h.trans (hb.mono h.size)⟩
  clear h4 h5 hC ht
  obtain ⟨W0, hW0⟩ : ∃ W0, ((w.alloc (.cells #[.float .f32 x0, .float .f32 x1, .float .f32 x2, .float .f32 x3] 92)).alloc (.cells #[.float .f32 p0, .float .f32 p1, .float .f32 p2, .float .f32 p3, .float .f32 p4, .float .f32 p5, .float .f32 p6, .float .f32 p7] 93)).alloc (.cells #[.complex .f32 0 0, .complex .f32 0 0, .complex .f32 0 0, .complex .f32 0 0] 95) = W0 := ⟨_, rfl⟩
  have hB0 : Below w.heap.size w W0 := by rw [← hW0]; exact (((Below.refl _ w).alloc (Nat.le_refl _) _).alloc (by simp) _).alloc (by simp; omega) _
  have bX : W0.heap[w.heap.size]? = some (.cells #[.float .f32 x0, .float .f32 x1, .float .f32 x2, .float .f32 x3] 92 (0, 0)) := by rw [← hW0]; exact blk_alloc_other (blk_alloc_other (blk_alloc_new _ _) _) _
  have bP : W0.heap[w.heap.size + 1]? = some (.cells #[.float .f32 p0, .float .f32 p1, .float .f32 p2, .float .f32 p3, .float .f32 p4, .float .f32 p5, .float .f32 p6, .float .f32 p7] 93 (0, 0)) := by rw [← hW0]; exact blk_alloc_other (blk_alloc_new1 w _ _) _
  have bZ : W0.heap[w.heap.size + 2]? = some (.cells (panelTo8 [p0, p1, p2, p3, p4, p5, p6, p7] 0).toArray 95 (0, 0)) := by rw [← hW0]; exact blk_alloc_at _ _ (by simp)
  have HB0 := Lib.hid hB0
  have HX0 := Lib.hid bX
  have HP0 := Lib.hid bP
  have HZ0 := Lib.hid bZ
  clear hB0 bX bP bZ
  go_enter Tryz.func8, Tryz.ntmps8
  go_upto_region 2 with fail
  try rw [hW0]
  clear hW0
  go_upto_block 0 with fail
  go_cut [] (fun wc => wc.heap[w.heap.size]? = some (.cells #[.float .f32 x0, .float .f32 x1, .float .f32 x2, .float .f32 x3] 92 (0, 0)) ∧ wc.heap[w.heap.size + 2]? = some (.cells (panelTo8 [p0, p1, p2, p3, p4, p5, p6, p7] 4).toArray 95 (0, 0)) ∧ Below w.heap.size w wc)
  case first =>
    go_wp2_with fail
    go_loopw [15] (fun s15 wq => ∃ k : Nat, k ≤ 4 ∧ s15 = .int .i64 k ∧ wq.heap[w.heap.size]? = some (.cells #[.float .f32 x0, .float .f32 x1, .float .f32 x2, .float .f32 x3] 92 (0, 0)) ∧
      wq.heap[w.heap.size + 1]? = some (.cells #[.float .f32 p0, .float .f32 p1, .float .f32 p2, .float .f32 p3, .float .f32 p4, .float .f32 p5, .float .f32 p6, .float .f32 p7] 93 (0, 0)) ∧
      wq.heap[w.heap.size + 2]? = some (.cells (panelTo8 [p0, p1, p2, p3, p4, p5, p6, p7] k).toArray 95 (0, 0)) ∧ Below w.heap.size w wq) (fun i _ => 4 - (intOf i).toNat)
    case atStart => exact ⟨0, by omega, rfl, HX0.out, HP0.out, HZ0.out, HB0.out⟩
    case round =>
      obtain ⟨k, hk, rfl, hx, hp, hz, hbr⟩ := hrel
      by_cases hlt : k < 4
      · have hltI : (k : Int) < 4 := by omega
        have st := panelTo8_step [p0, p1, p2, p3, p4, p5, p6, p7] hlt
        obtain ⟨a, ha⟩ : ∃ a, ([p0, p1, p2, p3, p4, p5, p6, p7] : List Nat)[2 * k]?.getD 0 = a := ⟨_, rfl⟩
        obtain ⟨b, hb⟩ : ∃ b, ([p0, p1, p2, p3, p4, p5, p6, p7] : List Nat)[2 * k + 1]?.getD 0 = b := ⟨_, rfl⟩
        rw [ha, hb] at st
        obtain ⟨i0, hi0⟩ : ∃ i0 : Nat, 2 * k = i0 := ⟨_, rfl⟩
        obtain ⟨i1, hi1⟩ : ∃ i1 : Nat, 2 * k + 1 = i1 := ⟨_, rfl⟩
        have ca : wr.cell? ⟨w.heap.size + 1, i0, none⟩ = some (.float .f32 a) := by
          rw [cell_of_row _ _ i0 _ _ (0, 0) hp, ← ha, ← hi0]
          match k, hlt with
          | 0, _ => rfl
          | 1, _ => rfl
          | 2, _ => rfl
          | 3, _ => rfl
        have cb : wr.cell? ⟨w.heap.size + 1, i1, none⟩ = some (.float .f32 b) := by
          rw [cell_of_row _ _ i1 _ _ (0, 0) hp, ← hb, ← hi1]
          match k, hlt with
          | 0, _ => rfl
          | 1, _ => rfl
          | 2, _ => rfl
          | 3, _ => rfl
        have f1 : IntKind.i64.wrap (2 * (k : Int)) = (i0 : Int) := by rw [show 2 * (k : Int) = (i0 : Int) by omega]; exact IntWalk.i64_in _ ⟨by omega, by omega⟩
        have f2 : IntKind.i64.wrap ((i0 : Int) + 1) = (i1 : Int) := by rw [show (i0 : Int) + 1 = (i1 : Int) by omega]; exact IntWalk.i64_in _ ⟨by omega, by omega⟩
        have g0 : (i0 : Int) < 8 := by omega
        have g1 : (i1 : Int) < 8 := by omega
        have hfz : wr.frozen? ⟨w.heap.size + 2, k, none⟩ = false := by simp [World.frozen?, hz]
        have hz2 : (wr.setCell ⟨w.heap.size + 2, k, none⟩ (.complex .f32 a b)).heap[w.heap.size + 2]? = some (.cells (panelTo8 [p0, p1, p2, p3, p4, p5, p6, p7] (k + 1)).toArray 95 (0, 0)) := by
          rw [← st]; exact blk_setL hz _ (by rw [panelTo8_len]; exact hlt)
        have hcc : ∃ u, wr.cell? ⟨w.heap.size + 2, k, none⟩ = some u := by
          rw [cell_of_row _ _ k _ _ (0, 0) hz]
          rw [List.getElem?_toArray, panelTo8, List.getElem?_map, List.getElem?_range hlt]
          exact ⟨_, rfl⟩
        obtain ⟨u, hu⟩ := hcc
        have hx2 : (wr.setCell ⟨w.heap.size + 2, k, none⟩ (.complex .f32 a b)).heap[w.heap.size]? = _ := (Below.heap_setCell _ _ _ _ (by show w.heap.size ≠ w.heap.size + 2; omega)).trans hx
        have hp2 : (wr.setCell ⟨w.heap.size + 2, k, none⟩ (.complex .f32 a b)).heap[w.heap.size + 1]? = _ := (Below.heap_setCell _ _ _ _ (by show w.heap.size + 1 ≠ w.heap.size + 2; omega)).trans hp
        have hb2 : Below w.heap.size w (wr.setCell ⟨w.heap.size + 2, k, none⟩ (.complex .f32 a b)) := hbr.setCell (p := ⟨w.heap.size + 2, k, none⟩) (by show w.heap.size ≤ w.heap.size + 2; omega) _
        have X2 := Lib.hid hx2
        have P2 := Lib.hid hp2
        have Z2 := Lib.hid hz2
        have B2 := Lib.hid hb2
        clear hx2 hp2 hz2 hb2 st ha hb hi0 hi1 hx hp hz hbr
        go_upto_region 5 with fail
        go_region_held3 (fun w' => w'.cell? ⟨w.heap.size + 1, i0, none⟩ = some (.float .f32 a) ∧ w'.cell? ⟨w.heap.size + 1, i1, none⟩ = some (.float .f32 b))
          (first | (go_keep; done) | (go_split_ands; refine ⟨?_, ?_⟩ <;> (simp [go_sem, *]; done)))
          (fail)
        all_goals go_wp2_with fail
        all_goals go_roundw
        case rel => first | exact ⟨k + 1, by omega, by go_num, X2.out, P2.out, Z2.out, B2.out⟩ | exact ⟨k + 1, by omega, by go_num, X2.out, P2.out, Z2.out, B2.out.drew⟩
        case measure => simp [intOf]; omega
      · obtain rfl : k = 4 := by omega
        go_wp2_with fail
        go_meet
        exact ⟨hx, hz, hbr⟩
  case rest =>
    rename_i hK
    obtain ⟨hx, hz, hb⟩ := hcut
    refine hK _ _ ?_
    clear hK
    have K1 : Hid (Kp w _ [(w.heap.size, .cells #[.float .f32 x0, .float .f32 x1, .float .f32 x2, .float .f32 x3] 92 (0, 0)), (w.heap.size + 2, .cells #[.complex .f32 p0 p1, .complex .f32 p2 p3, .complex .f32 p4 p5, .complex .f32 p6 p7] 95 (0, 0))]) := Lib.hid ⟨hb, fun p hp => by
      rcases List.mem_cons.1 hp with rfl | hp
      · exact hx
      · rcases List.mem_cons.1 hp with rfl | hp
        · exact hz
        · nomatch hp⟩
    clear hx hz hb
    obtain ⟨y0, y1, y2, y3⟩ := cells4 (K1.out.2 _ (.head _))
    go_upto_region 8 with (first
      | (go_at_call 68; with_reducible refine (FourC.get H4.out _).mono ?_; rintro e w1 ⟨q0, q1, q2, q3, q4, q5, q6, q7, rfl, ho, hb1⟩; have K2 := Lib.hid (K1.out.call hb1); have HO4 := Lib.hid ho; clear hb1 ho))
    clear y0 y1 y2 y3
    refine wp_world (fun w' => Kp w w' [(w1.heap.size, .cells #[.complex .f32 q0 q1, .complex .f32 q2 q3, .complex .f32 q4 q5, .complex .f32 q6 q7] 95 (0, 0)), (w.heap.size, .cells #[.float .f32 x0, .float .f32 x1, .float .f32 x2, .float .f32 x3] 92 (0, 0)), (w.heap.size + 2, .cells #[.complex .f32 p0 p1, .complex .f32 p2 p3, .complex .f32 p4 p5, .complex .f32 p6 p7] 95 (0, 0))]) (by first | exact K2.out.alloc _ | exact kp_set4 K2.out _ _ _ _) fun w2 k3 => ?_
    have g1 : w.heap.size + 2 < w1.heap.size := lt_of_blk (K2.out.2 _ (.tail _ (.head _)))
    have G1 := Lib.hid g1
    have K3 := Lib.hid k3
    clear k3 g1 K2 K1
    obtain ⟨y0, y1, y2, y3⟩ := cells4 (K3.out.2 _ (.tail _ (.tail _ (.head _))))
    go_upto_region 9 with (first
      | (go_at_call 69; with_reducible refine (UnfourC.get H5.out _).mono ?_; rintro e w3 ⟨t0, t1, t2, t3, rfl, ho, hb1⟩; have K4 := Lib.hid (K3.out.call hb1); have HO5 := Lib.hid ho; clear hb1 ho))
    clear y0 y1 y2 y3
    refine wp_world (fun w' => Kp w w' [(w3.heap.size, .cells #[.float .f32 t0, .float .f32 t1, .float .f32 t2, .float .f32 t3] 92 (0, 0)), (w1.heap.size, .cells #[.complex .f32 q0 q1, .complex .f32 q2 q3, .complex .f32 q4 q5, .complex .f32 q6 q7] 95 (0, 0)), (w.heap.size, .cells #[.float .f32 x0, .float .f32 x1, .float .f32 x2, .float .f32 x3] 92 (0, 0)), (w.heap.size + 2, .cells #[.complex .f32 p0 p1, .complex .f32 p2 p3, .complex .f32 p4 p5, .complex .f32 p6 p7] 95 (0, 0))]) (by first | exact K4.out.alloc _ | exact kp_set4 K4.out _ _ _ _) fun w4 k5 => ?_
    have g2 : w1.heap.size < w3.heap.size := lt_of_blk (K4.out.2 _ (.head _))
    have G2 := Lib.hid g2
    have K5 := Lib.hid k5
    clear k5 g2 K4 K3
    have KC : Hid (∀ wx : World, Blw w4.heap.size w4 wx → Calls Tryz.prog 70 #[.slice (some ⟨w.heap.size, 0, none⟩) 4 4] wx fun e w' => e = .returned (.int .i64 r1) ∧ wx = w') := Lib.hid fun wx hbx => HC.out wx ((Below.block (hbx : Below w4.heap.size w4 wx) _ (lt_of_blk (K5.out.2 _ (.tail _ (.tail _ (.head _)))))).trans (K5.out.2 _ (.tail _ (.tail _ (.head _)))))
    have KP : Hid (∀ wx : World, Blw w4.heap.size w4 wx → Calls Tryz.prog 71 #[.agg #[.complex .f32 p0 p1, .complex .f32 p2 p3, .complex .f32 p4 p5, .complex .f32 p6 p7]] wx fun e w' => e = .returned (.int .i64 d2) ∧ Blw w4.heap.size w4 w') := Lib.hid fun wx hbx => (UnfourC.chk H5.out wx).mono fun e w' h => ⟨h.1, Below.trans (hbx : Below _ _ _) (Below.mono h.2 (Below.size hbx))⟩
    obtain ⟨y0, y1, y2, y3⟩ := cells4 (K5.out.2 _ (.tail _ (.tail _ (.tail _ (.head _)))))
    have z0 : w4.drew.cell? ⟨w.heap.size + 2, 0, none⟩ = some (.complex .f32 p0 p1) := y0
    have z1 : w4.drew.cell? ⟨w.heap.size + 2, 1, none⟩ = some (.complex .f32 p2 p3) := y1
    have z2 : w4.drew.cell? ⟨w.heap.size + 2, 2, none⟩ = some (.complex .f32 p4 p5) := y2
    have z3 : w4.drew.cell? ⟨w.heap.size + 2, 3, none⟩ = some (.complex .f32 p6 p7) := y3
    have hB : Blw w4.heap.size w4 w4 := Below.refl w4.heap.size w4
    have hB' : Blw w4.heap.size w4 w4.drew := show Below _ _ _ from (Below.refl w4.heap.size w4).drew
    go_region_with (first
      | (go_at_call 70; refine (KC.out _ ?_).mono ?_; focus assumption
         rintro e w5 ⟨rfl, rfl⟩)
      | (go_at_call 71; refine (KP.out _ ?_).mono ?_; focus assumption
         rintro e w6 ⟨rfl, hb6⟩))
    all_goals
      have K6 : Hid (Kp w w6 [(w3.heap.size, .cells #[.float .f32 t0, .float .f32 t1, .float .f32 t2, .float .f32 t3] 92 (0, 0)), (w1.heap.size, .cells #[.complex .f32 q0 q1, .complex .f32 q2 q3, .complex .f32 q4 q5, .complex .f32 q6 q7] 95 (0, 0)), (w.heap.size, .cells #[.float .f32 x0, .float .f32 x1, .float .f32 x2, .float .f32 x3] 92 (0, 0)), (w.heap.size + 2, .cells #[.complex .f32 p0 p1, .complex .f32 p2 p3, .complex .f32 p4 p5, .complex .f32 p6 p7] 95 (0, 0))]) := Lib.hid (K5.out.call hb6)
      clear y0 y1 y2 y3 z0 z1 z2 z3 hB hB' hb6 KC KP K5
      go_upto_region 12 with fail
      refine wp_world (fun w' => Kp w w' [(w6.heap.size, .cells #[.complex .f32 0 0, .complex .f32 0 0, .complex .f32 0 0, .complex .f32 0 0] 95 (0, 0)), (w6.heap.size + 1, .cells #[.float .f32 0, .float .f32 0, .float .f32 0, .float .f32 0] 92 (0, 0)), (w3.heap.size, .cells #[.float .f32 t0, .float .f32 t1, .float .f32 t2, .float .f32 t3] 92 (0, 0)), (w1.heap.size, .cells #[.complex .f32 q0 q1, .complex .f32 q2 q3, .complex .f32 q4 q5, .complex .f32 q6 q7] 95 (0, 0)), (w.heap.size, .cells #[.float .f32 x0, .float .f32 x1, .float .f32 x2, .float .f32 x3] 92 (0, 0)), (w.heap.size + 2, .cells #[.complex .f32 p0 p1, .complex .f32 p2 p3, .complex .f32 p4 p5, .complex .f32 p6 p7] 95 (0, 0))]) (Kp.swap (by simpa using (K6.out.alloc _).alloc _)) fun w7 k7 => ?_
      have g3 : w3.heap.size < w6.heap.size := lt_of_blk (K6.out.2 _ (.head _))
      have G3 := Lib.hid g3
      have K7 := Lib.hid k7
      clear k7 g3 K6
      have g1 := G1.out
      have g2 := G2.out
      have g3 := G3.out
      obtain ⟨y0, y1, y2, y3⟩ := cells4 (K7.out.2 _ (.tail _ (.tail _ (.tail _ (.tail _ (.head _))))))
      have f0 : w7.frozen? ⟨w6.heap.size, 0, none⟩ = false := by simp [World.frozen?, K7.out.2 _ (.head _)]
      have f1 : w7.frozen? ⟨w6.heap.size, 1, none⟩ = false := by simp [World.frozen?, K7.out.2 _ (.head _)]
      have f2 : w7.frozen? ⟨w6.heap.size, 2, none⟩ = false := by simp [World.frozen?, K7.out.2 _ (.head _)]
      have f3 : w7.frozen? ⟨w6.heap.size, 3, none⟩ = false := by simp [World.frozen?, K7.out.2 _ (.head _)]
      have hcase := FourC.alt H4.out
      rcases hcase with ⟨h0, hF⟩ | ⟨h0, e0, e1, e2, e3, e4, e5, e6, e7⟩
      · have HF := Lib.hid hF
        clear hF f0 f1 f2 f3
        subst h0
        go_upto_region 14 with (first
          | (go_at_call 72; with_reducible refine (HF.out _).mono ?_; rintro e w8 ⟨rfl, hb8⟩; have K8 := Lib.hid (K7.out.call hb8); clear hb8
             obtain ⟨v0, v1, v2, v3⟩ := cells4 (K8.out.2 _ (.head _))
             have f0 : w8.frozen? ⟨w6.heap.size, 0, none⟩ = false := by simp [World.frozen?, K8.out.2 _ (.head _)]
             have f1 : w8.frozen? ⟨w6.heap.size, 1, none⟩ = false := by simp [World.frozen?, K8.out.2 _ (.head _)]
             have f2 : w8.frozen? ⟨w6.heap.size, 2, none⟩ = false := by simp [World.frozen?, K8.out.2 _ (.head _)]
             have f3 : w8.frozen? ⟨w6.heap.size, 3, none⟩ = false := by simp [World.frozen?, K8.out.2 _ (.head _)]))
        refine wp_world (fun w' => Kp w w' [(w6.heap.size, .cells #[.complex .f32 c0 c1, .complex .f32 c2 c3, .complex .f32 c4 c5, .complex .f32 c6 c7] 95 (0, 0)), (w6.heap.size + 1, .cells #[.float .f32 0, .float .f32 0, .float .f32 0, .float .f32 0] 92 (0, 0)), (w3.heap.size, .cells #[.float .f32 t0, .float .f32 t1, .float .f32 t2, .float .f32 t3] 92 (0, 0)), (w1.heap.size, .cells #[.complex .f32 q0 q1, .complex .f32 q2 q3, .complex .f32 q4 q5, .complex .f32 q6 q7] 95 (0, 0)), (w.heap.size, .cells #[.float .f32 x0, .float .f32 x1, .float .f32 x2, .float .f32 x3] 92 (0, 0)), (w.heap.size + 2, .cells #[.complex .f32 p0 p1, .complex .f32 p2 p3, .complex .f32 p4 p5, .complex .f32 p6 p7] 95 (0, 0))]) (kp_put4 K8.out (by omega) (fun p hp => by
          simp only [List.mem_cons, List.not_mem_nil, or_false] at hp
          rcases hp with rfl | rfl | rfl | rfl | rfl <;> (simp only; omega)) _ _ _ _) fun w9 k9 => ?_
        have K9 := Lib.hid k9
        clear k9 v0 v1 v2 v3 f0 f1 f2 f3 y0 y1 y2 y3 K8 K7
        have K10 := Lib.hid (Kp.swap K9.out)
        obtain ⟨y0, y1, y2, y3⟩ := cells4 (K10.out.2 _ (.tail _ (.tail _ (.tail _ (.tail _ (.tail _ (.head _)))))))
        rcases UnfourC.alt H5.out with ⟨h1, hU⟩ | ⟨h1, rfl, rfl, rfl, rfl, rfl⟩
        · have HU := Lib.hid hU
          clear hU
          subst h1
          go_upto_region 16 with (first
            | (go_at_call 73; with_reducible refine (HU.out _).mono ?_; rintro e w11 ⟨rfl, hb8⟩; have K11 := Lib.hid (K10.out.call hb8); clear hb8
               obtain ⟨v0, v1, v2, v3⟩ := cells4 (K11.out.2 _ (.head _))
               have f0 : w11.frozen? ⟨w6.heap.size + 1, 0, none⟩ = false := by simp [World.frozen?, K11.out.2 _ (.head _)]
               have f1 : w11.frozen? ⟨w6.heap.size + 1, 1, none⟩ = false := by simp [World.frozen?, K11.out.2 _ (.head _)]
               have f2 : w11.frozen? ⟨w6.heap.size + 1, 2, none⟩ = false := by simp [World.frozen?, K11.out.2 _ (.head _)]
               have f3 : w11.frozen? ⟨w6.heap.size + 1, 3, none⟩ = false := by simp [World.frozen?, K11.out.2 _ (.head _)]))
          refine wp_world (fun w' => Kp w w' [(w6.heap.size + 1, .cells #[.float .f32 s0, .float .f32 s1, .float .f32 s2, .float .f32 s3] 92 (0, 0)), (w6.heap.size, .cells #[.complex .f32 c0 c1, .complex .f32 c2 c3, .complex .f32 c4 c5, .complex .f32 c6 c7] 95 (0, 0)), (w3.heap.size, .cells #[.float .f32 t0, .float .f32 t1, .float .f32 t2, .float .f32 t3] 92 (0, 0)), (w1.heap.size, .cells #[.complex .f32 q0 q1, .complex .f32 q2 q3, .complex .f32 q4 q5, .complex .f32 q6 q7] 95 (0, 0)), (w.heap.size, .cells #[.float .f32 x0, .float .f32 x1, .float .f32 x2, .float .f32 x3] 92 (0, 0)), (w.heap.size + 2, .cells #[.complex .f32 p0 p1, .complex .f32 p2 p3, .complex .f32 p4 p5, .complex .f32 p6 p7] 95 (0, 0))]) (kp_put4 K11.out (by omega) (fun p hp => by
                  simp only [List.mem_cons, List.not_mem_nil, or_false] at hp
                  rcases hp with rfl | rfl | rfl | rfl | rfl <;> (simp only; omega)) _ _ _ _) fun w12 k12 => ?_
          have K12 := Lib.hid k12
          clear k12 v0 v1 v2 v3 f0 f1 f2 f3 y0 y1 y2 y3 K11 K10
          obtain ⟨a0, a1, a2, a3⟩ := cells4 (K12.out.2 _ (.head _))
          obtain ⟨b0, b1, b2, b3⟩ := cells4 (K12.out.2 _ (.tail _ (.head _)))
          obtain ⟨d0, d1, d2', d3⟩ := cells4 (K12.out.2 _ (.tail _ (.tail _ (.head _))))
          obtain ⟨z0, z1, z2, z3⟩ := cells4 (K12.out.2 _ (.tail _ (.tail _ (.tail _ (.head _)))))
          have qe := eq_panel _ _ _ _ _ _ _ _ _ _ _ _ _ _ _ _ HO4.out
          have te := eq_four _ _ _ _ _ _ _ _ HO5.out
          go_wp2_with (go_at_call 19; with_reducible refine (KW.out _ (Kp.below K12.out)).mono ?_; rintro e w16 ⟨rfl, hb16⟩)
          go_ret
          exact ⟨rfl, hb16⟩
        · go_upto_region 16 with fail
          clear y0 y1 y2 y3
          have K12 := K10
          obtain ⟨a0, a1, a2, a3⟩ := cells4 (K12.out.2 _ (.head _))
          obtain ⟨b0, b1, b2, b3⟩ := cells4 (K12.out.2 _ (.tail _ (.head _)))
          obtain ⟨d0, d1, d2', d3⟩ := cells4 (K12.out.2 _ (.tail _ (.tail _ (.head _))))
          obtain ⟨z0, z1, z2, z3⟩ := cells4 (K12.out.2 _ (.tail _ (.tail _ (.tail _ (.head _)))))
          have qe := eq_panel _ _ _ _ _ _ _ _ _ _ _ _ _ _ _ _ HO4.out
          have te := eq_four _ _ _ _ _ _ _ _ HO5.out
          go_wp2_with (go_at_call 19; with_reducible refine (KW.out _ (Kp.below K12.out)).mono ?_; rintro e w16 ⟨rfl, hb16⟩)
          go_ret
          exact ⟨rfl, hb16⟩
      · clear f0 f1 f2 f3 y0 y1 y2 y3
        subst e0 e1 e2 e3 e4 e5 e6 e7
        go_upto_region 14 with fail
        have K10 := Lib.hid (Kp.swap K7.out)
        obtain ⟨y0, y1, y2, y3⟩ := cells4 (K10.out.2 _ (.tail _ (.tail _ (.tail _ (.tail _ (.tail _ (.head _)))))))
        rcases UnfourC.alt H5.out with ⟨h1, hU⟩ | ⟨h1, rfl, rfl, rfl, rfl, rfl⟩
        · have HU := Lib.hid hU
          clear hU
          subst h1
          go_upto_region 16 with (first
            | (go_at_call 73; with_reducible refine (HU.out _).mono ?_; rintro e w11 ⟨rfl, hb8⟩; have K11 := Lib.hid (K10.out.call hb8); clear hb8
               obtain ⟨v0, v1, v2, v3⟩ := cells4 (K11.out.2 _ (.head _))
               have f0 : w11.frozen? ⟨w6.heap.size + 1, 0, none⟩ = false := by simp [World.frozen?, K11.out.2 _ (.head _)]
               have f1 : w11.frozen? ⟨w6.heap.size + 1, 1, none⟩ = false := by simp [World.frozen?, K11.out.2 _ (.head _)]
               have f2 : w11.frozen? ⟨w6.heap.size + 1, 2, none⟩ = false := by simp [World.frozen?, K11.out.2 _ (.head _)]
               have f3 : w11.frozen? ⟨w6.heap.size + 1, 3, none⟩ = false := by simp [World.frozen?, K11.out.2 _ (.head _)]))
          refine wp_world (fun w' => Kp w w' [(w6.heap.size + 1, .cells #[.float .f32 s0, .float .f32 s1, .float .f32 s2, .float .f32 s3] 92 (0, 0)), (w6.heap.size, .cells #[.complex .f32 0 0, .complex .f32 0 0, .complex .f32 0 0, .complex .f32 0 0] 95 (0, 0)), (w3.heap.size, .cells #[.float .f32 t0, .float .f32 t1, .float .f32 t2, .float .f32 t3] 92 (0, 0)), (w1.heap.size, .cells #[.complex .f32 q0 q1, .complex .f32 q2 q3, .complex .f32 q4 q5, .complex .f32 q6 q7] 95 (0, 0)), (w.heap.size, .cells #[.float .f32 x0, .float .f32 x1, .float .f32 x2, .float .f32 x3] 92 (0, 0)), (w.heap.size + 2, .cells #[.complex .f32 p0 p1, .complex .f32 p2 p3, .complex .f32 p4 p5, .complex .f32 p6 p7] 95 (0, 0))]) (kp_put4 K11.out (by omega) (fun p hp => by
                  simp only [List.mem_cons, List.not_mem_nil, or_false] at hp
                  rcases hp with rfl | rfl | rfl | rfl | rfl <;> (simp only; omega)) _ _ _ _) fun w12 k12 => ?_
          have K12 := Lib.hid k12
          clear k12 v0 v1 v2 v3 f0 f1 f2 f3 y0 y1 y2 y3 K11 K10
          obtain ⟨a0, a1, a2, a3⟩ := cells4 (K12.out.2 _ (.head _))
          obtain ⟨b0, b1, b2, b3⟩ := cells4 (K12.out.2 _ (.tail _ (.head _)))
          obtain ⟨d0, d1, d2', d3⟩ := cells4 (K12.out.2 _ (.tail _ (.tail _ (.head _))))
          obtain ⟨z0, z1, z2, z3⟩ := cells4 (K12.out.2 _ (.tail _ (.tail _ (.tail _ (.head _)))))
          have qe := eq_panel _ _ _ _ _ _ _ _ _ _ _ _ _ _ _ _ HO4.out
          have te := eq_four _ _ _ _ _ _ _ _ HO5.out
          go_wp2_with (go_at_call 19; with_reducible refine (KW.out _ (Kp.below K12.out)).mono ?_; rintro e w16 ⟨rfl, hb16⟩)
          go_ret
          exact ⟨rfl, hb16⟩
        · go_upto_region 16 with fail
          clear y0 y1 y2 y3
          have K12 := K10
          obtain ⟨a0, a1, a2, a3⟩ := cells4 (K12.out.2 _ (.head _))
          obtain ⟨b0, b1, b2, b3⟩ := cells4 (K12.out.2 _ (.tail _ (.head _)))
          obtain ⟨d0, d1, d2', d3⟩ := cells4 (K12.out.2 _ (.tail _ (.tail _ (.head _))))
          obtain ⟨z0, z1, z2, z3⟩ := cells4 (K12.out.2 _ (.tail _ (.tail _ (.tail _ (.head _)))))
          have qe := eq_panel _ _ _ _ _ _ _ _ _ _ _ _ _ _ _ _ HO4.out
          have te := eq_four _ _ _ _ _ _ _ _ HO5.out
          go_wp2_with (go_at_call 19; with_reducible refine (KW.out _ (Kp.below K12.out)).mono ?_; rintro e w16 ⟨rfl, hb16⟩)
          go_ret
          exact ⟨rfl, hb16⟩
end Go.Proofs.YtfdkmmllemkogaaGreatDoor
