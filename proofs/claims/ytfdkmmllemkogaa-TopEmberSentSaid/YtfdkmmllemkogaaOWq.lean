/-
  A block of bytes that is known whole; writeNumber, checksum and readNumber over it; the contract of frameOf for a telegram whose numbers are in their ranges: its 24 bytes.
-/
import Derived.Test.YtfdkmmllemkogaaOWp
namespace Go.Proofs.Ytfdkmmllemkogaa
open Go.RowKit
set_option linter.unusedVariables false

/-- Block f of the world is these bytes. -/
def HasBlk (w : World) (f : Nat) (T : TypeId) (L : List Int) : Prop := w.heap[f]? = some (.cells (L.map (Value.int .u8)).toArray T (0, 0))

theorem HasBlk.cell {w : World} {f : Nat} {T : TypeId} {L : List Int} (h : HasBlk w f T L) {j : Nat} {v : Int} (hj : L[j]? = some v) : w.cell? ⟨f, j, none⟩ = some (.int .u8 v) := by
  rw [cell_of_row w f j _ T (0, 0) h]
  simp [hj]
theorem HasBlk.frozen {w : World} {f : Nat} {T : TypeId} {L : List Int} (h : HasBlk w f T L) (j : Nat) : w.frozen? ⟨f, j, none⟩ = false := by
  unfold HasBlk at h
  simp [World.frozen?, h]
theorem HasBlk.lt {w : World} {f : Nat} {T : TypeId} {L : List Int} (h : HasBlk w f T L) : f < w.heap.size := (Array.getElem?_eq_some_iff.1 h).1
theorem HasBlk.kept {w w' : World} {f : Nat} {T : TypeId} {L : List Int} (h : HasBlk w f T L) {B : Nat} (hb : Below B w w') (hB : f < B) : HasBlk w' f T L := (hb.block f hB).trans h
theorem HasBlk.drew {w : World} {f : Nat} {T : TypeId} {L : List Int} (h : HasBlk w f T L) : HasBlk w.drew f T L := h
theorem HasBlk.set {w : World} {f : Nat} {T : TypeId} {L : List Int} (h : HasBlk w f T L) (j : Nat) (v : Int) : HasBlk (w.setCell ⟨f, j, none⟩ (.int .u8 v)) f T (L.set j v) := by
  unfold HasBlk at *
  simp only [World.setCell, Array.getElem?_modify, if_true, h, Option.map_some]
  simp [List.map_set]

/-- Only block f has changed. -/
def OnlyBlk (w w' : World) (f : Nat) : Prop := w.grownBy w' (some f) ∧ w'.heap.size = w.heap.size
theorem OnlyBlk.set (w : World) (f j : Nat) (v : Value) : OnlyBlk w (w.setCell ⟨f, j, none⟩ v) f :=
  ⟨⟨rfl, rfl, rfl, by simp, fun k hk hne => Below.heap_setCell _ _ _ _ (fun e => hne (by rw [e]))⟩, by simp⟩
theorem OnlyBlk.trans {a b c : World} {f : Nat} (h : OnlyBlk a b f) (k : OnlyBlk b c f) : OnlyBlk a c f :=
  ⟨⟨k.1.os.trans h.1.os, k.1.tape.trans h.1.tape, k.1.output.trans h.1.output, by rw [k.2, h.2]; exact Nat.le_refl _, fun i hi hne => (k.1.block i (by rw [h.2]; exact hi) hne).trans (h.1.block i hi hne)⟩, k.2.trans h.2⟩
theorem OnlyBlk.drew {a b : World} {f : Nat} (h : OnlyBlk a.drew b f) : OnlyBlk a b f := ⟨⟨h.1.os, h.1.tape, h.1.output, h.1.size, h.1.block⟩, h.2⟩
theorem OnlyBlk.cell {w w' : World} {f : Nat} (h : OnlyBlk w w' f) {b j : Nat} {v : Value} (hc : w.cell? ⟨b, j, none⟩ = some v) (hne : b ≠ f) : w'.cell? ⟨b, j, none⟩ = some v :=
  h.1.cell hc (fun e => hne (Option.some.inj e))
theorem OnlyBlk.frozen {w w' : World} {f : Nat} (h : OnlyBlk w w' f) {b j : Nat} (hb : b < w.heap.size) (hne : b ≠ f) : w'.frozen? ⟨b, j, none⟩ = w.frozen? ⟨b, j, none⟩ :=
  World.frozen?_of_block (h.1.block b hb (fun e => hne (Option.some.inj e)))
theorem OnlyBlk.below {w w' : World} {f B : Nat} (h : OnlyBlk w w' f) (hB : B ≤ w.heap.size) (hf : B ≤ f) : Below B w w' :=
  (Below.refl _ _).grown h.1 hB (fun k hk => by cases hk; exact hf)

def w4 (L : List Int) (o : Nat) (v : Int) : List Int := (((L.set (o + 3) (byt v 0)).set (o + 2) (byt v 1)).set (o + 1) (byt v 2)).set o (byt v 3)
def w2 (L : List Int) (o : Nat) (v : Int) : List Int := (L.set (o + 1) (byt v 0)).set o (byt v 1)

theorem write4_blk (w : World) (f o c : Nat) (T : TypeId) (L : List Int) (v : Int) (h : HasBlk w f T L) (ho : o + 4 ≤ L.length) (h0 : 0 ≤ v) (h1 : v ≤ 4294967295) :
    Calls Try.prog 48 #[.slice (some ⟨f, o, none⟩) 4 c, .int .i64 v] w fun e w' => e = .returned (.tuple #[]) ∧ HasBlk w' f T (w4 L o v) ∧ OnlyBlk w w' f :=
  (write4_any w f o c v h0 h1 (h.cell (List.getElem?_eq_getElem (by omega))) (h.cell (List.getElem?_eq_getElem (by omega))) (h.cell (List.getElem?_eq_getElem (by omega))) (h.cell (List.getElem?_eq_getElem (by omega)))
    (h.frozen _) (h.frozen _) (h.frozen _) (h.frozen _)).mono fun e w' ⟨he, hw⟩ => by
      subst hw
      exact ⟨he, (((h.set _ _).set _ _).set _ _).set _ _, (((OnlyBlk.set _ _ _ _).trans (OnlyBlk.set _ _ _ _)).trans (OnlyBlk.set _ _ _ _)).trans (OnlyBlk.set _ _ _ _)⟩
theorem write2_blk (w : World) (f o c : Nat) (T : TypeId) (L : List Int) (v : Int) (h : HasBlk w f T L) (ho : o + 2 ≤ L.length) (h0 : 0 ≤ v) (h1 : v ≤ 65535) :
    Calls Try.prog 48 #[.slice (some ⟨f, o, none⟩) 2 c, .int .i64 v] w fun e w' => e = .returned (.tuple #[]) ∧ HasBlk w' f T (w2 L o v) ∧ OnlyBlk w w' f :=
  (write2_any w f o c v h0 h1 (h.cell (List.getElem?_eq_getElem (by omega))) (h.cell (List.getElem?_eq_getElem (by omega))) (h.frozen _) (h.frozen _)).mono fun e w' ⟨he, hw⟩ => by
      subst hw
      exact ⟨he, (h.set _ _).set _ _, (OnlyBlk.set _ _ _ _).trans (OnlyBlk.set _ _ _ _)⟩

/-- The first 20 bytes of a telegram's frame. -/
def frame20 (s c o x y z : Int) : List Int :=
  [77, s, byt c 1, byt c 0, o, byt (x + 1048576) 3, byt (x + 1048576) 2, byt (x + 1048576) 1, byt (x + 1048576) 0, byt (y + 1048576) 3, byt (y + 1048576) 2, byt (y + 1048576) 1, byt (y + 1048576) 0,
   byt (z + 1048576) 3, byt (z + 1048576) 2, byt (z + 1048576) 1, byt (z + 1048576) 0, 255 - s, 255 - byt c 1, 255 - byt c 0]
/-- A telegram's frame. -/
def frame (s c o x y z : Int) : List Int :=
  frame20 s c o x y z ++ [byt (chkOf (frame20 s c o x y z)) 3, byt (chkOf (frame20 s c o x y z)) 2, byt (chkOf (frame20 s c o x y z)) 1, byt (chkOf (frame20 s c o x y z)) 0]
def part0 (s : Int) : List Int := 77 :: s :: List.replicate 22 0
def part5 (s c o x y z : Int) : List Int := w4 (w4 (w4 ((w2 (part0 s) 2 c).set 4 o) 5 (x + 1048576)) 9 (y + 1048576)) 13 (z + 1048576)
def part8 (s c o x y z : Int) : List Int := (((part5 s c o x y z).set 17 (255 - s)).set 18 (255 - byt c 1)).set 19 (255 - byt c 0)
theorem part5_at (s c o x y z : Int) : (part5 s c o x y z)[1]? = some s ∧ (part5 s c o x y z)[2]? = some (byt c 1) ∧ (part5 s c o x y z)[3]? = some (byt c 0) ∧ (part5 s c o x y z)[17]? = some 0 ∧ (part5 s c o x y z)[18]? = some 0 ∧ (part5 s c o x y z)[19]? = some 0 ∧ (part5 s c o x y z).length = 24 := by simp [part5, w4, w2, part0, List.replicate, List.set]
theorem part8_take (s c o x y z : Int) : (part8 s c o x y z) = frame20 s c o x y z ++ [0, 0, 0, 0] := by simp [part8, part5, w4, w2, part0, List.replicate, frame20, List.set]
theorem frame_eq (s c o x y z : Int) : w4 (part8 s c o x y z) 20 (chkOf (frame20 s c o x y z)) = frame s c o x y z := by
  rw [part8_take]
  unfold frame
  generalize chkOf (frame20 s c o x y z) = v
  simp [w4, frame20, List.set]
theorem frame20_len (s c o x y z : Int) : (frame20 s c o x y z).length = 20 := rfl
theorem frame_len (s c o x y z : Int) : (frame s c o x y z).length = 24 := rfl
theorem lt20 {j : Nat} (h : j < 20) : j = 0 ∨ j = 1 ∨ j = 2 ∨ j = 3 ∨ j = 4 ∨ j = 5 ∨ j = 6 ∨ j = 7 ∨ j = 8 ∨ j = 9 ∨ j = 10 ∨ j = 11 ∨ j = 12 ∨ j = 13 ∨ j = 14 ∨ j = 15 ∨ j = 16 ∨ j = 17 ∨ j = 18 ∨ j = 19 := by omega
theorem frame20_bd {s c o x y z : Int} (h : GoodT s c o x y z) : ∀ j, j < 20 → 0 ≤ (frame20 s c o x y z)[j]?.getD 0 ∧ (frame20 s c o x y z)[j]?.getD 0 ≤ 255 := by
  obtain ⟨h1, h2, h3, h4, h5, h6⟩ := h
  have b := byt_bd
  intro j hj
  rcases lt20 hj with rfl | rfl | rfl | rfl | rfl | rfl | rfl | rfl | rfl | rfl | rfl | rfl | rfl | rfl | rfl | rfl | rfl | rfl | rfl | rfl
  all_goals first
    | exact b _ _
    | exact h1
    | exact h3
    | (have := b c 1; have := b c 0; simp [frame20]; try omega)

theorem chk_blk (w : World) (f cp : Nat) (T : TypeId) (s c o x y z : Int) (g : GoodT s c o x y z) (h : HasBlk w f T (part8 s c o x y z)) :
    Calls Try.prog 49 #[.slice (some ⟨f, 0, none⟩) 20 cp] w fun e w' => e = .returned (.int .i64 (chkOf (frame20 s c o x y z))) ∧ w = w' :=
  checksum_any f 0 20 cp (frame20 s c o x y z) w rfl (by omega) (frame20_bd g) (fun j hj => by
    rw [Nat.zero_add]
    refine h.cell ?_
    rw [part8_take, List.getElem?_append_left (by rw [frame20_len]; exact hj), List.getElem?_eq_getElem (by rw [frame20_len]; exact hj)]; rfl)

/-- A whole array or struct is stored into a block that it fills. -/
theorem run_storeVar_row {P : Program} (w : World) (g : Nat) (t ty : TypeId) (cs cur : Array Value) (hg : w.heap[g]? = some (.cells cur t (0, 0))) (hsz : cur.size = cs.size)
    (hi : (P.info? ty).map (·.size) = some cs.size) (h1 : ∀ v ∈ cs.toList, v.oneCell' = true) : (storeVar ty ⟨g, 0, none⟩ (.agg cs)).run P w = .ok () (w.setRow g cs) := by
  cases hq : P.info? ty with
  | none => simp [hq] at hi
  | some i =>
    have hs : i.size = cs.size := by simpa [hq] using hi
    have hst := run_storeCells_at P g 0 t cs.toList 0 cur w hg (by simp [hsz]) h1
    have e0 : cur.toList.drop (0 + 0 + cs.toList.length) = [] := List.drop_eq_nil_of_le (by simp [hsz])
    have e : (cur.toList.take (0 + 0) ++ cs.toList ++ cur.toList.drop (0 + 0 + cs.toList.length)).toArray = cs := by
      rw [e0]; simp
    rw [e] at hst
    simp [storeVar, Sem.run_bind, sizeOf, typeInfo, hq, hs, Value.cells, hst]

theorem wpList_store_row {P : Program} {ops : Array Oper} {rest : List Oper} {o : Oper} {a : Act} {w : World} {Q : Exit → Act → World → Prop} (hgd : o.guard = none) (ty : TypeId) (x v : Operand) (ho : o.op = .store ty x v)
    (g : Nat) (hx : a.eval x = .pointer (some ⟨g, 0, none⟩)) (cs : Array Value) (hv : a.eval v = .agg cs) (t : TypeId) (cur : Array Value) (hg : w.heap[g]? = some (.cells cur t (0, 0))) (hsz : cur.size = cs.size)
    (hi : (P.info? ty).map (·.size) = some cs.size) (h1 : ∀ v ∈ cs.toList, v.oneCell' = true)
    (h : wpList P ops Q rest (a.put o.dst undef) (w.setRow g cs)) : wpList P ops Q (o :: rest) a w :=
  wpList_plain hgd fun _ hK => by
    unfold Oper.wp execOp
    simp only [ho, hx, hv, Instr.storeAt, Instr.sureAddr, Sem.run_bind, Sem.run_pure, Result.andThen_ok, run_storeVar_row w g t ty cs cur hg hsz hi h1]
    exact hK _ _ h

theorem OnlyBlk.setRow (w : World) (g : Nat) (cs : Array Value) : OnlyBlk w (w.setRow g cs) g :=
  ⟨⟨rfl, rfl, rfl, by simp, fun k hk hne => setRow_other w g k _ (fun e => hne (by rw [e]))⟩, by simp⟩

theorem size24 : (Try.prog.info? 36).map (·.size) = some 24 := by kernel_rfl

set_option maxRecDepth 100000 in
set_option maxHeartbeats 6400000 in
theorem frameOf_any (s c o x y z : Int) (h : GoodT s c o x y z) (w : World) :
    Calls Try.prog 23 #[.agg #[.int .i64 s, .int .i64 c, .int .i64 o, .int .i64 x, .int .i64 y, .int .i64 z]] w fun e w' =>
      e = .returned (.agg ((frame s c o x y z).map (Value.int .u8)).toArray) ∧ Below w.heap.size w w' := by
  have HG := Lib.hid h
  obtain ⟨h1, h2, h3, h4, h5, h6⟩ := h
  have g1 := byt_bd c 1
  have g0 := byt_bd c 0
  have i0 : ∀ w, (Instr.index 46 (.agg #[.int .i64 x, .int .i64 y, .int .i64 z]) (.int .i64 0)).run Try.prog w = .ok (.int .i64 x) w := fun _ => by kernel_rfl
  have i1 : ∀ w, (Instr.index 46 (.agg #[.int .i64 x, .int .i64 y, .int .i64 z]) (.int .i64 1)).run Try.prog w = .ok (.int .i64 y) w := fun _ => by kernel_rfl
  have i2 : ∀ w, (Instr.index 46 (.agg #[.int .i64 x, .int .i64 y, .int .i64 z]) (.int .i64 2)).run Try.prog w = .ok (.int .i64 z) w := fun _ => by kernel_rfl
  go_enter Try.func23, Try.ntmps23
  go_wp2_with fail
  obtain ⟨W1, hW1⟩ : ∃ W1, (((w.alloc (.cells #[.int .i64 s, .int .i64 c, .int .i64 o, .int .i64 x, .int .i64 y, .int .i64 z] 35)).alloc (.cells ((List.replicate 24 (Value.int .u8 0)).toArray) 36)).alloc (.cells (((part0 s).map (Value.int .u8)).toArray) 36)) = W1 := ⟨_, rfl⟩
  have hB1 : Below w.heap.size w W1 := by rw [← hW1]; go_grown
  have z1 : W1.heap.size = w.heap.size + 3 := by rw [← hW1]; simp
  have r1 : W1.heap[w.heap.size + 1]? = some (.cells ((List.replicate 24 (Value.int .u8 0)).toArray) 36 (0, 0)) := by
    rw [← hW1, Below.heap_alloc _ _ _ (by simp)]
    exact heap_alloc2_new w _ _
  have hk1 : HasBlk W1 (w.heap.size + 1 + 1) 36 (part0 s) := by
    rw [← hW1]
    have h := heap_alloc2_new (w.alloc (.cells #[.int .i64 s, .int .i64 c, .int .i64 o, .int .i64 x, .int .i64 y, .int .i64 z] 35)) (.cells ((List.replicate 24 (Value.int .u8 0)).toArray) 36) (.cells (((part0 s).map (Value.int .u8)).toArray) 36)
    simpa [HasBlk] using h
  have b1 : W1.cell? ⟨w.heap.size, 1, none⟩ = some (.int .i64 c) := by rw [← hW1]; simp [go_sem]
  have b2 : W1.cell? ⟨w.heap.size, 2, none⟩ = some (.int .i64 o) := by rw [← hW1]; simp [go_sem]
  have b3 : W1.cell? ⟨w.heap.size, 3, none⟩ = some (.int .i64 x) := by rw [← hW1]; simp [go_sem]
  have b4 : W1.cell? ⟨w.heap.size, 4, none⟩ = some (.int .i64 y) := by rw [← hW1]; simp [go_sem]
  have b5 : W1.cell? ⟨w.heap.size, 5, none⟩ = some (.int .i64 z) := by rw [← hW1]; simp [go_sem]
  simp only [part0, List.replicate, List.map_cons, List.map_nil] at hW1
  rw [hW1]
  have HB := Lib.hid hB1
  have HZ := Lib.hid z1
  have HR := Lib.hid r1
  have HK := Lib.hid hk1
  clear hW1 hB1 z1 r1 hk1
  go_region_held3 (fun w' => w'.cell? ⟨w.heap.size, 1, none⟩ = some (.int .i64 c)) (first | go_keep | exact hoA.drew.cell b1 (by omega))
    ((go_at_call 48; refine (write2_blk _ _ 2 _ 36 (part0 s) c HK.out.drew (by simp [part0]) (by omega) (by omega)).mono ?_; rintro e wA ⟨rfl, hkA, hoA⟩))
  have hoA' := hoA.drew
  have a2 := hoA'.cell b2 (by omega)
  have a3 := hoA'.cell b3 (by omega)
  have a4 := hoA'.cell b4 (by omega)
  have a5 := hoA'.cell b5 (by omega)
  have ac := hkA.cell (j := 4) (v := 0) (by simp [w2, part0, List.replicate, List.set])
  have af := hkA.frozen 4
  have HkA := Lib.hid hkA
  have HoA := Lib.hid hoA'
  clear b1 b2 b3 b4 b5 hoA hoA' hkA
  go_wp2
  obtain ⟨wB, hwB⟩ : ∃ wB, wA.setCell ⟨w.heap.size + 1 + 1, 4, none⟩ (.int .u8 o) = wB := ⟨_, rfl⟩
  have hkB : HasBlk wB (w.heap.size + 1 + 1) 36 ((w2 (part0 s) 2 c).set 4 o) := by rw [← hwB]; exact HkA.out.set _ _
  have hoB : OnlyBlk W1 wB (w.heap.size + 1 + 1) := by rw [← hwB]; exact HoA.out.trans (OnlyBlk.set _ _ _ _)
  rw [hwB]
  clear hwB a2 a3 a4 a5 ac af
  refine wp_loop_rounds 4 ?_
  rw [rounds_succ]
  go_wp2_with (go_at_call 48; refine (write4_blk _ _ 5 _ 36 _ (x + 1048576) hkB (by simp [w2, part0]) (by omega) (by omega)).mono ?_; rintro e wC ⟨rfl, hkC, hoC⟩)
  rw [rounds_succ]
  go_wp2_with (go_at_call 48; refine (write4_blk _ _ 9 _ 36 _ (y + 1048576) hkC (by simp [w4, w2, part0]) (by omega) (by omega)).mono ?_; rintro e wD ⟨rfl, hkD, hoD⟩)
  rw [rounds_succ]
  go_wp2_with (go_at_call 48; refine (write4_blk _ _ 13 _ 36 _ (z + 1048576) hkD (by simp [w4, w2, part0]) (by omega) (by omega)).mono ?_; rintro e wE ⟨rfl, hkE, hoE⟩)
  have hoE' := ((hoB.trans hoC).trans hoD).trans hoE
  have hkE' : HasBlk wE (w.heap.size + 1 + 1) 36 (part5 s c o x y z) := hkE
  obtain ⟨p1, p2, p3, p17, p18, p19, plen⟩ := part5_at s c o x y z
  have e1 := hkE'.cell p1
  have e2 := hkE'.cell p2
  have e3 := hkE'.cell p3
  have e17 := hkE'.cell p17
  have e18 := hkE'.cell p18
  have e19 := hkE'.cell p19
  have q17 := hkE'.frozen 17
  have q18 := hkE'.frozen 18
  have q19 := hkE'.frozen 19
  have HkE := Lib.hid hkE'
  have HoE := Lib.hid hoE'
  clear hkB hkC hkD hkE hkE' hoB hoC hoD hoE hoE' p1 p2 p3 p17 p18 p19 plen i0 i1 i2
  rw [rounds_succ]
  go_wp2
  refine wp_loop_rounds 4 ?_
  rw [rounds_succ]
  go_wp2
  rw [rounds_succ]
  go_wp2
  rw [rounds_succ]
  go_wp2
  rw [rounds_succ]
  go_wp2
  obtain ⟨wF, hwF⟩ : ∃ wF, ((wE.setCell ⟨w.heap.size + 1 + 1, 17, none⟩ (.int .u8 (255 - s))).setCell ⟨w.heap.size + 1 + 1, 18, none⟩ (.int .u8 (255 - byt c 1))).setCell ⟨w.heap.size + 1 + 1, 19, none⟩ (.int .u8 (255 - byt c 0)) = wF := ⟨_, rfl⟩
  have hkF : HasBlk wF (w.heap.size + 1 + 1) 36 (part8 s c o x y z) := by rw [← hwF]; exact ((HkE.out.set _ _).set _ _).set _ _
  have hoF : OnlyBlk W1 wF (w.heap.size + 1 + 1) := by rw [← hwF]; exact ((HoE.out.trans (OnlyBlk.set _ _ _ _)).trans (OnlyBlk.set _ _ _ _)).trans (OnlyBlk.set _ _ _ _)
  rw [hwF]
  clear hwF e1 e2 e3 e17 e18 e19 q17 q18 q19
  have hck := chk_bd (frame20 s c o x y z)
  have hl8 : (part8 s c o x y z).length = 24 := by rw [part8_take]; rfl
  have HkF := Lib.hid hkF
  have HoF := Lib.hid hoF
  clear hkF hoF
  go_region_held3 (fun _ => True) (trivial)
    (first
      | ((go_at_call 49; refine (chk_blk _ _ _ 36 s c o x y z HG.out HkF.out.drew).mono ?_; rintro e w' ⟨rfl, rfl⟩))
      | ((go_at_call 48; refine (write4_blk _ _ 20 _ 36 _ (chkOf (frame20 s c o x y z)) HkF.out.drew (by omega) (by omega) (by omega)).mono ?_; rintro e wG ⟨rfl, hkG, hoG⟩)))
  have hoG' := HoF.out.trans hoG.drew
  rw [frame_eq] at hkG
  have hrG : wG.heap[w.heap.size + 1]? = some (.cells ((List.replicate 24 (Value.int .u8 0)).toArray) 36 (0, 0)) := (hoG'.1.block _ (by have := HZ.out; omega) (fun e => by have := Option.some.inj e; omega)).trans HR.out
  have hsG := hoG'.2
  have hbG := HB.out.trans (hoG'.below (by have := HZ.out; omega) (by omega))
  have Hk := Lib.hid hkG
  have Hr := Lib.hid hrG
  have Hb := Lib.hid hbG
  clear hoG hoG' hkG hrG hbG hsG
  go_wp2_with (first
    | (refine wpList_load_row rfl 36 (.tmp 3) rfl (w.heap.size + 1 + 1) rfl 36 _ (0, 0) _ Hk.out Try.underlying36 rfl ?i1 ?_)
    | (refine wpList_store_row rfl 36 (.tmp 2) (.tmp 62) rfl (w.heap.size + 1) rfl _ rfl 36 _ Hr.out ?i2 ?i3 ?i4 ?_))
  case i1 => rw [size24]; simp [frame_len]
  case i2 => simp [frame_len]
  case i3 => rw [size24]; simp [frame_len]
  case i4 => intro v hv; rfl
  go_wp2
  refine bodyPost_ret (v := .agg ((frame s c o x y z).map (Value.int .u8)).toArray) (results_cell_row Try.results23 _ _ (w.heap.size + 1) 36 _ (0, 0) _ rfl (setRow_heap wG _ _ _ _ _ Hr.out) Try.underlying36 rfl (by rw [size24]; simp [frame_len])) rfl ⟨rfl, ?_⟩
  exact Hb.out.trans ((OnlyBlk.setRow wG (w.heap.size + 1) _).below Hb.out.size (by omega))
end Go.Proofs.Ytfdkmmllemkogaa
