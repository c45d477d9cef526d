/-
  A block of bytes that is known whole; writeNumber, checksum and readNumber over it; the contract of frameOf for a telegram whose numbers are in their ranges: its 24 bytes.
-/
import Derived.Test.YtlnhgplloaiiiaaGreatDoorCXc
import Derived.Stop.BytesEq
import Derived.Deep.MidRow
namespace Go.Proofs.YtlnhgplloaiiiaaGreatDoor
open Go.RowKit
set_option linter.unusedVariables false

/-- Block f of the world is these bytes. -/
def HasBlk (w : World) (f : Nat) (T : TypeId) (L : List Int) : Prop := w.heap[f]? = some (.cells (L.map (Value.int .u8)).toArray T (0, 0))

theorem HasBlk.cell {w : World} {f : Nat} {T : TypeId} {L : List Int} (h : HasBlk w f T L) {j : Nat} {v : Int} (hj : L[j]? = some v) : w.cell? ⟨f, j, none⟩ = some (.int .u8 v) := by
  rw [cell_of_row w f j _ T (0, 0) h]
  simp [hj]
theorem HasBlk.frozen {w : World} {f : Nat} {T : TypeId} {L : List Int} (h : HasBlk w f T L) (j : Nat) : w.frozen? ⟨f, j, none⟩ = false := by
  unfold HasBlk at h
  simp [World.frozen?, h]
theorem HasBlk.lt {w : World} {f : Nat} {T : TypeId} {L : List Int} (h : HasBlk w f T L) : f < w.heap.size := (Array.getElem?_eq_some_iff.1 h).1
theorem HasBlk.kept {w w' : World} {f : Nat} {T : TypeId} {L : List Int} (h : HasBlk w f T L) {B : Nat} (hb : Below B w w') (hB : f < B) : HasBlk w' f T L := (hb.block f hB).trans h
theorem HasBlk.drew {w : World} {f : Nat} {T : TypeId} {L : List Int} (h : HasBlk w f T L) : HasBlk w.drew f T L := h
theorem HasBlk.set {w : World} {f : Nat} {T : TypeId} {L : List Int} (h : HasBlk w f T L) (j : Nat) (v : Int) : HasBlk (w.setCell ⟨f, j, none⟩ (.int .u8 v)) f T (L.set j v) := by
  unfold HasBlk at *
  simp only [World.setCell, Array.getElem?_modify, if_true, h, Option.map_some]
  simp [List.map_set]

/-- Only block f has changed. -/
def OnlyBlk (w w' : World) (f : Nat) : Prop := w.grownBy w' (some f) ∧ w'.heap.size = w.heap.size
theorem OnlyBlk.set (w : World) (f j : Nat) (v : Value) : OnlyBlk w (w.setCell ⟨f, j, none⟩ v) f :=
  ⟨⟨rfl, rfl, rfl, by simp, fun k hk hne => Below.heap_setCell _ _ _ _ (fun e => hne (by rw [e]))⟩, by simp⟩
theorem OnlyBlk.trans {a b c : World} {f : Nat} (h : OnlyBlk a b f) (k : OnlyBlk b c f) : OnlyBlk a c f :=
  ⟨⟨k.1.os.trans h.1.os, k.1.tape.trans h.1.tape, k.1.output.trans h.1.output, by rw [k.2, h.2]; exact Nat.le_refl _, fun i hi hne => (k.1.block i (by rw [h.2]; exact hi) hne).trans (h.1.block i hi hne)⟩, k.2.trans h.2⟩
theorem OnlyBlk.drew {a b : World} {f : Nat} (h : OnlyBlk a.drew b f) : OnlyBlk a b f := ⟨⟨h.1.os, h.1.tape, h.1.output, h.1.size, h.1.block⟩, h.2⟩
theorem OnlyBlk.cell {w w' : World} {f : Nat} (h : OnlyBlk w w' f) {b j : Nat} {v : Value} (hc : w.cell? ⟨b, j, none⟩ = some v) (hne : b ≠ f) : w'.cell? ⟨b, j, none⟩ = some v :=
  h.1.cell hc (fun e => hne (Option.some.inj e))
theorem OnlyBlk.frozen {w w' : World} {f : Nat} (h : OnlyBlk w w' f) {b j : Nat} (hb : b < w.heap.size) (hne : b ≠ f) : w'.frozen? ⟨b, j, none⟩ = w.frozen? ⟨b, j, none⟩ :=
  World.frozen?_of_block (h.1.block b hb (fun e => hne (Option.some.inj e)))
theorem OnlyBlk.below {w w' : World} {f B : Nat} (h : OnlyBlk w w' f) (hB : B ≤ w.heap.size) (hf : B ≤ f) : Below B w w' :=
  (Below.refl _ _).grown h.1 hB (fun k hk => by cases hk; exact hf)

def w4 (L : List Int) (o : Nat) (v : Int) : List Int := (((L.set (o + 3) (byt v 0)).set (o + 2) (byt v 1)).set (o + 1) (byt v 2)).set o (byt v 3)
def w2 (L : List Int) (o : Nat) (v : Int) : List Int := (L.set (o + 1) (byt v 0)).set o (byt v 1)

theorem write4_blk (w : World) (f o c : Nat) (T : TypeId) (L : List Int) (v : Int) (h : HasBlk w f T L) (ho : o + 4 ≤ L.length) (h0 : 0 ≤ v) (h1 : v ≤ 4294967295) :
    Calls Tryz.prog 174 #[.slice (some ⟨f, o, none⟩) 4 c, .int .i64 v] w fun e w' => e = .returned (.tuple #[]) ∧ HasBlk w' f T (w4 L o v) ∧ OnlyBlk w w' f :=
  (write4_any w f o c v h0 h1 (h.cell (List.getElem?_eq_getElem (by omega))) (h.cell (List.getElem?_eq_getElem (by omega))) (h.cell (List.getElem?_eq_getElem (by omega))) (h.cell (List.getElem?_eq_getElem (by omega)))
    (h.frozen _) (h.frozen _) (h.frozen _) (h.frozen _)).mono fun e w' ⟨he, hw⟩ => by
      subst hw
      exact ⟨he, (((h.set _ _).set _ _).set _ _).set _ _, (((OnlyBlk.set _ _ _ _).trans (OnlyBlk.set _ _ _ _)).trans (OnlyBlk.set _ _ _ _)).trans (OnlyBlk.set _ _ _ _)⟩
theorem write2_blk (w : World) (f o c : Nat) (T : TypeId) (L : List Int) (v : Int) (h : HasBlk w f T L) (ho : o + 2 ≤ L.length) (h0 : 0 ≤ v) (h1 : v ≤ 65535) :
    Calls Tryz.prog 174 #[.slice (some ⟨f, o, none⟩) 2 c, .int .i64 v] w fun e w' => e = .returned (.tuple #[]) ∧ HasBlk w' f T (w2 L o v) ∧ OnlyBlk w w' f :=
  (write2_any w f o c v h0 h1 (h.cell (List.getElem?_eq_getElem (by omega))) (h.cell (List.getElem?_eq_getElem (by omega))) (h.frozen _) (h.frozen _)).mono fun e w' ⟨he, hw⟩ => by
      subst hw
      exact ⟨he, (h.set _ _).set _ _, (OnlyBlk.set _ _ _ _).trans (OnlyBlk.set _ _ _ _)⟩

/-- The first 20 bytes of a telegram's frame. -/
def frame20 (s c o x y z : Int) : List Int :=
  [77, s, byt c 1, byt c 0, o, byt (x + 1048576) 3, byt (x + 1048576) 2, byt (x + 1048576) 1, byt (x + 1048576) 0, byt (y + 1048576) 3, byt (y + 1048576) 2, byt (y + 1048576) 1, byt (y + 1048576) 0,
   byt (z + 1048576) 3, byt (z + 1048576) 2, byt (z + 1048576) 1, byt (z + 1048576) 0, 255 - s, 255 - byt c 1, 255 - byt c 0]
/-- A telegram's frame. -/
def frame (s c o x y z : Int) : List Int :=
  frame20 s c o x y z ++ [byt (chkOf (frame20 s c o x y z)) 3, byt (chkOf (frame20 s c o x y z)) 2, byt (chkOf (frame20 s c o x y z)) 1, byt (chkOf (frame20 s c o x y z)) 0]
def part0 (s : Int) : List Int := 77 :: s :: List.replicate 22 0
def part5 (s c o x y z : Int) : List Int := w4 (w4 (w4 ((w2 (part0 s) 2 c).set 4 o) 5 (x + 1048576)) 9 (y + 1048576)) 13 (z + 1048576)
def part8 (s c o x y z : Int) : List Int := (((part5 s c o x y z).set 17 (255 - s)).set 18 (255 - byt c 1)).set 19 (255 - byt c 0)
theorem part5_at (s c o x y z : Int) : (part5 s c o x y z)[1]? = some s ∧ (part5 s c o x y z)[2]? = some (byt c 1) ∧ (part5 s c o x y z)[3]? = some (byt c 0) ∧ (part5 s c o x y z)[17]? = some 0 ∧ (part5 s c o x y z)[18]? = some 0 ∧ (part5 s c o x y z)[19]? = some 0 ∧ (part5 s c o x y z).length = 24 := by simp [part5, w4, w2, part0, List.replicate, List.set]
theorem part8_take (s c o x y z : Int) : (part8 s c o x y z) = frame20 s c o x y z ++ [0, 0, 0, 0] := by simp [part8, part5, w4, w2, part0, List.replicate, frame20, List.set]
theorem frame_eq (s c o x y z : Int) : w4 (part8 s c o x y z) 20 (chkOf (frame20 s c o x y z)) = frame s c o x y z := by
  rw [part8_take]
  unfold frame
  generalize chkOf (frame20 s c o x y z) = v
  simp [w4, frame20, List.set]
theorem frame20_len (s c o x y z : Int) : (frame20 s c o x y z).length = 20 := rfl
theorem frame_len (s c o x y z : Int) : (frame s c o x y z).length = 24 := rfl
theorem lt20 {j : Nat} (h : j < 20) : j = 0 ∨ j = 1 ∨ j = 2 ∨ j = 3 ∨ j = 4 ∨ j = 5 ∨ j = 6 ∨ j = 7 ∨ j = 8 ∨ j = 9 ∨ j = 10 ∨ j = 11 ∨ j = 12 ∨ j = 13 ∨ j = 14 ∨ j = 15 ∨ j = 16 ∨ j = 17 ∨ j = 18 ∨ j = 19 := by omega
theorem frame20_bd {s c o x y z : Int} (h : GoodT s c o x y z) : ∀ j, j < 20 → 0 ≤ (frame20 s c o x y z)[j]?.getD 0 ∧ (frame20 s c o x y z)[j]?.getD 0 ≤ 255 := by
  obtain ⟨h1, h2, h3, h4, h5, h6⟩ := h
  have b := byt_bd
  intro j hj
  rcases lt20 hj with rfl | rfl | rfl | rfl | rfl | rfl | rfl | rfl | rfl | rfl | rfl | rfl | rfl | rfl | rfl | rfl | rfl | rfl | rfl | rfl
  all_goals first
    | exact b _ _
    | exact h1
    | exact h3
    | (have := b c 1; have := b c 0; simp [frame20]; try omega)

theorem chk_blk (w : World) (f cp : Nat) (T : TypeId) (s c o x y z : Int) (g : GoodT s c o x y z) (h : HasBlk w f T (part8 s c o x y z)) :
    Calls Tryz.prog 163 #[.slice (some ⟨f, 0, none⟩) 20 cp] w fun e w' => e = .returned (.int .i64 (chkOf (frame20 s c o x y z))) ∧ w = w' :=
  checksum_any f 0 20 cp (frame20 s c o x y z) w rfl (by omega) (frame20_bd g) (fun j hj => by
    rw [Nat.zero_add]
    refine h.cell ?_
    rw [part8_take, List.getElem?_append_left (by rw [frame20_len]; exact hj), List.getElem?_eq_getElem (by rw [frame20_len]; exact hj)]; rfl)

/-- A whole array or struct is stored into a block that it fills. -/
theorem run_storeVar_row {P : Program} (w : World) (g : Nat) (t ty : TypeId) (cs cur : Array Value) (hg : w.heap[g]? = some (.cells cur t (0, 0))) (hsz : cur.size = cs.size)
    (hi : (P.info? ty).map (·.size) = some cs.size) (h1 : ∀ v ∈ cs.toList, v.oneCell' = true) : (storeVar ty ⟨g, 0, none⟩ (.agg cs)).run P w = .ok () (w.setRow g cs) := by
  cases hq : P.info? ty with
  | none => simp [hq] at hi
  | some i =>
    have hs : i.size = cs.size := by simpa [hq] using hi
    have hst := run_storeCells_at P g 0 t cs.toList 0 cur w hg (by simp [hsz]) h1
    have e0 : cur.toList.drop (0 + 0 + cs.toList.length) = [] := List.drop_eq_nil_of_le (by simp [hsz])
    have e : (cur.toList.take (0 + 0) ++ cs.toList ++ cur.toList.drop (0 + 0 + cs.toList.length)).toArray = cs := by
      rw [e0]; simp
    rw [e] at hst
    simp [storeVar, Sem.run_bind, sizeOf, typeInfo, hq, hs, Value.cells, hst]

theorem wpList_store_row {P : Program} {ops : Array Oper} {rest : List Oper} {o : Oper} {a : Act} {w : World} {Q : Exit → Act → World → Prop} (hgd : o.guard = none) (ty : TypeId) (x v : Operand) (ho : o.op = .store ty x v)
    (g : Nat) (hx : a.eval x = .pointer (some ⟨g, 0, none⟩)) (cs : Array Value) (hv : a.eval v = .agg cs) (t : TypeId) (cur : Array Value) (hg : w.heap[g]? = some (.cells cur t (0, 0))) (hsz : cur.size = cs.size)
    (hi : (P.info? ty).map (·.size) = some cs.size) (h1 : ∀ v ∈ cs.toList, v.oneCell' = true)
    (h : wpList P ops Q rest (a.put o.dst undef) (w.setRow g cs)) : wpList P ops Q (o :: rest) a w :=
  wpList_plain hgd fun _ hK => by
    unfold Oper.wp execOp
    simp only [ho, hx, hv, Instr.storeAt, Instr.sureAddr, Sem.run_bind, Sem.run_pure, Result.andThen_ok, run_storeVar_row w g t ty cs cur hg hsz hi h1]
    exact hK _ _ h

theorem OnlyBlk.setRow (w : World) (g : Nat) (cs : Array Value) : OnlyBlk w (w.setRow g cs) g :=
  ⟨⟨rfl, rfl, rfl, by simp, fun k hk hne => setRow_other w g k _ (fun e => hne (by rw [e]))⟩, by simp⟩

theorem size24 : (Tryz.prog.info? 108).map (·.size) = some 24 := by kernel_rfl

set_option maxRecDepth 100000 in
set_option maxHeartbeats 6400000 in
theorem frameOf_any (s c o x y z : Int) (h : GoodT s c o x y z) (w : World) :
    Calls Tryz.prog 144 #[.agg #[.int .i64 s, .int .i64 c, .int .i64 o, .int .i64 x, .int .i64 y, .int .i64 z]] w fun e w' =>
      e = .returned (.agg ((frame s c o x y z).map (Value.int .u8)).toArray) ∧ Below w.heap.size w w' := by
  have HG := Lib.hid h
  obtain ⟨h1, h2, h3, h4, h5, h6⟩ := h
  have g1 := byt_bd c 1
  have g0 := byt_bd c 0
  have i0 : ∀ w, (Instr.index 225 (.agg #[.int .i64 x, .int .i64 y, .int .i64 z]) (.int .i64 0)).run Tryz.prog w = .ok (.int .i64 x) w := fun _ => by kernel_rfl
  have i1 : ∀ w, (Instr.index 225 (.agg #[.int .i64 x, .int .i64 y, .int .i64 z]) (.int .i64 1)).run Tryz.prog w = .ok (.int .i64 y) w := fun _ => by kernel_rfl
  have i2 : ∀ w, (Instr.index 225 (.agg #[.int .i64 x, .int .i64 y, .int .i64 z]) (.int .i64 2)).run Tryz.prog w = .ok (.int .i64 z) w := fun _ => by kernel_rfl
  go_enter Tryz.func144, Tryz.ntmps144
  go_wp2_with fail
  obtain ⟨W1, hW1⟩ : ∃ W1, (((w.alloc (.cells #[.int .i64 s, .int .i64 c, .int .i64 o, .int .i64 x, .int .i64 y, .int .i64 z] 112)).alloc (.cells ((List.replicate 24 (Value.int .u8 0)).toArray) 108)).alloc (.cells (((part0 s).map (Value.int .u8)).toArray) 108)) = W1 := ⟨_, rfl⟩
  have hB1 : Below w.heap.size w W1 := by rw [← hW1]; go_grown
  have z1 : W1.heap.size = w.heap.size + 3 := by rw [← hW1]; simp
  have r1 : W1.heap[w.heap.size + 1]? = some (.cells ((List.replicate 24 (Value.int .u8 0)).toArray) 108 (0, 0)) := by
    rw [← hW1, Below.heap_alloc _ _ _ (by simp)]
    exact heap_alloc2_new w _ _
  have hk1 : HasBlk W1 (w.heap.size + 1 + 1) 108 (part0 s) := by
    rw [← hW1]
    have h := heap_alloc2_new (w.alloc (.cells #[.int .i64 s, .int .i64 c, .int .i64 o, .int .i64 x, .int .i64 y, .int .i64 z] 112)) (.cells ((List.replicate 24 (Value.int .u8 0)).toArray) 108) (.cells (((part0 s).map (Value.int .u8)).toArray) 108)
    simpa [HasBlk] using h
  have b1 : W1.cell? ⟨w.heap.size, 1, none⟩ = some (.int .i64 c) := by rw [← hW1]; simp [go_sem]
  have b2 : W1.cell? ⟨w.heap.size, 2, none⟩ = some (.int .i64 o) := by rw [← hW1]; simp [go_sem]
  have b3 : W1.cell? ⟨w.heap.size, 3, none⟩ = some (.int .i64 x) := by rw [← hW1]; simp [go_sem]
  have b4 : W1.cell? ⟨w.heap.size, 4, none⟩ = some (.int .i64 y) := by rw [← hW1]; simp [go_sem]
  have b5 : W1.cell? ⟨w.heap.size, 5, none⟩ = some (.int .i64 z) := by rw [← hW1]; simp [go_sem]
  simp only [part0, List.replicate, List.map_cons, List.map_nil] at hW1
  rw [hW1]
  have HB := Lib.hid hB1
  have HZ := Lib.hid z1
  have HR := Lib.hid r1
  have HK := Lib.hid hk1
  clear hW1 hB1 z1 r1 hk1
  go_region_held3 (fun w' => w'.cell? ⟨w.heap.size, 1, none⟩ = some (.int .i64 c)) (first | go_keep | exact hoA.drew.cell b1 (by omega))
    ((go_at_call 174; refine (write2_blk _ _ 2 _ 108 (part0 s) c HK.out.drew (by simp [part0]) (by omega) (by omega)).mono ?_; rintro e wA ⟨rfl, hkA, hoA⟩))
  have hoA' := hoA.drew
  have a2 := hoA'.cell b2 (by omega)
  have a3 := hoA'.cell b3 (by omega)
  have a4 := hoA'.cell b4 (by omega)
  have a5 := hoA'.cell b5 (by omega)
  have ac := hkA.cell (j := 4) (v := 0) (by simp [w2, part0, List.replicate, List.set])
  have af := hkA.frozen 4
  have HkA := Lib.hid hkA
  have HoA := Lib.hid hoA'
  clear b1 b2 b3 b4 b5 hoA hoA' hkA
  go_wp2
  obtain ⟨wB, hwB⟩ : ∃ wB, wA.setCell ⟨w.heap.size + 1 + 1, 4, none⟩ (.int .u8 o) = wB := ⟨_, rfl⟩
  have hkB : HasBlk wB (w.heap.size + 1 + 1) 108 ((w2 (part0 s) 2 c).set 4 o) := by rw [← hwB]; exact HkA.out.set _ _
  have hoB : OnlyBlk W1 wB (w.heap.size + 1 + 1) := by rw [← hwB]; exact HoA.out.trans (OnlyBlk.set _ _ _ _)
  rw [hwB]
  clear hwB a2 a3 a4 a5 ac af
  refine wp_loop_rounds 4 ?_
  rw [rounds_succ]
  go_wp2_with (go_at_call 174; refine (write4_blk _ _ 5 _ 108 _ (x + 1048576) hkB (by simp [w2, part0]) (by omega) (by omega)).mono ?_; rintro e wC ⟨rfl, hkC, hoC⟩)
  rw [rounds_succ]
  go_wp2_with (go_at_call 174; refine (write4_blk _ _ 9 _ 108 _ (y + 1048576) hkC (by simp [w4, w2, part0]) (by omega) (by omega)).mono ?_; rintro e wD ⟨rfl, hkD, hoD⟩)
  rw [rounds_succ]
  go_wp2_with (go_at_call 174; refine (write4_blk _ _ 13 _ 108 _ (z + 1048576) hkD (by simp [w4, w2, part0]) (by omega) (by omega)).mono ?_; rintro e wE ⟨rfl, hkE, hoE⟩)
  have hoE' := ((hoB.trans hoC).trans hoD).trans hoE
  have hkE' : HasBlk wE (w.heap.size + 1 + 1) 108 (part5 s c o x y z) := hkE
  obtain ⟨p1, p2, p3, p17, p18, p19, plen⟩ := part5_at s c o x y z
  have e1 := hkE'.cell p1
  have e2 := hkE'.cell p2
  have e3 := hkE'.cell p3
  have e17 := hkE'.cell p17
  have e18 := hkE'.cell p18
  have e19 := hkE'.cell p19
  have q17 := hkE'.frozen 17
  have q18 := hkE'.frozen 18
  have q19 := hkE'.frozen 19
  have HkE := Lib.hid hkE'
  have HoE := Lib.hid hoE'
  clear hkB hkC hkD hkE hkE' hoB hoC hoD hoE hoE' p1 p2 p3 p17 p18 p19 plen i0 i1 i2
  rw [rounds_succ]
  go_wp2
  refine wp_loop_rounds 4 ?_
  rw [rounds_succ]
  go_wp2
  rw [rounds_succ]
  go_wp2
  rw [rounds_succ]
  go_wp2
  rw [rounds_succ]
  go_wp2
  obtain ⟨wF, hwF⟩ : ∃ wF, ((wE.setCell ⟨w.heap.size + 1 + 1, 17, none⟩ (.int .u8 (255 - s))).setCell ⟨w.heap.size + 1 + 1, 18, none⟩ (.int .u8 (255 - byt c 1))).setCell ⟨w.heap.size + 1 + 1, 19, none⟩ (.int .u8 (255 - byt c 0)) = wF := ⟨_, rfl⟩
  have hkF : HasBlk wF (w.heap.size + 1 + 1) 108 (part8 s c o x y z) := by rw [← hwF]; exact ((HkE.out.set _ _).set _ _).set _ _
  have hoF : OnlyBlk W1 wF (w.heap.size + 1 + 1) := by rw [← hwF]; exact ((HoE.out.trans (OnlyBlk.set _ _ _ _)).trans (OnlyBlk.set _ _ _ _)).trans (OnlyBlk.set _ _ _ _)
  rw [hwF]
  clear hwF e1 e2 e3 e17 e18 e19 q17 q18 q19
  have hck := chk_bd (frame20 s c o x y z)
  have hl8 : (part8 s c o x y z).length = 24 := by rw [part8_take]; rfl
  have HkF := Lib.hid hkF
  have HoF := Lib.hid hoF
  clear hkF hoF
  go_region_held3 (fun _ => True) (trivial)
    (first
      | ((go_at_call 163; refine (chk_blk _ _ _ 108 s c o x y z HG.out HkF.out.drew).mono ?_; rintro e w' ⟨rfl, rfl⟩))
      | ((go_at_call 174; refine (write4_blk _ _ 20 _ 108 _ (chkOf (frame20 s c o x y z)) HkF.out.drew (by omega) (by omega) (by omega)).mono ?_; rintro e wG ⟨rfl, hkG, hoG⟩)))
  have hoG' := HoF.out.trans hoG.drew
  rw [frame_eq] at hkG
  have hrG : wG.heap[w.heap.size + 1]? = some (.cells ((List.replicate 24 (Value.int .u8 0)).toArray) 108 (0, 0)) := (hoG'.1.block _ (by have := HZ.out; omega) (fun e => by have := Option.some.inj e; omega)).trans HR.out
  have hsG := hoG'.2
  have hbG := HB.out.trans (hoG'.below (by have := HZ.out; omega) (by omega))
  have Hk := Lib.hid hkG
  have Hr := Lib.hid hrG
  have Hb := Lib.hid hbG
  clear hoG hoG' hkG hrG hbG hsG
  go_wp2_with (first
    | (refine wpList_load_row rfl 108 (.tmp 3) rfl (w.heap.size + 1 + 1) rfl 108 _ (0, 0) _ Hk.out Tryz.underlying108 rfl ?i1 ?_)
    | (refine wpList_store_row rfl 108 (.tmp 2) (.tmp 62) rfl (w.heap.size + 1) rfl _ rfl 108 _ Hr.out ?i2 ?i3 ?i4 ?_))
  case i1 => rw [size24]; simp [frame_len]
  case i2 => simp [frame_len]
  case i3 => rw [size24]; simp [frame_len]
  case i4 => intro v hv; rfl
  go_wp2
  refine bodyPost_ret (v := .agg ((frame s c o x y z).map (Value.int .u8)).toArray) (results_cell_row Tryz.results144 _ _ (w.heap.size + 1) 108 _ (0, 0) _ rfl (setRow_heap wG _ _ _ _ _ Hr.out) Tryz.underlying108 rfl (by rw [size24]; simp [frame_len])) rfl ⟨rfl, ?_⟩
  exact Hb.out.trans ((OnlyBlk.setRow wG (w.heap.size + 1) _).below Hb.out.size (by omega))
end Go.Proofs.YtlnhgplloaiiiaaGreatDoor

/-
  Contract of Encode for a telegram whose numbers are in their ranges: its frame, without an error.
-/
namespace Go.Proofs.YtlnhgplloaiiiaaGreatDoor
open Go.RowKit
set_option linter.unusedVariables false

theorem results_row_tmp {P : Program} {fn : Func} {p u : Tmp} {ty : TypeId} (h : fn.results = #[.cell p ty, .tmp u]) (tmps : Array Value) (w : World) (g : Nat) (t : TypeId) (cs : Array Value) (fr : Nat × Nat) (d : TypeDesc)
    (hp : tmps.getD p undef = .pointer (some ⟨g, 0, none⟩)) (hg : w.heap[g]? = some (.cells cs t fr))
    (hu : P.underlying ty = some d) (hd : (match d with | .struct _ | .array _ _ => true | _ => false) = true) (hi : (P.info? ty).map (·.size) = some cs.size) :
    (results fn tmps).run P w = .ok (.tuple #[.agg cs, tmps.getD u undef]) w := by
  rw [results_cell_tmp h, hp]
  simp [asAddr, run_loadVar_row w g t ty cs fr d hg hu hd hi, Result.andThen]

set_option maxRecDepth 100000 in
set_option maxHeartbeats 3200000 in
theorem encode_any (s c o x y z : Int) (h : GoodT s c o x y z) (w : World) :
    Calls Tryz.prog 68 #[.agg #[.int .i64 s, .int .i64 c, .int .i64 o, .int .i64 x, .int .i64 y, .int .i64 z]] w fun e w' =>
      e = .returned (.tuple #[.agg ((frame s c o x y z).map (Value.int .u8)).toArray, .int .i64 0]) ∧ Below w.heap.size w w' := by
  have K1 := Lib.hid (checkTelegram_any s c o x y z h)
  have K2 := Lib.hid (frameOf_any s c o x y z h)
  clear h
  go_enter Tryz.func68, Tryz.ntmps68
  go_wp2_with fail
  refine (K1.out _).mono ?_
  rintro e w1 ⟨rfl, hb1⟩
  have b0 : w1.cell? ⟨w.heap.size, 0, none⟩ = some (.int .i64 s) := by rw [hb1.cell (by simp; try omega)]; simp [go_sem]
  have b1 : w1.cell? ⟨w.heap.size, 1, none⟩ = some (.int .i64 c) := by rw [hb1.cell (by simp; try omega)]; simp [go_sem]
  have b2 : w1.cell? ⟨w.heap.size, 2, none⟩ = some (.int .i64 o) := by rw [hb1.cell (by simp; try omega)]; simp [go_sem]
  have b3 : w1.cell? ⟨w.heap.size, 3, none⟩ = some (.int .i64 x) := by rw [hb1.cell (by simp; try omega)]; simp [go_sem]
  have b4 : w1.cell? ⟨w.heap.size, 4, none⟩ = some (.int .i64 y) := by rw [hb1.cell (by simp; try omega)]; simp [go_sem]
  have b5 : w1.cell? ⟨w.heap.size, 5, none⟩ = some (.int .i64 z) := by rw [hb1.cell (by simp; try omega)]; simp [go_sem]
  have r1 : w1.heap[w.heap.size + 1]? = some (.cells ((List.replicate 24 (Value.int .u8 0)).toArray) 108 (0, 0)) := by
    refine (hb1.block _ (by simp)).trans ?_
    exact heap_alloc2_new w _ _
  have hB : Below w.heap.size w w1 := (((Below.refl _ w).alloc (Nat.le_refl _) _).alloc (by simp) _).trans (hb1.mono (by simp; omega))
  have hs : w.heap.size + 1 < w1.heap.size := (Array.getElem?_eq_some_iff.1 r1).1
  have R1 := Lib.hid r1
  have HB := Lib.hid hB
  clear hb1 r1 hB
  go_wp2_with fail
  refine (K2.out _).mono ?_
  rintro e w2 ⟨rfl, hb2⟩
  have R2 := Lib.hid ((hb2.block _ hs).trans R1.out)
  have HB2 := Lib.hid (HB.out.trans (hb2.mono HB.out.size))
  clear b0 b1 b2 b3 b4 b5 hb2
  go_wp2_with (refine wpList_store_row rfl 108 (.tmp 2) (.tmp 12) rfl (w.heap.size + 1) rfl _ rfl 108 _ R2.out ?i2 ?i3 ?i4 ?_)
  case i2 => simp [frame_len]
  case i3 => rw [size24]; simp [frame_len]
  case i4 => intro v hv; rfl
  go_wp2
  refine bodyPost_ret (results_row_tmp Tryz.results68 _ _ (w.heap.size + 1) 108 _ (0, 0) _ rfl (setRow_heap w2 _ _ _ _ _ R2.out) Tryz.underlying108 rfl (by rw [size24]; simp [frame_len])) rfl ⟨rfl, ?_⟩
  exact HB2.out.trans ((OnlyBlk.setRow w2 (w.heap.size + 1) _).below HB2.out.size (by omega))
end Go.Proofs.YtlnhgplloaiiiaaGreatDoor

/-
  Contracts of telegramOf and its arm, of Decode and of telegramAt, for the frame of a telegram whose numbers are in their ranges.
-/
namespace Go.Proofs.YtlnhgplloaiiiaaGreatDoor
open Go.RowKit
set_option linter.unusedVariables false

theorem num4 (v : Int) (h0 : 0 ≤ v) (h1 : v ≤ 4294967295) : numOf [byt v 3, byt v 2, byt v 1, byt v 0] = v := by
  simp [numOf, byt]; omega
theorem num2 (v : Int) (h0 : 0 ≤ v) (h1 : v ≤ 65535) : numOf [byt v 1, byt v 0] = v := by
  simp [numOf, byt]; omega

/-- The number of some bytes of a block that is known whole. -/
theorem read_blk (w : World) (f o n cp : Nat) (T : TypeId) (L l : List Int) (h : HasBlk w f T L) (hn : n ≤ 4) (hl : (L.drop o).take n = l) (hll : l.length = n) (hb : ∀ x ∈ l, 0 ≤ x ∧ x ≤ 255) :
    Calls Tryz.prog 176 #[.slice (some ⟨f, o, none⟩) n cp] w fun e w' => e = .returned (.int .i64 (numOf l)) ∧ w = w' :=
  readNumber_any f o n cp l w hll hn (fun j hj => by
      rw [List.getElem?_eq_getElem (by omega)]
      exact hb _ (List.getElem_mem (by omega)))
    (fun j hj => h.cell (by
      have e : l[j]? = L[o + j]? := by rw [← hl, List.getElem?_take, if_pos hj, List.getElem?_drop]
      have e1 : l[j]? = some l[j] := List.getElem?_eq_getElem (by omega)
      rw [← e, e1]; rfl))

set_option maxRecDepth 100000 in
set_option maxHeartbeats 1600000 in
theorem part0_any (w : World) (f : Nat) (L l : List Int) (h : HasBlk w f 108 L) (hl : (L.drop 5).take 4 = l) (hll : l.length = 4) (hb : ∀ x ∈ l, 0 ≤ x ∧ x ≤ 255)
    (hm : numOf l ≤ 4294967295 ∧ 0 ≤ numOf l) :
    Calls Tryz.prog 175 #[.int .i64 0, .pointer (some ⟨f, 0, none⟩)] w fun e w' => e = .returned (.int .i64 (numOf l - 1048576)) ∧ w' = w := by
  have K := Lib.hid (fun (w' : World) (cp : Nat) (h' : HasBlk w' f 108 L) => read_blk w' f 5 4 cp 108 L l h' (by omega) hl hll hb)
  have H := Lib.hid h
  clear h hl hb
  go_enter Tryz.func175, Tryz.ntmps175
  go_wp2_with (go_at_call 176; refine (K.out _ _ H.out).mono ?_; rintro e w' ⟨rfl, rfl⟩)
  go_ret
  exact ⟨rfl, rfl⟩

set_option maxRecDepth 100000 in
set_option maxHeartbeats 1600000 in
theorem part1_any (w : World) (f : Nat) (L l : List Int) (h : HasBlk w f 108 L) (hl : (L.drop 9).take 4 = l) (hll : l.length = 4) (hb : ∀ x ∈ l, 0 ≤ x ∧ x ≤ 255)
    (hm : numOf l ≤ 4294967295 ∧ 0 ≤ numOf l) :
    Calls Tryz.prog 175 #[.int .i64 1, .pointer (some ⟨f, 0, none⟩)] w fun e w' => e = .returned (.int .i64 (numOf l - 1048576)) ∧ w' = w := by
  have K := Lib.hid (fun (w' : World) (cp : Nat) (h' : HasBlk w' f 108 L) => read_blk w' f 9 4 cp 108 L l h' (by omega) hl hll hb)
  have H := Lib.hid h
  clear h hl hb
  go_enter Tryz.func175, Tryz.ntmps175
  go_wp2_with (go_at_call 176; refine (K.out _ _ H.out).mono ?_; rintro e w' ⟨rfl, rfl⟩)
  go_ret
  exact ⟨rfl, rfl⟩

set_option maxRecDepth 100000 in
set_option maxHeartbeats 1600000 in
theorem part2_any (w : World) (f : Nat) (L l : List Int) (h : HasBlk w f 108 L) (hl : (L.drop 13).take 4 = l) (hll : l.length = 4) (hb : ∀ x ∈ l, 0 ≤ x ∧ x ≤ 255)
    (hm : numOf l ≤ 4294967295 ∧ 0 ≤ numOf l) :
    Calls Tryz.prog 175 #[.int .i64 2, .pointer (some ⟨f, 0, none⟩)] w fun e w' => e = .returned (.int .i64 (numOf l - 1048576)) ∧ w' = w := by
  have K := Lib.hid (fun (w' : World) (cp : Nat) (h' : HasBlk w' f 108 L) => read_blk w' f 13 4 cp 108 L l h' (by omega) hl hll hb)
  have H := Lib.hid h
  clear h hl hb
  go_enter Tryz.func175, Tryz.ntmps175
  go_wp2_with (go_at_call 176; refine (K.out _ _ H.out).mono ?_; rintro e w' ⟨rfl, rfl⟩)
  go_ret
  exact ⟨rfl, rfl⟩

theorem frame_in {s c o x y z : Int} (h : GoodT s c o x y z) : ∀ v ∈ frame s c o x y z, 0 ≤ v ∧ v ≤ 255 := by
  intro v hv
  rcases List.mem_append.1 hv with h1 | h1
  · obtain ⟨j, hj, e⟩ := List.getElem_of_mem h1
    have := frame20_bd h j hj
    rw [List.getElem?_eq_getElem hj] at this
    simp only [Option.getD_some] at this
    omega
  · generalize chkOf (frame20 s c o x y z) = q at h1
    simp only [List.mem_cons, List.not_mem_nil, or_false] at h1
    rcases h1 with rfl | rfl | rfl | rfl <;> exact byt_bd _ _

theorem byt_in (v : Int) : ∀ u ∈ [byt v 3, byt v 2, byt v 1, byt v 0], 0 ≤ u ∧ u ≤ 255 := by
  intro u hu
  simp only [List.mem_cons, List.not_mem_nil, or_false] at hu
  rcases hu with rfl | rfl | rfl | rfl <;> exact byt_bd _ _
theorem byt_in2 (v : Int) : ∀ u ∈ [byt v 1, byt v 0], 0 ≤ u ∧ u ≤ 255 := by
  intro u hu
  simp only [List.mem_cons, List.not_mem_nil, or_false] at hu
  rcases hu with rfl | rfl <;> exact byt_bd _ _

set_option maxRecDepth 100000 in
set_option maxHeartbeats 3200000 in
theorem telegramOf_any (s c o x y z : Int) (h : GoodT s c o x y z) (w : World) :
    Calls Tryz.prog 145 #[.agg ((frame s c o x y z).map (Value.int .u8)).toArray] w fun e w' =>
      e = .returned (.agg #[.int .i64 s, .int .i64 c, .int .i64 o, .int .i64 x, .int .i64 y, .int .i64 z]) ∧ Below w.heap.size w w' := by
  obtain ⟨h1, h2, h3, h4, h5, h6⟩ := h
  go_enter Tryz.func145, Tryz.ntmps145
  go_wp2_with fail
  refine wp_region_still_tail 16 (by kernel_rfl) (by kernel_rfl) ?_
  simp only [List.take_succ_cons, List.take_zero, List.drop_succ_cons, List.drop_zero]
  obtain ⟨W1, hW1⟩ : ∃ W1, W1 = (((w.alloc (.cells ((frame s c o x y z).map (Value.int .u8)).toArray 108)).alloc (.cells #[.int .i64 0, .int .i64 0, .int .i64 0, .int .i64 0, .int .i64 0, .int .i64 0] 112)).drew) := ⟨_, rfl⟩
  change wpStill _ _ (((w.alloc (.cells ((frame s c o x y z).map (Value.int .u8)).toArray 108)).alloc (.cells #[.int .i64 0, .int .i64 0, .int .i64 0, .int .i64 0, .int .i64 0, .int .i64 0] 112)).drew) (fun a' => wpList _ _ _ _ a' (((w.alloc (.cells ((frame s c o x y z).map (Value.int .u8)).toArray 108)).alloc (.cells #[.int .i64 0, .int .i64 0, .int .i64 0, .int .i64 0, .int .i64 0, .int .i64 0] 112)).drew)) _ _
  rw [← hW1]
  have hk : HasBlk W1 w.heap.size 108 (frame s c o x y z) := by
    rw [hW1]
    have hn : (w.alloc (.cells ((frame s c o x y z).map (Value.int .u8)).toArray 108)).heap[w.heap.size]? = some (.cells ((frame s c o x y z).map (Value.int .u8)).toArray 108 (0, 0)) := heap_alloc_new w _
    show ((w.alloc _).alloc _).heap[w.heap.size]? = _
    rw [Below.heap_alloc _ _ _ (by simp)]
    exact hn
  have c1 := hk.cell (j := 1) (v := s) rfl
  have c4 := hk.cell (j := 4) (v := o) rfl
  have k1 := fun cp => (read_blk W1 w.heap.size 2 2 cp 108 _ [byt c 1, byt c 0] hk (by omega) rfl rfl (byt_in2 c)).mono fun e w' (h : _ ∧ _) => (⟨by rw [h.1, num2 c h2.1 h2.2], h.2.symm⟩ : e = .returned (.int .i64 c) ∧ w' = W1)
  have e4 := num4 (x + 1048576) (by omega) (by omega)
  have e5 := num4 (y + 1048576) (by omega) (by omega)
  have e6 := num4 (z + 1048576) (by omega) (by omega)
  have k4 := (part0_any W1 w.heap.size _ [byt (x + 1048576) 3, byt (x + 1048576) 2, byt (x + 1048576) 1, byt (x + 1048576) 0] hk rfl rfl (byt_in _) (by rw [e4]; omega)).mono fun e w' (h : _ ∧ _) => (⟨by rw [h.1, e4]; congr 2; omega, h.2⟩ : e = .returned (.int .i64 x) ∧ w' = W1)
  have k5 := (part1_any W1 w.heap.size _ [byt (y + 1048576) 3, byt (y + 1048576) 2, byt (y + 1048576) 1, byt (y + 1048576) 0] hk rfl rfl (byt_in _) (by rw [e5]; omega)).mono fun e w' (h : _ ∧ _) => (⟨by rw [h.1, e5]; congr 2; omega, h.2⟩ : e = .returned (.int .i64 y) ∧ w' = W1)
  have k6 := (part2_any W1 w.heap.size _ [byt (z + 1048576) 3, byt (z + 1048576) 2, byt (z + 1048576) 1, byt (z + 1048576) 0] hk rfl rfl (byt_in _) (by rw [e6]; omega)).mono fun e w' (h : _ ∧ _) => (⟨by rw [h.1, e6]; congr 2; omega, h.2⟩ : e = .returned (.int .i64 z) ∧ w' = W1)
  have K1 := Lib.hid k1
  have K4 := Lib.hid k4
  have K5 := Lib.hid k5
  have K6 := Lib.hid k6
  have HW1 := Lib.hid hW1
  clear k1 k4 k5 k6 h4 h5 h6 hW1 hk e4 e5 e6 h2
  repeat still_step
  still_call K1.out _
  repeat still_step
  still_call K4.out
  repeat still_step
  still_call K5.out
  repeat still_step
  still_call K6.out
  repeat still_step
  refine wpStill_nil ?_
  rw [HW1.out]
  go_wp2
  refine bodyPost_ret (v := .agg #[.int .i64 s, .int .i64 c, .int .i64 o, .int .i64 x, .int .i64 y, .int .i64 z]) (by simp [results, Tryz.results145, go_sem]) rfl ⟨rfl, ?_⟩
  go_grown
end Go.Proofs.YtlnhgplloaiiiaaGreatDoor

/-
  Bytes are equal to themselves; the contract of Decode for the frame of a telegram whose numbers are in their ranges.
-/
namespace Go.Proofs.YtlnhgplloaiiiaaGreatDoor
open Go.RowKit
set_option linter.unusedVariables false

section
variable {P : Program} (w : World)
theorem run_equalIn_same (d : Nat) (t e : TypeId) (n : Nat) (ht : P.underlying t = some (.array n e)) (he : P.underlying e = some (.int .u8)) (hsz : ∀ w, (sizeOf e).run P w = .ok 1 w) (xs : List Int) (hx : xs.length = n) :
    (Op.equalIn (d + 2) t (.agg (xs.map (Value.int .u8)).toArray) (.agg (xs.map (Value.int .u8)).toArray)).run P w = .ok true w := by
  rw [Op.equalIn]
  simp only [Sem.run_bind, run_underlying ht, Result.andThen_ok, hsz, Std.Legacy.Range.forIn_eq_forIn_range', Std.Legacy.Range.size, Nat.sub_zero, Nat.add_sub_cancel, Nat.div_one]
  have hl : ∀ i ∈ List.range' 0 n 1, i < n := fun i hi => by simpa using (List.mem_range'_1.1 hi).2
  generalize List.range' 0 n 1 = l at hl ⊢
  induction l with
  | nil => simp
  | cons i l ih =>
    have hi : i < n := hl i (by simp)
    have px : (part e (xs.map (Value.int .u8)).toArray (i * 1)).run P w = .ok (Value.int .u8 (xs[i]?.getD 0)) w := by
      simp [part, isAgg, run_underlying he, List.getElem?_eq_getElem (show i < xs.length by omega)]
    have pe : (Op.equalIn (d + 1) e (Value.int .u8 (xs[i]?.getD 0)) (Value.int .u8 (xs[i]?.getD 0))).run P w = .ok true w := by
      rw [run_equalIn_int w d e .u8 .u8 _ _ he]
      simp
    simp only [List.forIn_cons, Sem.run_bind, px, pe, Result.andThen_ok]
    simp only [Bool.not_true, Bool.false_eq_true, if_false, Sem.run_pure, Result.andThen_ok]
    exact ih fun j hj => hl j (by simp [hj])
theorem rangeAt_below' (w w' : World) (B b : Nat) (cs : List Value) (h : w.rangeAt b 0 cs) (hb : Below B w w') (hB : b < B) : w'.rangeAt b 0 cs := fun j v hv => by rw [hb.cell hB]; exact h j v hv
theorem run_neq_same (t e : TypeId) (n : Nat) (ht : P.underlying t = some (.array n e)) (he : P.underlying e = some (.int .u8)) (hsz : ∀ w, (sizeOf e).run P w = .ok 1 w) (xs : List Int) (hx : xs.length = n) :
    (binOp .neq t (.agg (xs.map (Value.int .u8)).toArray) (.agg (xs.map (Value.int .u8)).toArray)).run P w = .ok (.bool false) w := by
  rw [run_neq_struct, run_equalIn_same w 9998 t e n ht he hsz xs hx]
  rfl
end

set_option maxRecDepth 100000 in
set_option maxHeartbeats 3200000 in
theorem decode_any (s c o x y z : Int) (h : GoodT s c o x y z) (w : World) :
    Calls Tryz.prog 69 #[.agg ((frame s c o x y z).map (Value.int .u8)).toArray] w fun e w' =>
      e = .returned (.tuple #[.agg #[.int .i64 s, .int .i64 c, .int .i64 o, .int .i64 x, .int .i64 y, .int .i64 z], .int .i64 0]) ∧ Below w.heap.size w w' := by
  have K1 := Lib.hid (telegramOf_any s c o x y z h)
  have K2 := Lib.hid (frameOf_any s c o x y z h)
  have K3 := Lib.hid (checkTelegram_any s c o x y z h)
  clear h
  obtain ⟨V, hV⟩ : ∃ V, ((frame s c o x y z).map (Value.int .u8)) = V := ⟨_, rfl⟩
  have V24 : V.length = 24 := by rw [← hV]; simp [frame_len]
  have V0 : V[0]? = some (.int .u8 77) := by rw [← hV]; rfl
  have V0' : ∀ (h : 0 < V.length), V[0]'h = .int .u8 77 := fun h => by rw [List.getElem?_eq_getElem h] at V0; exact Option.some.inj V0
  have hne : ∀ w, (binOp .neq 108 (.agg V.toArray) (.agg V.toArray)).run Tryz.prog w = .ok (.bool false) w := fun w => by
    rw [← hV]
    exact run_neq_same w _ _ 24 Tryz.underlying108 Tryz.underlying5 (fun _ => by kernel_rfl) _ (frame_len ..)
  rw [hV] at K1 K2 ⊢
  clear hV
  have hi36 : (Tryz.prog.info? 108).map (·.size) = some V.length := by rw [size24, V24]
  have r0 : ((w.alloc (.cells V.toArray 108)).alloc (.cells #[.int .i64 0, .int .i64 0, .int .i64 0, .int .i64 0, .int .i64 0, .int .i64 0] 112)).heap[w.heap.size]? = some (.cells V.toArray 108 (0, 0)) := by
    rw [Below.heap_alloc _ _ _ (by simp)]
    exact heap_alloc_new w _
  have r2 : ((w.alloc (.cells V.toArray 108)).alloc (.cells #[.int .i64 0, .int .i64 0, .int .i64 0, .int .i64 0, .int .i64 0, .int .i64 0] 112)).heap[w.heap.size + 1]? = some (.cells #[.int .i64 0, .int .i64 0, .int .i64 0, .int .i64 0, .int .i64 0, .int .i64 0] 112 (0, 0)) := heap_alloc2_new w _ _
  have R0 := Lib.hid r0
  have R2 := Lib.hid r2
  clear r0 r2 V0
  go_enter Tryz.func69, Tryz.ntmps69
  go_wp2_with (first
    | (refine wpList_load_row rfl 108 (.tmp 1) rfl w.heap.size rfl 108 _ (0, 0) _ R0.out Tryz.underlying108 rfl ?i1 ?_)
    | (go_at_call 145; refine (K1.out _).mono ?_; rintro e w1 ⟨rfl, hb1⟩))
  case i1 => rw [hi36]; simp
  obtain ⟨W2, hW2⟩ : ∃ W2, w1.alloc (.cells #[.int .i64 s, .int .i64 c, .int .i64 o, .int .i64 x, .int .i64 y, .int .i64 z] 112) = W2 := ⟨_, rfl⟩
  have hs1 : w.heap.size + 2 ≤ w1.heap.size := by have := hb1.size; simpa using this
  have z2 : W2.heap.size = w1.heap.size + 1 := by rw [← hW2]; simp
  have b0 : W2.cell? ⟨w1.heap.size, 0, none⟩ = some (.int .i64 s) := by rw [← hW2]; simp [go_sem]
  have b1 : W2.cell? ⟨w1.heap.size, 1, none⟩ = some (.int .i64 c) := by rw [← hW2]; simp [go_sem]
  have b2 : W2.cell? ⟨w1.heap.size, 2, none⟩ = some (.int .i64 o) := by rw [← hW2]; simp [go_sem]
  have b3 : W2.cell? ⟨w1.heap.size, 3, none⟩ = some (.int .i64 x) := by rw [← hW2]; simp [go_sem]
  have b4 : W2.cell? ⟨w1.heap.size, 4, none⟩ = some (.int .i64 y) := by rw [← hW2]; simp [go_sem]
  have b5 : W2.cell? ⟨w1.heap.size, 5, none⟩ = some (.int .i64 z) := by rw [← hW2]; simp [go_sem]
  have hB2 : Below w.heap.size w W2 := by
    rw [← hW2]
    exact ((((Below.refl _ w).alloc (Nat.le_refl _) _).alloc (by simp) _).trans (hb1.mono (by simp; omega))).alloc (by omega) _
  have q0 : W2.heap[w.heap.size]? = some (.cells V.toArray 108 (0, 0)) := by
    rw [← hW2, Below.heap_alloc _ _ _ (by omega), hb1.block _ (by simp; omega)]; exact R0.out
  have q2 : W2.heap[w.heap.size + 1]? = some (.cells #[.int .i64 0, .int .i64 0, .int .i64 0, .int .i64 0, .int .i64 0, .int .i64 0] 112 (0, 0)) := by
    rw [← hW2, Below.heap_alloc _ _ _ (by omega), hb1.block _ (by simp)]; exact R2.out
  have hr0 : W2.rangeAt w.heap.size 0 V := fun j v hv => by
    rw [cell_of_row W2 w.heap.size (0 + j) _ _ (0, 0) q0]
    simpa using hv
  have U := Tryz.underlying108
  have Q2 := Lib.hid q2
  have HB2 := Lib.hid hB2
  rw [hW2]
  clear hW2 q0 q2 hB2 hb1 R0 R2 K1
  go_region_held3 (fun w' => w'.rangeAt w.heap.size 0 V ∧ w'.cell? ⟨w1.heap.size, 0, none⟩ = some (.int .i64 s) ∧ w'.cell? ⟨w1.heap.size, 1, none⟩ = some (.int .i64 c) ∧ w'.cell? ⟨w1.heap.size, 2, none⟩ = some (.int .i64 o) ∧ w'.cell? ⟨w1.heap.size, 3, none⟩ = some (.int .i64 x) ∧ w'.cell? ⟨w1.heap.size, 4, none⟩ = some (.int .i64 y) ∧ w'.cell? ⟨w1.heap.size, 5, none⟩ = some (.int .i64 z))
    (first | go_keep | (go_split_ands; refine ⟨?_, ?_, ?_, ?_, ?_, ?_, ?_⟩ <;> first | (rw [hb2.cell (by simp; omega)]; assumption) | (refine rangeAt_below' _ _ _ _ _ ?_ hb2 ?_ <;> first | assumption | (simp; try omega))))
    ((go_at_call 144; refine (K2.out _).mono ?_; rintro e w2 ⟨rfl, hb2⟩))
  have hs2 : W2.heap.size ≤ w2.heap.size := by have := hb2.size; simpa using this
  have d0 : w2.cell? ⟨w1.heap.size, 0, none⟩ = some (.int .i64 s) := by rw [hb2.cell (by simp; omega)]; assumption
  have d1 : w2.cell? ⟨w1.heap.size, 1, none⟩ = some (.int .i64 c) := by rw [hb2.cell (by simp; omega)]; assumption
  have d2 : w2.cell? ⟨w1.heap.size, 2, none⟩ = some (.int .i64 o) := by rw [hb2.cell (by simp; omega)]; assumption
  have d3 : w2.cell? ⟨w1.heap.size, 3, none⟩ = some (.int .i64 x) := by rw [hb2.cell (by simp; omega)]; assumption
  have d4 : w2.cell? ⟨w1.heap.size, 4, none⟩ = some (.int .i64 y) := by rw [hb2.cell (by simp; omega)]; assumption
  have d5 : w2.cell? ⟨w1.heap.size, 5, none⟩ = some (.int .i64 z) := by rw [hb2.cell (by simp; omega)]; assumption
  have HB3 := Lib.hid (HB2.out.drew.trans (hb2.mono (by simpa using HB2.out.size)))
  have Q3 := Lib.hid ((hb2.block _ (by simp; omega)).trans Q2.out)
  clear hb2 K2 hne U hr0 b0 b1 b2 b3 b4 b5
  go_wp2_with (first
    | (refine wpList_store_row rfl 112 (.tmp 2) (.tmp 23) rfl (w.heap.size + 1) rfl _ rfl 112 _ Q4.out ?i2 ?i3 ?i4 ?_)
    | ((go_at_call 143; refine (K3.out _).mono ?_; rintro e w3 ⟨rfl, hb3⟩
        have e0 : w3.cell? ⟨w1.heap.size, 0, none⟩ = some (.int .i64 s) := by rw [hb3.cell (by simp; omega)]; assumption
        have e1 : w3.cell? ⟨w1.heap.size, 1, none⟩ = some (.int .i64 c) := by rw [hb3.cell (by simp; omega)]; assumption
        have e2 : w3.cell? ⟨w1.heap.size, 2, none⟩ = some (.int .i64 o) := by rw [hb3.cell (by simp; omega)]; assumption
        have e3 : w3.cell? ⟨w1.heap.size, 3, none⟩ = some (.int .i64 x) := by rw [hb3.cell (by simp; omega)]; assumption
        have e4 : w3.cell? ⟨w1.heap.size, 4, none⟩ = some (.int .i64 y) := by rw [hb3.cell (by simp; omega)]; assumption
        have e5 : w3.cell? ⟨w1.heap.size, 5, none⟩ = some (.int .i64 z) := by rw [hb3.cell (by simp; omega)]; assumption
        have HB4 := Lib.hid (HB3.out.trans (hb3.mono HB3.out.size))
        have Q4 := Lib.hid ((hb3.block _ (by omega)).trans Q3.out)
        clear hb3 d0 d1 d2 d3 d4 d5)))
  case i2 => rfl
  case i3 => kernel_rfl
  case i4 => exact ⟨rfl, rfl, rfl, rfl, rfl, rfl⟩
  go_wp2
  refine bodyPost_ret (results_row_tmp Tryz.results69 _ _ (w.heap.size + 1) 112 _ (0, 0) _ rfl (setRow_heap w3 _ _ _ _ _ Q4.out) Tryz.underlying112 rfl (by kernel_rfl)) rfl ⟨rfl, ?_⟩
  exact HB4.out.trans ((OnlyBlk.setRow w3 (w.heap.size + 1) _).below HB4.out.size (by omega))
end Go.Proofs.YtlnhgplloaiiiaaGreatDoor
