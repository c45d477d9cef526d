/-
  Contracts of frameOf for telegrams whose numbers fit into their bytes, and of telegramOf for any bytes.
-/
import Derived.Test.YtfpagmalblmnkaaGreatDoorEWr
import Derived.Test.YtfpagmalblmnkaaGreatDoorEWt
import Derived.Test.YtfpagmalblmnkaaGreatDoorEWi
import Derived.Test.YtfpagmalblmnkaaGreatDoorEKb
import Derived.Test.YtfpagmalblmnkaaGreatDoorEZd
import Derived.ArgAppend
import Derived.Deep.CutBlock
import Derived.Deep.DeepCutAuto
import Derived.Test.YtfpagmalblmnkaaGreatDoorEPg
import Derived.Test.YtfpagmalblmnkaaGreatDoorEPn
namespace Go.Proofs.YtfpagmalblmnkaaGreatDoor
open Go.RowKit
set_option linter.unusedVariables false
set_option linter.unusedSimpArgs false

/-- The numbers of a telegram fit into their bytes. -/
structure FitT (s c o x y z : Int) : Prop where
  st : 0 ≤ s ∧ s ≤ 255
  ct : 0 ≤ c ∧ c ≤ 65535
  od : 0 ≤ o ∧ o ≤ 255
  vx : -1048576 ≤ x ∧ x ≤ 4293918719
  vy : -1048576 ≤ y ∧ y ≤ 4293918719
  vz : -1048576 ≤ z ∧ z ≤ 4293918719

theorem frame20_fit {s c o x y z : Int} (h : FitT s c o x y z) : ∀ j, j < 20 → 0 ≤ (frame20 s c o x y z)[j]?.getD 0 ∧ (frame20 s c o x y z)[j]?.getD 0 ≤ 255 := by
  obtain ⟨h1, h2, h3, h4, h5, h6⟩ := h
  have b := byt_bd
  intro j hj
  rcases lt20 hj with rfl | rfl | rfl | rfl | rfl | rfl | rfl | rfl | rfl | rfl | rfl | rfl | rfl | rfl | rfl | rfl | rfl | rfl | rfl | rfl
  all_goals first
    | exact b _ _
    | exact h1
    | exact h3
    | (have := b c 1; have := b c 0; simp [frame20]; try omega)

theorem chk_fit (w : World) (f cp : Nat) (T : TypeId) (s c o x y z : Int) (g : FitT s c o x y z) (h : HasBlk w f T (part8 s c o x y z)) :
    Calls Tryz.prog 108 #[.slice (some ⟨f, 0, none⟩) 20 cp] w fun e w' => e = .returned (.int .i64 (chkOf (frame20 s c o x y z))) ∧ w = w' :=
  checksum_any f 0 20 cp (frame20 s c o x y z) w rfl (by omega) (frame20_fit g) (fun j hj => by
    rw [Nat.zero_add]
    refine h.cell ?_
    rw [part8_take, List.getElem?_append_left (by rw [frame20_len]; exact hj), List.getElem?_eq_getElem (by rw [frame20_len]; exact hj)]; rfl)

set_option maxRecDepth 100000 in
set_option maxHeartbeats 6400000 in
theorem frameOf_fit (s c o x y z : Int) (h : FitT s c o x y z) (w : World) :
    Calls Tryz.prog 97 #[.agg #[.int .i64 s, .int .i64 c, .int .i64 o, .int .i64 x, .int .i64 y, .int .i64 z]] w fun e w' =>
      e = .returned (.agg ((frame s c o x y z).map (Value.int .u8)).toArray) ∧ Below w.heap.size w w' := by
  have HG := Lib.hid h
  obtain ⟨h1, h2, h3, h4, h5, h6⟩ := h
  have g1 := byt_bd c 1
  have g0 := byt_bd c 0
  have i0 : ∀ w, (Instr.index 218 (.agg #[.int .i64 x, .int .i64 y, .int .i64 z]) (.int .i64 0)).run Tryz.prog w = .ok (.int .i64 x) w := fun _ => by kernel_rfl
  have i1 : ∀ w, (Instr.index 218 (.agg #[.int .i64 x, .int .i64 y, .int .i64 z]) (.int .i64 1)).run Tryz.prog w = .ok (.int .i64 y) w := fun _ => by kernel_rfl
  have i2 : ∀ w, (Instr.index 218 (.agg #[.int .i64 x, .int .i64 y, .int .i64 z]) (.int .i64 2)).run Tryz.prog w = .ok (.int .i64 z) w := fun _ => by kernel_rfl
  go_enter Tryz.func97, Tryz.ntmps97
  go_wp2_with fail
  obtain ⟨W1, hW1⟩ : ∃ W1, (((w.alloc (.cells #[.int .i64 s, .int .i64 c, .int .i64 o, .int .i64 x, .int .i64 y, .int .i64 z] 79)).alloc (.cells ((List.replicate 24 (Value.int .u8 0)).toArray) 80)).alloc (.cells (((part0 s).map (Value.int .u8)).toArray) 80)) = W1 := ⟨_, rfl⟩
  have hB1 : Below w.heap.size w W1 := by rw [← hW1]; go_grown
  have z1 : W1.heap.size = w.heap.size + 3 := by rw [← hW1]; simp
  have r1 : W1.heap[w.heap.size + 1]? = some (.cells ((List.replicate 24 (Value.int .u8 0)).toArray) 80 (0, 0)) := by
    rw [← hW1, Below.heap_alloc _ _ _ (by simp)]
    exact heap_alloc2_new w _ _
  have hk1 : HasBlk W1 (w.heap.size + 1 + 1) 80 (part0 s) := by
    rw [← hW1]
    have h := heap_alloc2_new (w.alloc (.cells #[.int .i64 s, .int .i64 c, .int .i64 o, .int .i64 x, .int .i64 y, .int .i64 z] 79)) (.cells ((List.replicate 24 (Value.int .u8 0)).toArray) 80) (.cells (((part0 s).map (Value.int .u8)).toArray) 80)
    simpa [HasBlk] using h
  have b1 : W1.cell? ⟨w.heap.size, 1, none⟩ = some (.int .i64 c) := by rw [← hW1]; simp [go_sem]
  have b2 : W1.cell? ⟨w.heap.size, 2, none⟩ = some (.int .i64 o) := by rw [← hW1]; simp [go_sem]
  have b3 : W1.cell? ⟨w.heap.size, 3, none⟩ = some (.int .i64 x) := by rw [← hW1]; simp [go_sem]
  have b4 : W1.cell? ⟨w.heap.size, 4, none⟩ = some (.int .i64 y) := by rw [← hW1]; simp [go_sem]
  have b5 : W1.cell? ⟨w.heap.size, 5, none⟩ = some (.int .i64 z) := by rw [← hW1]; simp [go_sem]
  simp only [part0, List.replicate, List.map_cons, List.map_nil] at hW1
  rw [hW1]
  have HB := Lib.hid hB1
  have HZ := Lib.hid z1
  have HR := Lib.hid r1
  have HK := Lib.hid hk1
  clear hW1 hB1 z1 r1 hk1
  go_region_held3 (fun w' => w'.cell? ⟨w.heap.size, 1, none⟩ = some (.int .i64 c)) (first | go_keep | exact hoA.drew.cell b1 (by omega))
    ((go_at_call 147; refine (write2_blk _ _ 2 _ 80 (part0 s) c HK.out.drew (by simp [part0]) (by omega) (by omega)).mono ?_; rintro e wA ⟨rfl, hkA, hoA⟩))
  have hoA' := hoA.drew
  have a2 := hoA'.cell b2 (by omega)
  have a3 := hoA'.cell b3 (by omega)
  have a4 := hoA'.cell b4 (by omega)
  have a5 := hoA'.cell b5 (by omega)
  have ac := hkA.cell (j := 4) (v := 0) (by simp [w2, part0, List.replicate, List.set])
  have af := hkA.frozen 4
  have HkA := Lib.hid hkA
  have HoA := Lib.hid hoA'
  clear b1 b2 b3 b4 b5 hoA hoA' hkA
  go_wp2
  obtain ⟨wB, hwB⟩ : ∃ wB, wA.setCell ⟨w.heap.size + 1 + 1, 4, none⟩ (.int .u8 o) = wB := ⟨_, rfl⟩
  have hkB : HasBlk wB (w.heap.size + 1 + 1) 80 ((w2 (part0 s) 2 c).set 4 o) := by rw [← hwB]; exact HkA.out.set _ _
  have hoB : OnlyBlk W1 wB (w.heap.size + 1 + 1) := by rw [← hwB]; exact HoA.out.trans (OnlyBlk.set _ _ _ _)
  rw [hwB]
  clear hwB a2 a3 a4 a5 ac af
  refine wp_loop_rounds 4 ?_
  rw [rounds_succ]
  go_wp2_with (go_at_call 147; refine (write4_blk _ _ 5 _ 80 _ (x + 1048576) hkB (by simp [w2, part0]) (by omega) (by omega)).mono ?_; rintro e wC ⟨rfl, hkC, hoC⟩)
  rw [rounds_succ]
  go_wp2_with (go_at_call 147; refine (write4_blk _ _ 9 _ 80 _ (y + 1048576) hkC (by simp [w4, w2, part0]) (by omega) (by omega)).mono ?_; rintro e wD ⟨rfl, hkD, hoD⟩)
  rw [rounds_succ]
  go_wp2_with (go_at_call 147; refine (write4_blk _ _ 13 _ 80 _ (z + 1048576) hkD (by simp [w4, w2, part0]) (by omega) (by omega)).mono ?_; rintro e wE ⟨rfl, hkE, hoE⟩)
  have hoE' := ((hoB.trans hoC).trans hoD).trans hoE
  have hkE' : HasBlk wE (w.heap.size + 1 + 1) 80 (part5 s c o x y z) := hkE
  obtain ⟨p1, p2, p3, p17, p18, p19, plen⟩ := part5_at s c o x y z
  have e1 := hkE'.cell p1
  have e2 := hkE'.cell p2
  have e3 := hkE'.cell p3
  have e17 := hkE'.cell p17
  have e18 := hkE'.cell p18
  have e19 := hkE'.cell p19
  have q17 := hkE'.frozen 17
  have q18 := hkE'.frozen 18
  have q19 := hkE'.frozen 19
  have HkE := Lib.hid hkE'
  have HoE := Lib.hid hoE'
  clear hkB hkC hkD hkE hkE' hoB hoC hoD hoE hoE' p1 p2 p3 p17 p18 p19 plen i0 i1 i2
  rw [rounds_succ]
  go_wp2
  refine wp_loop_rounds 4 ?_
  rw [rounds_succ]
  go_wp2
  rw [rounds_succ]
  go_wp2
  rw [rounds_succ]
  go_wp2
  rw [rounds_succ]
  go_wp2
  obtain ⟨wF, hwF⟩ : ∃ wF, ((wE.setCell ⟨w.heap.size + 1 + 1, 17, none⟩ (.int .u8 (255 - s))).setCell ⟨w.heap.size + 1 + 1, 18, none⟩ (.int .u8 (255 - byt c 1))).setCell ⟨w.heap.size + 1 + 1, 19, none⟩ (.int .u8 (255 - byt c 0)) = wF := ⟨_, rfl⟩
  have hkF : HasBlk wF (w.heap.size + 1 + 1) 80 (part8 s c o x y z) := by rw [← hwF]; exact ((HkE.out.set _ _).set _ _).set _ _
  have hoF : OnlyBlk W1 wF (w.heap.size + 1 + 1) := by rw [← hwF]; exact ((HoE.out.trans (OnlyBlk.set _ _ _ _)).trans (OnlyBlk.set _ _ _ _)).trans (OnlyBlk.set _ _ _ _)
  rw [hwF]
  clear hwF e1 e2 e3 e17 e18 e19 q17 q18 q19
  have hck := chk_bd (frame20 s c o x y z)
  have hl8 : (part8 s c o x y z).length = 24 := by rw [part8_take]; rfl
  have HkF := Lib.hid hkF
  have HoF := Lib.hid hoF
  clear hkF hoF
  go_region_held3 (fun _ => True) (trivial)
    (first
      | ((go_at_call 108; refine (chk_fit _ _ _ 80 s c o x y z HG.out HkF.out.drew).mono ?_; rintro e w' ⟨rfl, rfl⟩))
      | ((go_at_call 147; refine (write4_blk _ _ 20 _ 80 _ (chkOf (frame20 s c o x y z)) HkF.out.drew (by omega) (by omega) (by omega)).mono ?_; rintro e wG ⟨rfl, hkG, hoG⟩)))
  have hoG' := HoF.out.trans hoG.drew
  rw [frame_eq] at hkG
  have hrG : wG.heap[w.heap.size + 1]? = some (.cells ((List.replicate 24 (Value.int .u8 0)).toArray) 80 (0, 0)) := (hoG'.1.block _ (by have := HZ.out; omega) (fun e => by have := Option.some.inj e; omega)).trans HR.out
  have hsG := hoG'.2
  have hbG := HB.out.trans (hoG'.below (by have := HZ.out; omega) (by omega))
  have Hk := Lib.hid hkG
  have Hr := Lib.hid hrG
  have Hb := Lib.hid hbG
  clear hoG hoG' hkG hrG hbG hsG
  go_wp2_with (first
    | (refine wpList_load_row rfl 80 (.tmp 3) rfl (w.heap.size + 1 + 1) rfl 80 _ (0, 0) _ Hk.out Tryz.underlying80 rfl ?i1 ?_)
    | (refine wpList_store_row rfl 80 (.tmp 2) (.tmp 62) rfl (w.heap.size + 1) rfl _ rfl 80 _ Hr.out ?i2 ?i3 ?i4 ?_))
  case i1 => rw [size24]; simp [frame_len]
  case i2 => simp [frame_len]
  case i3 => rw [size24]; simp [frame_len]
  case i4 => intro v hv; rfl
  go_wp2
  refine bodyPost_ret (v := .agg ((frame s c o x y z).map (Value.int .u8)).toArray) (results_cell_row Tryz.results97 _ _ (w.heap.size + 1) 80 _ (0, 0) _ rfl (setRow_heap wG _ _ _ _ _ Hr.out) Tryz.underlying80 rfl (by rw [size24]; simp [frame_len])) rfl ⟨rfl, ?_⟩
  exact Hb.out.trans ((OnlyBlk.setRow wG (w.heap.size + 1) _).below Hb.out.size (by omega))

/-- A telegram's bytes, with any seven behind them. -/
def rawF (s c o x y z : Int) (R : List Int) : List Int :=
  [77, s, byt c 1, byt c 0, o, byt (x + 1048576) 3, byt (x + 1048576) 2, byt (x + 1048576) 1, byt (x + 1048576) 0, byt (y + 1048576) 3, byt (y + 1048576) 2, byt (y + 1048576) 1, byt (y + 1048576) 0,
   byt (z + 1048576) 3, byt (z + 1048576) 2, byt (z + 1048576) 1, byt (z + 1048576) 0] ++ R
def tail7 (s c o x y z : Int) : List Int := [255 - s, 255 - byt c 1, 255 - byt c 0, byt (chkOf (frame20 s c o x y z)) 3, byt (chkOf (frame20 s c o x y z)) 2, byt (chkOf (frame20 s c o x y z)) 1, byt (chkOf (frame20 s c o x y z)) 0]
theorem frame_raw (s c o x y z : Int) : frame s c o x y z = rawF s c o x y z (tail7 s c o x y z) := rfl
theorem rawF_len (s c o x y z : Int) (R : List Int) (h : R.length = 7) : (rawF s c o x y z R).length = 24 := by simp [rawF, h]
theorem rawF_inj {s c o x y z : Int} {R R' : List Int} (h : rawF s c o x y z R = rawF s c o x y z R') : R = R' := List.append_cancel_left h

set_option maxRecDepth 100000 in
set_option maxHeartbeats 3200000 in
theorem telegramOf_raw (s c o x y z : Int) (R : List Int) (h : FitT s c o x y z) (w : World) :
    Calls Tryz.prog 98 #[.agg ((rawF s c o x y z R).map (Value.int .u8)).toArray] w fun e w' =>
      e = .returned (.agg #[.int .i64 s, .int .i64 c, .int .i64 o, .int .i64 x, .int .i64 y, .int .i64 z]) ∧ Below w.heap.size w w' := by
  obtain ⟨h1, h2, h3, h4, h5, h6⟩ := h
  go_enter Tryz.func98, Tryz.ntmps98
  go_wp2_with fail
  refine wp_region_still_tail 16 (by kernel_rfl) (by kernel_rfl) ?_
  simp only [List.take_succ_cons, List.take_zero, List.drop_succ_cons, List.drop_zero]
  obtain ⟨W1, hW1⟩ : ∃ W1, W1 = (((w.alloc (.cells ((rawF s c o x y z R).map (Value.int .u8)).toArray 80)).alloc (.cells #[.int .i64 0, .int .i64 0, .int .i64 0, .int .i64 0, .int .i64 0, .int .i64 0] 79)).drew) := ⟨_, rfl⟩
  change wpStill _ _ (((w.alloc (.cells ((rawF s c o x y z R).map (Value.int .u8)).toArray 80)).alloc (.cells #[.int .i64 0, .int .i64 0, .int .i64 0, .int .i64 0, .int .i64 0, .int .i64 0] 79)).drew) (fun a' => wpList _ _ _ _ a' (((w.alloc (.cells ((rawF s c o x y z R).map (Value.int .u8)).toArray 80)).alloc (.cells #[.int .i64 0, .int .i64 0, .int .i64 0, .int .i64 0, .int .i64 0, .int .i64 0] 79)).drew)) _ _
  rw [← hW1]
  have hk : HasBlk W1 w.heap.size 80 (rawF s c o x y z R) := by
    rw [hW1]
    have hn : (w.alloc (.cells ((rawF s c o x y z R).map (Value.int .u8)).toArray 80)).heap[w.heap.size]? = some (.cells ((rawF s c o x y z R).map (Value.int .u8)).toArray 80 (0, 0)) := heap_alloc_new w _
    show ((w.alloc _).alloc _).heap[w.heap.size]? = _
    rw [Below.heap_alloc _ _ _ (by simp)]
    exact hn
  have c1 := hk.cell (j := 1) (v := s) rfl
  have c4 := hk.cell (j := 4) (v := o) rfl
  have k1 := fun cp => (read_blk W1 w.heap.size 2 2 cp 80 _ [byt c 1, byt c 0] hk (by omega) rfl rfl (byt_in2 c)).mono fun e w' (h : _ ∧ _) => (⟨by rw [h.1, num2 c h2.1 h2.2], h.2.symm⟩ : e = .returned (.int .i64 c) ∧ w' = W1)
  have e4 := num4 (x + 1048576) (by omega) (by omega)
  have e5 := num4 (y + 1048576) (by omega) (by omega)
  have e6 := num4 (z + 1048576) (by omega) (by omega)
  have k4 := (part0_any W1 w.heap.size _ [byt (x + 1048576) 3, byt (x + 1048576) 2, byt (x + 1048576) 1, byt (x + 1048576) 0] hk rfl rfl (byt_in _) (by rw [e4]; omega)).mono fun e w' (h : _ ∧ _) => (⟨by rw [h.1, e4]; congr 2; omega, h.2⟩ : e = .returned (.int .i64 x) ∧ w' = W1)
  have k5 := (part1_any W1 w.heap.size _ [byt (y + 1048576) 3, byt (y + 1048576) 2, byt (y + 1048576) 1, byt (y + 1048576) 0] hk rfl rfl (byt_in _) (by rw [e5]; omega)).mono fun e w' (h : _ ∧ _) => (⟨by rw [h.1, e5]; congr 2; omega, h.2⟩ : e = .returned (.int .i64 y) ∧ w' = W1)
  have k6 := (part2_any W1 w.heap.size _ [byt (z + 1048576) 3, byt (z + 1048576) 2, byt (z + 1048576) 1, byt (z + 1048576) 0] hk rfl rfl (byt_in _) (by rw [e6]; omega)).mono fun e w' (h : _ ∧ _) => (⟨by rw [h.1, e6]; congr 2; omega, h.2⟩ : e = .returned (.int .i64 z) ∧ w' = W1)
  have K1 := Lib.hid k1
  have K4 := Lib.hid k4
  have K5 := Lib.hid k5
  have K6 := Lib.hid k6
  have HW1 := Lib.hid hW1
  clear k1 k4 k5 k6 h4 h5 h6 hW1 hk e4 e5 e6 h2
  repeat still_step
  still_call K1.out _
  repeat still_step
  still_call K4.out
  repeat still_step
  still_call K5.out
  repeat still_step
  still_call K6.out
  repeat still_step
  refine wpStill_nil ?_
  rw [HW1.out]
  go_wp2
  refine bodyPost_ret (v := .agg #[.int .i64 s, .int .i64 c, .int .i64 o, .int .i64 x, .int .i64 y, .int .i64 z]) (by simp [results, Tryz.results98, go_sem]) rfl ⟨rfl, ?_⟩
  go_grown

/-- Bytes come back from their number. -/
theorem num_byt4 (a b c d : Int) (ha : 0 ≤ a ∧ a ≤ 255) (hb : 0 ≤ b ∧ b ≤ 255) (hc : 0 ≤ c ∧ c ≤ 255) (hd : 0 ≤ d ∧ d ≤ 255) :
    byt (numOf [a, b, c, d]) 3 = a ∧ byt (numOf [a, b, c, d]) 2 = b ∧ byt (numOf [a, b, c, d]) 1 = c ∧ byt (numOf [a, b, c, d]) 0 = d ∧ 0 ≤ numOf [a, b, c, d] ∧ numOf [a, b, c, d] ≤ 4294967295 := by
  simp only [numOf, List.foldl_cons, List.foldl_nil, byt]
  refine ⟨?_, ?_, ?_, ?_, ?_, ?_⟩ <;> omega
theorem num_byt2 (a b : Int) (ha : 0 ≤ a ∧ a ≤ 255) (hb : 0 ≤ b ∧ b ≤ 255) : byt (numOf [a, b]) 1 = a ∧ byt (numOf [a, b]) 0 = b ∧ 0 ≤ numOf [a, b] ∧ numOf [a, b] ≤ 65535 := by
  simp only [numOf, List.foldl_cons, List.foldl_nil, byt]
  refine ⟨?_, ?_, ?_, ?_⟩ <;> omega

/-- Any 24 bytes that begin with the mark are such bytes. -/
theorem raw_of (f1 f2 f3 f4 a0 a1 a2 a3 b0 b1 b2 b3 c0 c1 c2 c3 : Int) (R : List Int) (h : ∀ v ∈ [f1, f2, f3, f4, a0, a1, a2, a3, b0, b1, b2, b3, c0, c1, c2, c3], 0 ≤ v ∧ v ≤ 255) :
    [77, f1, f2, f3, f4, a0, a1, a2, a3, b0, b1, b2, b3, c0, c1, c2, c3] ++ R = rawF f1 (numOf [f2, f3]) f4 (numOf [a0, a1, a2, a3] - 1048576) (numOf [b0, b1, b2, b3] - 1048576) (numOf [c0, c1, c2, c3] - 1048576) R ∧
      FitT f1 (numOf [f2, f3]) f4 (numOf [a0, a1, a2, a3] - 1048576) (numOf [b0, b1, b2, b3] - 1048576) (numOf [c0, c1, c2, c3] - 1048576) := by
  simp only [List.mem_cons, List.not_mem_nil, or_false, forall_eq_or_imp, forall_eq] at h
  obtain ⟨h1, h2, h3, h4, ha0, ha1, ha2, ha3, hb0, hb1, hb2, hb3, hc0, hc1, hc2, hc3⟩ := h
  obtain ⟨p1, p2, p3, p4⟩ := num_byt2 f2 f3 h2 h3
  obtain ⟨q1, q2, q3, q4, q5, q6⟩ := num_byt4 a0 a1 a2 a3 ha0 ha1 ha2 ha3
  obtain ⟨r1, r2, r3, r4, r5, r6⟩ := num_byt4 b0 b1 b2 b3 hb0 hb1 hb2 hb3
  obtain ⟨s1, s2, s3, s4, s5, s6⟩ := num_byt4 c0 c1 c2 c3 hc0 hc1 hc2 hc3
  refine ⟨?_, ⟨h1, ⟨p3, p4⟩, h4, by omega, by omega, by omega⟩⟩
  unfold rawF
  simp only [Int.sub_add_cancel]
  rw [p1, p2, q1, q2, q3, q4, r1, r2, r3, r4, s1, s2, s3, s4]
end Go.Proofs.YtfpagmalblmnkaaGreatDoor

/-
  Contracts of the reference's Checksum, Number and Bytes.
-/
namespace Go.Proofs.YtfpagmalblmnkaaGreatDoor
open Go.RowKit
set_option linter.unusedVariables false
set_option linter.unusedSimpArgs false

/-- The first so many of a number's bytes, the highest one first. -/
def bytesL (v : Int) (m k : Nat) : List Int := (List.range k).map (fun j => byt v (m - 1 - j))
theorem bytesL_succ (v : Int) (m k : Nat) : (bytesL v m (k + 1)).map (Value.int .u8) = (bytesL v m k).map (Value.int .u8) ++ [.int .u8 (byt v (m - 1 - k))] := by
  simp [bytesL, List.range_succ]
theorem bytesL_4 (v : Int) : bytesL v 4 4 = [byt v 3, byt v 2, byt v 1, byt v 0] := rfl
theorem bytesL_2 (v : Int) : bytesL v 2 2 = [byt v 1, byt v 0] := rfl
theorem pow_div (v : Int) (j : Nat) : v / 256 ^ j / 256 = v / 256 ^ (j + 1) := by
  rw [Int.pow_succ, Int.ediv_ediv_of_nonneg (Int.pow_nonneg (by decide))]
theorem pow_div_bd (v : Int) (j : Nat) (h0 : 0 ≤ v) (h1 : v ≤ 4294967295) : 0 ≤ v / 256 ^ j ∧ v / 256 ^ j ≤ 4294967295 := by
  have h : (0 : Int) < 256 ^ j := Int.pow_pos (by decide)
  exact ⟨Int.ediv_nonneg h0 (by omega), Int.le_trans (Int.ediv_le_self _ h0) h1⟩
theorem Tryz.infoByteH : (Tryz.prog.info? 5).map (fun i => (i.zero, i.size, i.bytes)) = some (some (.int .u8 0), 1, 1) := by kernel_rfl

end Go.Proofs.YtfpagmalblmnkaaGreatDoor

/-
  Contract of the reference's Pack for a right map: the bytes of its stream.
-/
namespace Go.Proofs.YtfpagmalblmnkaaGreatDoor
open Go.RowKit
set_option linter.unusedVariables false
set_option linter.unusedSimpArgs false

theorem smp_of_zero : Smp 0 0 := by have h := smpOf_smp 0 (by decide); rwa [smpOf_zero] at h
theorem order_zero {x : Nat} (h : Smp x 0) : (FloatKind.f32.format.order x 0 != some .eq) = false := order_eq_neq h smp_of_zero
theorem order_nonzero {x : Nat} {k : Int} (h : Smp x k) (hk : k ≠ 0) : (FloatKind.f32.format.order x 0 != some .eq) = true := by
  have e : Ieee.single.order x 0 = some (compare k 0) := h.order smp_of_zero
  show (Ieee.single.order x 0 != some .eq) = true
  rw [e]
  have e2 : compare k 0 ≠ .eq := by
    show compareOfLessAndEq k 0 ≠ .eq
    unfold compareOfLessAndEq
    split
    · simp
    · simp [hk]
  cases h2 : compare k 0 <;> simp_all
theorem one_bytes (L : List Int) : ∀ u ∈ L.map (Value.int .u8), u.oneCell' = true := by
  intro u hu; obtain ⟨y, _, rfl⟩ := List.mem_map.1 hu; rfl
theorem row_cells {w : World} {B : Nat} {T : TypeId} {x y z : Value} (h : w.heap[B]? = some (.cells #[x, y, z] T (0, 0))) :
    w.cell? ⟨B, 0, none⟩ = some x ∧ w.cell? ⟨B, 1, none⟩ = some y ∧ w.cell? ⟨B, 2, none⟩ = some z :=
  ⟨by rw [cell_of_row w _ 0 _ _ (0, 0) h]; rfl, by rw [cell_of_row w _ 1 _ _ (0, 0) h]; rfl, by rw [cell_of_row w _ 2 _ _ (0, 0) h]; rfl⟩
theorem word_bytes (v : Int) : bytesL v 4 4 = wordOf v := rfl
theorem run_toInt32 (d : Nat) : ∀ w : World, (convert 184 3 (.int .u32 d)).run Tryz.prog w = .ok (.int .i64 (IntKind.i64.wrap d)) w := fun w => by
  have hs := Tryz.underlying184
  have hd := Tryz.underlying3
  simp [convert, run_underlying hs, run_underlying hd, Conv.intToInt]

end Go.Proofs.YtfpagmalblmnkaaGreatDoor

/-
  Contract of small for every map: whether it is right, has at most 160 samples, and none above a bound.
-/
namespace Go.Proofs.YtfpagmalblmnkaaGreatDoor
open Go.RowKit
set_option linter.unusedVariables false
set_option linter.unusedSimpArgs false

theorem order_lt {x y : Nat} {k l : Int} (hx : Smp x k) (hy : Smp y l) : (FloatKind.f32.format.order x y == some .lt) = decide (k < l) := by
  have e : Ieee.single.order x y = some (compare k l) := hx.order hy
  show (Ieee.single.order x y == some .lt) = decide (k < l)
  rw [e]
  have h : (compare k l = .lt) ↔ k < l := by
    show compareOfLessAndEq k l = .lt ↔ _
    unfold compareOfLessAndEq
    split
    · simp_all
    · split <;> simp_all
  by_cases hk : k < l
  · rw [decide_eq_true hk, h.2 hk]; rfl
  · rw [decide_eq_false hk]
    cases h2 : compare k l
    · exact absurd (h.1 h2) hk
    · rfl
    · rfl

theorem ret_boolK {a b : Bool} (h : a = b) : Ending.returned (.bool a) = .returned (.bool b) := by rw [h]
def smallB (W H : Int) (n : Nat) (xs : List Nat) (M : Nat) : Bool := decide (mapErr W H n xs = 0 ∧ n ≤ 160 ∧ ∀ j, j < n → (kOf (xs[j]?.getD 0)).natAbs ≤ M)

set_option maxRecDepth 100000 in
set_option maxHeartbeats 3200000 in
theorem small_all (mw mn M : Nat) (hp : Smp mw M) (hm : Smp mn (-(M : Int))) (hneg : ∀ w : World, (Op.unary .neg (.float .f32 mw)).run Tryz.prog w = .ok (.float .f32 mn) w)
    (W H : Int) (a : Option Addr) (n c : Nat) (xs : List Nat) (w : World) (hM : AnyMap w a n c xs) :
    Calls Tryz.prog 23 #[.agg #[.int .i64 W, .int .i64 H, .slice a n c], .float .f32 mw] w fun e w' => e = .returned (.bool (smallB W H n xs M)) ∧ Below w.heap.size w w' := by
  obtain ⟨W0, hW0⟩ : ∃ W0, w.alloc (.cells #[.int .i64 W, .int .i64 H, .slice a n c] 41) = W0 := ⟨_, rfl⟩
  have hB0 : Below w.heap.size w W0 := by rw [← hW0]; exact (Below.refl _ w).alloc (Nat.le_refl _) _
  have r0 : W0.heap[w.heap.size]? = some (.cells #[.int .i64 W, .int .i64 H, .slice a n c] 41 (0, 0)) := by rw [← hW0]; exact blk_alloc_new _ _
  obtain ⟨z0, z1, z2⟩ := row_cells r0
  obtain ⟨er, her⟩ : ∃ er, mapErr W H n xs = er := ⟨_, rfl⟩
  have K0 := refCheckMap_map W H a n c xs W0 (hM.below hB0 (Nat.le_refl _))
  rw [her] at K0
  have K := Lib.hid K0
  have HB0 := Lib.hid hB0
  have HR0 := Lib.hid r0
  have HM := Lib.hid hM
  have HER := Lib.hid her
  have HP := Lib.hid hp
  have HN := Lib.hid hm
  clear hB0 r0 hM K0 her hp hm
  by_cases h0 : er = 0
  · have e0 : (er != 0) = false := by simp [h0]
    by_cases h1 : n ≤ 160
    · have i1 : ¬ ((160 : Int) < (n : Int)) := by omega
      have H0 := Lib.hid h0
      clear h0
      go_enter Tryz.func23, Tryz.ntmps23
      go_upto_region 1 with fail
      try rw [hW0]
      clear hW0
      go_upto_if 15 with (go_at_call 19; with_reducible refine K.out.mono ?_; rintro e w1 ⟨rfl, hb1⟩; have r1 := (hb1.block _ (lt_of_blk HR0.out)).trans HR0.out; have hb1' := HB0.out.trans (hb1.mono HB0.out.size); obtain ⟨y0, y1, y2⟩ := row_cells r1)
      have HB1 := Lib.hid hb1'
      have HR1 := Lib.hid r1
      clear hb1 hb1' r1 z0 z1 z2
      go_wp2_with fail
      go_loop [19] (fun i => ∃ k : Nat, k ≤ n ∧ i = .int .i64 k ∧ Hid (∀ j, j < k → (kOf (xs[j]?.getD 0)).natAbs ≤ M)) (fun i => n - (intOf i).toNat)
      case atStart => exact ⟨0, Nat.zero_le _, rfl, Lib.hid fun j hj => absurd hj (by omega)⟩
      case round =>
        obtain ⟨k, hk, rfl, hh⟩ := hrel
        by_cases hlt : k < n
        · obtain ⟨b, o, rfl, hb, hcc⟩ := HM.out.cells k hlt
          have hcell : w1.cell? ⟨b, o + k, none⟩ = some (.float .f32 (xs[k]?.getD 0)) := (HB1.out.cell (by exact hb)).trans (hcc k hlt)
          have hs := (smp_kOf (mapErr_smps HM.out.len (HER.out.trans H0.out) k hlt)).1
          have t1 := order_gt hs HP.out
          have t2 := order_lt hs HN.out
          obtain ⟨x, hx⟩ : ∃ x, xs[k]?.getD 0 = x := ⟨_, rfl⟩
          have HX := Lib.hid hx
          rw [hx] at hcell t1 t2
          have t1' : (FloatKind.f32.format.order x mw == some .gt) = decide ((M : Int) < kOf x) := t1
          clear t1 hs hcc hx
          by_cases hbad : (kOf x).natAbs ≤ M
          · have u1 : (FloatKind.f32.format.order x mw == some .gt) = false := by rw [t1']; simp; omega
            have u2 : (FloatKind.f32.format.order x mn == some .lt) = false := by rw [t2]; simp; omega
            have HBAD := Lib.hid hbad
            clear t1' t2 hbad
            go_wp2_with fail
            go_round
            case rel => exact ⟨k + 1, by omega, by go_num, Lib.hid fun j hj => by
              by_cases hjk : j < k
              · exact hh.out j hjk
              · obtain rfl : j = k := by omega
                rw [HX.out]; exact HBAD.out⟩
            case measure => simp [intOf]; omega
          · have hfalse : smallB W H n xs M = false := decide_eq_false fun h => hbad (by rw [← HX.out]; exact h.2.2 k hlt)
            have HF := Lib.hid hfalse
            by_cases hg : (M : Int) < kOf x
            · have u1 : (FloatKind.f32.format.order x mw == some .gt) = true := by rw [t1']; simp; omega
              clear t1' t2 hbad hfalse hg
              go_wp2_with fail
              go_ret
              exact ⟨ret_boolK HF.out.symm, HB1.out⟩
            · have u1 : (FloatKind.f32.format.order x mw == some .gt) = false := by rw [t1']; simp; omega
              have u2 : (FloatKind.f32.format.order x mn == some .lt) = true := by rw [t2]; simp; omega
              clear t1' t2 hbad hfalse hg
              go_wp2_with fail
              go_ret
              exact ⟨ret_boolK HF.out.symm, HB1.out⟩
        · obtain rfl : k = n := by omega
          have htrue : smallB W H k xs M = true := decide_eq_true ⟨HER.out.trans H0.out, h1, hh.out⟩
          have HT := Lib.hid htrue
          clear htrue
          go_wp2_with fail
          go_ret
          exact ⟨ret_boolK HT.out.symm, HB1.out⟩
    · have i1 : (160 : Int) < (n : Int) := by omega
      have hfalse : smallB W H n xs M = false := decide_eq_false fun h => h1 h.2.1
      have HF := Lib.hid hfalse
      clear h0 hfalse h1
      go_enter Tryz.func23, Tryz.ntmps23
      go_upto_region 1 with fail
      try rw [hW0]
      clear hW0
      go_wp2_with (go_at_call 19; with_reducible refine K.out.mono ?_; rintro e w1 ⟨rfl, hb1⟩; have r1 := (hb1.block _ (lt_of_blk HR0.out)).trans HR0.out; have HB1 := Lib.hid (HB0.out.trans (hb1.mono HB0.out.size)); obtain ⟨y0, y1, y2⟩ := row_cells r1; clear hb1)
      go_ret
      exact ⟨ret_boolK HF.out.symm, HB1.out⟩
  · have e0 : (er != 0) = true := by simp [h0]
    have hfalse : smallB W H n xs M = false := decide_eq_false fun h => h0 (HER.out.symm.trans h.1)
    have HF := Lib.hid hfalse
    clear h0 hfalse
    go_enter Tryz.func23, Tryz.ntmps23
    go_upto_region 1 with fail
    try rw [hW0]
    clear hW0
    go_wp2_with (go_at_call 19; with_reducible refine K.out.mono ?_; rintro e w1 ⟨rfl, hb1⟩; have HB1 := Lib.hid (HB0.out.trans (hb1.mono HB0.out.size)); clear hb1)
    go_ret
    exact ⟨ret_boolK HF.out.symm, HB1.out⟩

theorem smp400 : Smp 1137180672 ((6400 : Nat) : Int) := ⟨false, ⟨13107200, -15, by decide +kernel, by decide, by decide, by decide +kernel⟩, by decide, by decide⟩
theorem smpN400 : Smp 3284664320 (-((6400 : Nat) : Int)) := ⟨true, ⟨13107200, -15, by decide +kernel, by decide, by decide, by decide +kernel⟩, by decide, by decide⟩
theorem neg400 : ∀ w : World, (Op.unary .neg (.float .f32 1137180672)).run Tryz.prog w = .ok (.float .f32 3284664320) w := fun w => by kernel_rfl
end Go.Proofs.YtfpagmalblmnkaaGreatDoor

/-
  Arguments that are arrays of bytes, opened.
-/
namespace Go.Proofs.YtfpagmalblmnkaaGreatDoor
open Go.ChangeShapes Go.WideShapes Go.ChangeAt Go.RowKit Go.Joins Go.Deep
set_option linter.unusedVariables false
set_option linter.unusedSimpArgs false
set_option maxRecDepth 100000

theorem openByteArr {H : Type} {enc : TypeId × Value → H} {W : World} {b0 : Nat} {t n e : Nat} {v : Value} {d : DataW H} {p : List MemPlace} (ht : Tryz.prog.underlying t = some (.array n e)) (he : Tryz.prog.underlying e = some (.int .u8)) (hc : Tryz.prog.cellsOf t = n) (hce : Tryz.prog.cellsOf e = 1)
    (hv : Value.okWide Tryz.prog W .any b0 t v) (h : DataW.Trod enc Tryz.prog W 0 (fun _ => true) true t v d p) : ∃ l : List Int, l.length = n ∧ (∀ z ∈ l, 0 ≤ z ∧ z ≤ 255) ∧ v = .agg (l.map (Value.int .u8)).toArray := by
  obtain ⟨cs, rfl, hsz⟩ := okWide_arr ht hv
  obtain ⟨fuel, hf⟩ := h
  obtain ⟨xs, m, _, _, _, hl, hi⟩ := DataW.trod_array ht hf
  have e1' : IntKind.u8.min = 0 := by rfl
  have e2' : IntKind.u8.max = 255 := by rfl
  have key : ∀ i, i < n → ∃ z : Int, cs.toList[i]? = some (.int .u8 z) ∧ 0 ≤ z ∧ z ≤ 255 := by
    intro i hlt
    have h := hi i hlt
    rw [hce, Nat.mul_one] at h
    simp only [Value.cells] at h
    obtain ⟨y, hy⟩ : ∃ y, xs[i]? = some y := ⟨_, List.getElem?_eq_getElem (by omega)⟩
    rw [hy] at h
    have hli : i < cs.toList.length := by rw [Array.length_toList]; omega
    have e1 : (cs.toList.drop i).take 1 = [cs.toList[i]] := by
      rw [List.drop_eq_getElem_cons hli]; rfl
    rw [e1] at h
    obtain ⟨X, e0, _, hw⟩ := DataW.trod_int he h
    simp only [List.cons.injEq, and_true] at e0
    simp only [Lit.wf, Bool.and_eq_true, decide_eq_true_eq, e1', e2'] at hw
    exact ⟨X, by rw [List.getElem?_eq_getElem hli, e0], hw.1, hw.2⟩
  refine ⟨(List.range n).map (fun i => match cs.toList[i]? with | some (Value.int _ z) => z | _ => (0 : Int)), by simp, ?_, ?_⟩
  · intro z hz
    obtain ⟨i, hi', rfl⟩ := List.mem_map.1 hz
    obtain ⟨y, hy, h1, h2⟩ := key i (List.mem_range.1 hi')
    rw [hy]
    exact ⟨h1, h2⟩
  · congr 1
    apply Array.ext'
    refine List.ext_getElem? fun i => ?_
    simp only [List.map_map, List.getElem?_map]
    by_cases hi' : i < n
    · obtain ⟨z, hz, _, _⟩ := key i hi'
      rw [hz, List.getElem?_range hi']
      have hz2 : cs[i]? = some (.int .u8 z) := by simpa using hz
      simp [hz2]
    · have h1 : cs.toList[i]? = none := by rw [List.getElem?_eq_none]; rw [Array.length_toList]; omega
      have h2 : (List.range n)[i]? = none := by rw [List.getElem?_eq_none]; simp; omega
      rw [h1, h2]; rfl
theorem openBytes2 {H : Type} {enc : TypeId × Value → H} {W : World} {b0 : Nat} {v : Value} {d : DataW H} {p : List MemPlace}
    (hv : Value.okWide Tryz.prog W .any b0 55 v) (h : DataW.Trod enc Tryz.prog W 0 (fun _ => true) true 55 v d p) :
    ∃ x y : Int, v = .agg #[.int .u8 x, .int .u8 y] ∧ (0 ≤ x ∧ x ≤ 255) ∧ (0 ≤ y ∧ y ≤ 255) := by
  obtain ⟨l, hl, hb, rfl⟩ := openByteArr Tryz.underlying55 Tryz.underlying5 (by kernel_rfl) (by kernel_rfl) hv h
  match l, hl with
  | [x, y], _ => exact ⟨x, y, rfl, hb x (by simp), hb y (by simp)⟩
end Go.Proofs.YtfpagmalblmnkaaGreatDoor

/-
  LightBins returns true for all arguments.
-/
namespace Go.Proofs.YtfpagmalblmnkaaGreatDoor
open Go.ChangeShapes Go.WideShapes Go.ChangeAt Go.RowKit Go.Joins Go.Deep Go.Shelf
set_option linter.unusedVariables false
set_option linter.unusedSimpArgs false
set_option maxRecDepth 100000

set_option maxRecDepth 1000000 in
set_option maxHeartbeats 25600000 in
theorem bins_walk (w : World) (W H b o n c : Nat) (ks : List Int) (hR : RM w W H n ks b o) (hsz : ∀ j, j < n → (ks[j]?.getD 0).natAbs ≤ 96) (h160 : n ≤ 160) (hcap : n ≤ c) (n0 n1 : Int) (hn0 : 0 ≤ n0 ∧ n0 ≤ 255) (hn1 : 0 ≤ n1 ∧ n1 ≤ 255)
    (hsm : ∀ w1 : World, Below w.heap.size w w1 → Calls Tryz.prog 23 #[.agg #[.int .i64 W, .int .i64 H, .slice (some ⟨b, o, none⟩) n c], .float .f32 1086324736] w1 fun e w' => e = .returned (.bool true) ∧ Below w1.heap.size w1 w') (ht : TabAt w) :
    Calls Tryz.prog 5 #[.agg #[.int .i64 W, .int .i64 H, .slice (some ⟨b, o, none⟩) n c], .agg #[.int .u8 n0, .int .u8 n1]] w (TruePost w) := by
  have KS := Lib.hid hsm
  have HT := Lib.hid ht
  have HR := Lib.hid hR
  have HSZ := Lib.hid hsz
  obtain ⟨a0, ha0⟩ : ∃ a0, n0.toNat % 4 = a0 := ⟨_, rfl⟩
  obtain ⟨a1, ha1⟩ : ∃ a1, n1.toNat % 4 = a1 := ⟨_, rfl⟩
  have ea0 : n0.tmod 4 = (a0 : Int) := by
    rw [Int.tmod_eq_emod_of_nonneg hn0.1, ← ha0]; omega
  have ea1 : n1.tmod 4 = (a1 : Int) := by
    rw [Int.tmod_eq_emod_of_nonneg hn1.1, ← ha1]; omega
  obtain ⟨A, hA⟩ : ∃ A, 1 + a0 = A := ⟨_, rfl⟩
  obtain ⟨Bc, hB⟩ : ∃ Bc, 1 + a1 = Bc := ⟨_, rfl⟩
  have eA : IntKind.i64.wrap (1 + (a0 : Int)) = (A : Int) := by rw [show 1 + (a0 : Int) = (A : Int) by omega]; exact IntWalk.i64_in _ ⟨by omega, by omega⟩
  have eB : IntKind.i64.wrap (1 + (a1 : Int)) = (Bc : Int) := by rw [show 1 + (a1 : Int) = (Bc : Int) by omega]; exact IntWalk.i64_in _ ⟨by omega, by omega⟩
  have wn0 : IntKind.i64.wrap n0 = n0 := IntWalk.i64_in _ ⟨by omega, by omega⟩
  have wn1 : IntKind.i64.wrap n1 = n1 := IntWalk.i64_in _ ⟨by omega, by omega⟩
  have wa0 : IntKind.i64.wrap (a0 : Int) = (a0 : Int) := IntWalk.i64_in _ ⟨by omega, by omega⟩
  have wa1 : IntKind.i64.wrap (a1 : Int) = (a1 : Int) := IntWalk.i64_in _ ⟨by omega, by omega⟩
  have hA4 : 1 ≤ A ∧ A ≤ 4 := by omega
  have hB4 : 1 ≤ Bc ∧ Bc ≤ 4 := by omega
  obtain ⟨W0, hW0⟩ : ∃ W0, (w.alloc (.cells #[.int .i64 W, .int .i64 H, .slice (some ⟨b, o, none⟩) n c] 41)).alloc (.cells #[.int .u8 n0, .int .u8 n1] 55) = W0 := ⟨_, rfl⟩
  have K0 : Kp w W0 [(w.heap.size + 1, (.cells #[.int .u8 n0, .int .u8 n1] 55 (0, 0))), (w.heap.size, (.cells #[.int .i64 W, .int .i64 H, .slice (some ⟨b, o, none⟩) n c] 41 (0, 0)))] := by
    rw [← hW0]
    have k := ((Kp.none w).alloc (.cells #[.int .i64 W, .int .i64 H, .slice (some ⟨b, o, none⟩) n c] 41)).alloc (.cells #[.int .u8 n0, .int .u8 n1] 55)
    simpa using k
  have HK0 := Lib.hid K0
  obtain ⟨z0, z1, z2⟩ := cells3 (HK0.out.2 _ (.tail _ (.head _)))
  clear hsm K0 ha0 ha1 hA hB ht hR hsz
  go_enter Tryz.func5, Tryz.ntmps5
  go_upto_region 1 with fail
  try rw [hW0]
  clear hW0
  go_upto_region 3 with (first
    | (go_at_call 23; with_reducible refine (KS.out _ (Kp.below HK0.out)).mono ?_; rintro e w1 ⟨rfl, hb1⟩;
       have K1 := Lib.hid (HK0.out.call hb1); clear hb1))
  clear z0 z1 z2
  obtain ⟨c0, c1⟩ := cells2 (K1.out.2 _ (.head _))
  go_cut [5, 6] (fun s5 s6 wc => s5 = .int .i64 (A : Nat) ∧ s6 = .int .i64 (Bc : Nat) ∧ Kp w wc [(w.heap.size, (.cells #[.int .i64 W, .int .i64 H, .slice (some ⟨b, o, none⟩) n c] 41 (0, 0)))])
  case first =>
    have F : Hid (Kp w w1.drew [(w.heap.size, (.cells #[.int .i64 W, .int .i64 H, .slice (some ⟨b, o, none⟩) n c] 41 (0, 0)))]) := Lib.hid (Kp.drew (K1.out.subs fun p hp => .tail _ hp))
    go_region_held3 (fun w' => w'.cell? ⟨w.heap.size + 1, 0, none⟩ = some (.int .u8 n0) ∧ w'.cell? ⟨w.heap.size + 1, 1, none⟩ = some (.int .u8 n1))
      (first | (go_keep; done) | (go_split_ands; refine ⟨?_, ?_⟩ <;> (simp [go_sem, *]; done)))
      (fail)
    all_goals go_wp2_with fail
    all_goals go_meet
    all_goals exact ⟨rfl, rfl, F.out⟩
  case rest =>
    rename_i hK
    obtain ⟨rfl, rfl, hk⟩ := hcut
    have K8 := Lib.hid hk
    clear hk K1 HK0 KS c0 c1
    refine hK _ _ ?_
    clear hK
    exact bins4 w W H b o n c ks HR.out HSZ.out h160 hcap n0 n1 A Bc hA4 hB4 _ HT.out _ _ _ _ _ _ _ _ _ _ _ _ _ _ _ _ _ _ _ _ _ _ _ _ _ _ _ _ _ _ _ _ _ _ _ _ _ _ _ _ _ _ _ _ _ _ _ _ _ _ _ _ _ _ _ _ _ _ _ _ _ _ _ _ _ _ _ _ _ _ _ _ _ _ _ _ _ _ _ _ _ _ _ _ _ _ _ _ _ _ _ _ _ _ _ _ _ _ _ _ _ _ _ _ _ _ _ _ _ _ _ _ _ _ _ _ _ _ _ _ _ _ _ _ _ _ _ _ _ _ _ _ _ _ _ _ _ _ _ _ _ _ _ _ _ _ _ _ _ _ _ _ _ _ _ _ _ _ _ _ _ _ _ _ _ _ _ _ _ _ _ _ _ _ _ _ _ _ _ _ _ _ _ _ _ _ _ _ _ _ _ _ _ _ _ _ _ _ _ _ _ _ _ _ _ _ _ _ _ _ _ _ _ _ _ _ _ _ _ _ _ _ _ _ _ _ _ _ _ _ _ _ _ _ _ _ _ _ _ _ _ _ _ _ _ _ _ _ _ _ _ _ _ _ _ _ _ _ _ _ _ _ _ _ _ _ _ _ _ _ _ K8.out

theorem smp6 : Smp 1086324736 ((96 : Nat) : Int) := by
  rw [show (1086324736 : Nat) = smpOf ((96 : Nat) : Int) from by decide +kernel]; exact smpOf_smp _ (by decide)
theorem smpN6 : Smp 3233808384 (-((96 : Nat) : Int)) := by
  rw [show (3233808384 : Nat) = smpOf (-((96 : Nat) : Int)) from by decide +kernel]; exact smpOf_smp _ (by decide)
theorem neg6 : ∀ w : World, (Op.unary .neg (.float .f32 1086324736)).run Tryz.prog w = .ok (.float .f32 3233808384) w := fun w => by kernel_rfl

/-- A map that comes in, opened: whatever its length; its capacity is not below it. -/
theorem openMapC {H : Type} {enc : TypeId × Value → H} {W : World} {b0 : Nat} {v : Value} {d : DataW H} {p : List MemPlace}
    (hv : Value.okWide Tryz.prog W .any b0 41 v) (h : DataW.Trod enc Tryz.prog W 0 (fun _ => true) true 41 v d p) :
    ∃ (X Y : Int) (a : Option Addr) (n c : Nat) (xs : List Nat), v = .agg #[.int .i64 X, .int .i64 Y, .slice a n c] ∧ n ≤ c ∧ AnyMap W a n c xs := by
  obtain ⟨X, Y, a, n, c, xs, rfl, hM⟩ := openMap hv h
  obtain ⟨c0, c1, c2, y0, y1, y2, k, e0, rfl, rfl, h0, h1, h2⟩ := open_agg3 Tryz.underlying41 (by kernel_rfl) cellsMap hv h
  simp at e0
  obtain ⟨rfl, rfl, rfl⟩ := e0
  refine ⟨X, Y, a, n, c, xs, rfl, ?_, hM⟩
  rcases open_slice1 Tryz.underlying33 cellsF h2 with ⟨hcs, rfl⟩ | ⟨a', n', c', m, f, V, D, Pl, hcs, _, hl, hm, hmm, rfl, hx⟩
  · simp at hcs
    obtain ⟨rfl, rfl, rfl⟩ := hcs
    exact Nat.le_refl _
  · simp at hcs
    obtain ⟨rfl, rfl, rfl⟩ := hcs
    exact hl

set_option maxHeartbeats 3200000 in
theorem bins_all (w : World) (W H : Int) (a : Option Addr) (n c : Nat) (xs : List Nat) (n0 n1 : Int) (hn0 : 0 ≤ n0 ∧ n0 ≤ 255) (hn1 : 0 ≤ n1 ∧ n1 ≤ 255) (ht : TabAt w) (hcap : n ≤ c) (hM : AnyMap w a n c xs) :
    Calls Tryz.prog 5 #[.agg #[.int .i64 W, .int .i64 H, .slice a n c], .agg #[.int .u8 n0, .int .u8 n1]] w (TruePost w) := by
  have KS : ∀ w1 : World, Below w.heap.size w w1 → Calls Tryz.prog 23 #[.agg #[.int .i64 W, .int .i64 H, .slice a n c], .float .f32 1086324736] w1 fun e w' => e = .returned (.bool (smallB W H n xs 96)) ∧ Below w1.heap.size w1 w' := fun w1 h =>
    small_all 1086324736 3233808384 96 smp6 smpN6 neg6 W H a n c xs w1 (hM.below h (Nat.le_refl _))
  by_cases hb : smallB W H n xs 96 = true
  · rw [hb] at KS
    obtain ⟨h0, h1, h2⟩ := of_decide_eq_true hb
    have hK : ∀ j, j < n → ((xs.map kOf)[j]?.getD 0).natAbs ≤ 96 := fun j hj => by
      rw [List.getElem?_map, List.getElem?_eq_getElem (by have := hM.len; omega)]
      have h := h2 j hj
      rw [List.getElem?_eq_getElem (by have := hM.len; omega)] at h
      exact h
    obtain ⟨Wn, Hn, b, o, rfl, rfl, rfl, hR⟩ := rm_of_any hM h0
    exact bins_walk w Wn Hn b o n c _ hR hK h1 hcap n0 n1 hn0 hn1 KS ht
  · rw [Bool.eq_false_iff.2 hb] at KS
    have KW : Hid (∀ w1 : World, Below w.heap.size w w1 → Calls Tryz.prog 14 #[] w1 fun e w' => e = .returned (.bool true) ∧ Below w.heap.size w w') :=
      Lib.hid fun w1 h => (awake_any w1 (ht.on h)).mono fun e w' ⟨he, hb⟩ => ⟨he, h.trans (hb.mono h.size)⟩
    have HS := Lib.hid KS
    have hB0 : Below w.heap.size w ((w.alloc (.cells #[.int .i64 W, .int .i64 H, .slice a n c] 41)).alloc (.cells #[.int .u8 n0, .int .u8 n1] 55)) := ((Below.refl _ w).alloc (Nat.le_refl _) _).alloc (by simp) _
    have HB0 := Lib.hid hB0
    clear hB0 KS hb hM ht
    go_enter Tryz.func5, Tryz.ntmps5
    go_wp2_with (first
      | (go_at_call 23; refine (HS.out _ HB0.out).mono ?_; rintro e w1 ⟨rfl, hb1⟩; have HB1 := Lib.hid (HB0.out.trans (hb1.mono HB0.out.size)); clear hb1)
      | (go_at_call 14; refine (KW.out _ HB1.out).mono ?_; rintro e w2 ⟨rfl, hb2⟩))
    go_ret
    exact ⟨rfl, hb2⟩
end Go.Proofs.YtfpagmalblmnkaaGreatDoor
