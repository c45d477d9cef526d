/-
  Contracts of frameOf for telegrams whose numbers fit into their bytes, and of telegramOf for any bytes.
-/
import Derived.Test.YtfdkmmllemkogaaGreatDoorOWs
namespace Go.Proofs.YtfdkmmllemkogaaGreatDoor
open Go.RowKit
set_option linter.unusedVariables false
set_option linter.unusedSimpArgs false

/-- The numbers of a telegram fit into their bytes. -/
structure FitT (s c o x y z : Int) : Prop where
  st : 0 ≤ s ∧ s ≤ 255
  ct : 0 ≤ c ∧ c ≤ 65535
  od : 0 ≤ o ∧ o ≤ 255
  vx : -1048576 ≤ x ∧ x ≤ 4293918719
  vy : -1048576 ≤ y ∧ y ≤ 4293918719
  vz : -1048576 ≤ z ∧ z ≤ 4293918719

theorem frame20_fit {s c o x y z : Int} (h : FitT s c o x y z) : ∀ j, j < 20 → 0 ≤ (frame20 s c o x y z)[j]?.getD 0 ∧ (frame20 s c o x y z)[j]?.getD 0 ≤ 255 := by
  obtain ⟨h1, h2, h3, h4, h5, h6⟩ := h
  have b := byt_bd
  intro j hj
  rcases lt20 hj with rfl | rfl | rfl | rfl | rfl | rfl | rfl | rfl | rfl | rfl | rfl | rfl | rfl | rfl | rfl | rfl | rfl | rfl | rfl | rfl
  all_goals first
    | exact b _ _
    | exact h1
    | exact h3
    | (have := b c 1; have := b c 0; simp [frame20]; try omega)

theorem chk_fit (w : World) (f cp : Nat) (T : TypeId) (s c o x y z : Int) (g : FitT s c o x y z) (h : HasBlk w f T (part8 s c o x y z)) :
    Calls Tryz.prog 177 #[.slice (some ⟨f, 0, none⟩) 20 cp] w fun e w' => e = .returned (.int .i64 (chkOf (frame20 s c o x y z))) ∧ w = w' :=
  checksum_any f 0 20 cp (frame20 s c o x y z) w rfl (by omega) (frame20_fit g) (fun j hj => by
    rw [Nat.zero_add]
    refine h.cell ?_
    rw [part8_take, List.getElem?_append_left (by rw [frame20_len]; exact hj), List.getElem?_eq_getElem (by rw [frame20_len]; exact hj)]; rfl)

set_option maxRecDepth 100000 in
set_option maxHeartbeats 6400000 in
theorem frameOf_fit (s c o x y z : Int) (h : FitT s c o x y z) (w : World) :
    Calls Tryz.prog 163 #[.agg #[.int .i64 s, .int .i64 c, .int .i64 o, .int .i64 x, .int .i64 y, .int .i64 z]] w fun e w' =>
      e = .returned (.agg ((frame s c o x y z).map (Value.int .u8)).toArray) ∧ Below w.heap.size w w' := by
  have HG := Lib.hid h
  obtain ⟨h1, h2, h3, h4, h5, h6⟩ := h
  have g1 := byt_bd c 1
  have g0 := byt_bd c 0
  have i0 : ∀ w, (Instr.index 261 (.agg #[.int .i64 x, .int .i64 y, .int .i64 z]) (.int .i64 0)).run Tryz.prog w = .ok (.int .i64 x) w := fun _ => by kernel_rfl
  have i1 : ∀ w, (Instr.index 261 (.agg #[.int .i64 x, .int .i64 y, .int .i64 z]) (.int .i64 1)).run Tryz.prog w = .ok (.int .i64 y) w := fun _ => by kernel_rfl
  have i2 : ∀ w, (Instr.index 261 (.agg #[.int .i64 x, .int .i64 y, .int .i64 z]) (.int .i64 2)).run Tryz.prog w = .ok (.int .i64 z) w := fun _ => by kernel_rfl
  go_enter Tryz.func163, Tryz.ntmps163
  go_wp2_with fail
  obtain ⟨W1, hW1⟩ : ∃ W1, (((w.alloc (.cells #[.int .i64 s, .int .i64 c, .int .i64 o, .int .i64 x, .int .i64 y, .int .i64 z] 112)).alloc (.cells ((List.replicate 24 (Value.int .u8 0)).toArray) 108)).alloc (.cells (((part0 s).map (Value.int .u8)).toArray) 108)) = W1 := ⟨_, rfl⟩
  have hB1 : Below w.heap.size w W1 := by rw [← hW1]; go_grown
  have z1 : W1.heap.size = w.heap.size + 3 := by rw [← hW1]; simp
  have r1 : W1.heap[w.heap.size + 1]? = some (.cells ((List.replicate 24 (Value.int .u8 0)).toArray) 108 (0, 0)) := by
    rw [← hW1, Below.heap_alloc _ _ _ (by simp)]
    exact heap_alloc2_new w _ _
  have hk1 : HasBlk W1 (w.heap.size + 1 + 1) 108 (part0 s) := by
    rw [← hW1]
    have h := heap_alloc2_new (w.alloc (.cells #[.int .i64 s, .int .i64 c, .int .i64 o, .int .i64 x, .int .i64 y, .int .i64 z] 112)) (.cells ((List.replicate 24 (Value.int .u8 0)).toArray) 108) (.cells (((part0 s).map (Value.int .u8)).toArray) 108)
    simpa [HasBlk] using h
  have b1 : W1.cell? ⟨w.heap.size, 1, none⟩ = some (.int .i64 c) := by rw [← hW1]; simp [go_sem]
  have b2 : W1.cell? ⟨w.heap.size, 2, none⟩ = some (.int .i64 o) := by rw [← hW1]; simp [go_sem]
  have b3 : W1.cell? ⟨w.heap.size, 3, none⟩ = some (.int .i64 x) := by rw [← hW1]; simp [go_sem]
  have b4 : W1.cell? ⟨w.heap.size, 4, none⟩ = some (.int .i64 y) := by rw [← hW1]; simp [go_sem]
  have b5 : W1.cell? ⟨w.heap.size, 5, none⟩ = some (.int .i64 z) := by rw [← hW1]; simp [go_sem]
  simp only [part0, List.replicate, List.map_cons, List.map_nil] at hW1
  rw [hW1]
  have HB := Lib.hid hB1
  have HZ := Lib.hid z1
  have HR := Lib.hid r1
  have HK := Lib.hid hk1
  clear hW1 hB1 z1 r1 hk1
  go_region_held3 (fun w' => w'.cell? ⟨w.heap.size, 1, none⟩ = some (.int .i64 c)) (first | go_keep | exact hoA.drew.cell b1 (by omega))
    ((go_at_call 207; refine (write2_blk _ _ 2 _ 108 (part0 s) c HK.out.drew (by simp [part0]) (by omega) (by omega)).mono ?_; rintro e wA ⟨rfl, hkA, hoA⟩))
  have hoA' := hoA.drew
  have a2 := hoA'.cell b2 (by omega)
  have a3 := hoA'.cell b3 (by omega)
  have a4 := hoA'.cell b4 (by omega)
  have a5 := hoA'.cell b5 (by omega)
  have ac := hkA.cell (j := 4) (v := 0) (by simp [w2, part0, List.replicate, List.set])
  have af := hkA.frozen 4
  have HkA := Lib.hid hkA
  have HoA := Lib.hid hoA'
  clear b1 b2 b3 b4 b5 hoA hoA' hkA
  go_wp2
  obtain ⟨wB, hwB⟩ : ∃ wB, wA.setCell ⟨w.heap.size + 1 + 1, 4, none⟩ (.int .u8 o) = wB := ⟨_, rfl⟩
  have hkB : HasBlk wB (w.heap.size + 1 + 1) 108 ((w2 (part0 s) 2 c).set 4 o) := by rw [← hwB]; exact HkA.out.set _ _
  have hoB : OnlyBlk W1 wB (w.heap.size + 1 + 1) := by rw [← hwB]; exact HoA.out.trans (OnlyBlk.set _ _ _ _)
  rw [hwB]
  clear hwB a2 a3 a4 a5 ac af
  refine wp_loop_rounds 4 ?_
  rw [rounds_succ]
  go_wp2_with (go_at_call 207; refine (write4_blk _ _ 5 _ 108 _ (x + 1048576) hkB (by simp [w2, part0]) (by omega) (by omega)).mono ?_; rintro e wC ⟨rfl, hkC, hoC⟩)
  rw [rounds_succ]
  go_wp2_with (go_at_call 207; refine (write4_blk _ _ 9 _ 108 _ (y + 1048576) hkC (by simp [w4, w2, part0]) (by omega) (by omega)).mono ?_; rintro e wD ⟨rfl, hkD, hoD⟩)
  rw [rounds_succ]
  go_wp2_with (go_at_call 207; refine (write4_blk _ _ 13 _ 108 _ (z + 1048576) hkD (by simp [w4, w2, part0]) (by omega) (by omega)).mono ?_; rintro e wE ⟨rfl, hkE, hoE⟩)
  have hoE' := ((hoB.trans hoC).trans hoD).trans hoE
  have hkE' : HasBlk wE (w.heap.size + 1 + 1) 108 (part5 s c o x y z) := hkE
  obtain ⟨p1, p2, p3, p17, p18, p19, plen⟩ := part5_at s c o x y z
  have e1 := hkE'.cell p1
  have e2 := hkE'.cell p2
  have e3 := hkE'.cell p3
  have e17 := hkE'.cell p17
  have e18 := hkE'.cell p18
  have e19 := hkE'.cell p19
  have q17 := hkE'.frozen 17
  have q18 := hkE'.frozen 18
  have q19 := hkE'.frozen 19
  have HkE := Lib.hid hkE'
  have HoE := Lib.hid hoE'
  clear hkB hkC hkD hkE hkE' hoB hoC hoD hoE hoE' p1 p2 p3 p17 p18 p19 plen i0 i1 i2
  rw [rounds_succ]
  go_wp2
  refine wp_loop_rounds 4 ?_
  rw [rounds_succ]
  go_wp2
  rw [rounds_succ]
  go_wp2
  rw [rounds_succ]
  go_wp2
  rw [rounds_succ]
  go_wp2
  obtain ⟨wF, hwF⟩ : ∃ wF, ((wE.setCell ⟨w.heap.size + 1 + 1, 17, none⟩ (.int .u8 (255 - s))).setCell ⟨w.heap.size + 1 + 1, 18, none⟩ (.int .u8 (255 - byt c 1))).setCell ⟨w.heap.size + 1 + 1, 19, none⟩ (.int .u8 (255 - byt c 0)) = wF := ⟨_, rfl⟩
  have hkF : HasBlk wF (w.heap.size + 1 + 1) 108 (part8 s c o x y z) := by rw [← hwF]; exact ((HkE.out.set _ _).set _ _).set _ _
  have hoF : OnlyBlk W1 wF (w.heap.size + 1 + 1) := by rw [← hwF]; exact ((HoE.out.trans (OnlyBlk.set _ _ _ _)).trans (OnlyBlk.set _ _ _ _)).trans (OnlyBlk.set _ _ _ _)
  rw [hwF]
  clear hwF e1 e2 e3 e17 e18 e19 q17 q18 q19
  have hck := chk_bd (frame20 s c o x y z)
  have hl8 : (part8 s c o x y z).length = 24 := by rw [part8_take]; rfl
  have HkF := Lib.hid hkF
  have HoF := Lib.hid hoF
  clear hkF hoF
  go_region_held3 (fun _ => True) (trivial)
    (first
      | ((go_at_call 177; refine (chk_fit _ _ _ 108 s c o x y z HG.out HkF.out.drew).mono ?_; rintro e w' ⟨rfl, rfl⟩))
      | ((go_at_call 207; refine (write4_blk _ _ 20 _ 108 _ (chkOf (frame20 s c o x y z)) HkF.out.drew (by omega) (by omega) (by omega)).mono ?_; rintro e wG ⟨rfl, hkG, hoG⟩)))
  have hoG' := HoF.out.trans hoG.drew
  rw [frame_eq] at hkG
  have hrG : wG.heap[w.heap.size + 1]? = some (.cells ((List.replicate 24 (Value.int .u8 0)).toArray) 108 (0, 0)) := (hoG'.1.block _ (by have := HZ.out; omega) (fun e => by have := Option.some.inj e; omega)).trans HR.out
  have hsG := hoG'.2
  have hbG := HB.out.trans (hoG'.below (by have := HZ.out; omega) (by omega))
  have Hk := Lib.hid hkG
  have Hr := Lib.hid hrG
  have Hb := Lib.hid hbG
  clear hoG hoG' hkG hrG hbG hsG
  go_wp2_with (first
    | (refine wpList_load_row rfl 108 (.tmp 3) rfl (w.heap.size + 1 + 1) rfl 108 _ (0, 0) _ Hk.out Tryz.underlying108 rfl ?i1 ?_)
    | (refine wpList_store_row rfl 108 (.tmp 2) (.tmp 62) rfl (w.heap.size + 1) rfl _ rfl 108 _ Hr.out ?i2 ?i3 ?i4 ?_))
  case i1 => rw [size24]; simp [frame_len]
  case i2 => simp [frame_len]
  case i3 => rw [size24]; simp [frame_len]
  case i4 => intro v hv; rfl
  go_wp2
  refine bodyPost_ret (v := .agg ((frame s c o x y z).map (Value.int .u8)).toArray) (results_cell_row Tryz.results163 _ _ (w.heap.size + 1) 108 _ (0, 0) _ rfl (setRow_heap wG _ _ _ _ _ Hr.out) Tryz.underlying108 rfl (by rw [size24]; simp [frame_len])) rfl ⟨rfl, ?_⟩
  exact Hb.out.trans ((OnlyBlk.setRow wG (w.heap.size + 1) _).below Hb.out.size (by omega))

/-- A telegram's bytes, with any seven behind them. -/
def rawF (s c o x y z : Int) (R : List Int) : List Int :=
  [77, s, byt c 1, byt c 0, o, byt (x + 1048576) 3, byt (x + 1048576) 2, byt (x + 1048576) 1, byt (x + 1048576) 0, byt (y + 1048576) 3, byt (y + 1048576) 2, byt (y + 1048576) 1, byt (y + 1048576) 0,
   byt (z + 1048576) 3, byt (z + 1048576) 2, byt (z + 1048576) 1, byt (z + 1048576) 0] ++ R
def tail7 (s c o x y z : Int) : List Int := [255 - s, 255 - byt c 1, 255 - byt c 0, byt (chkOf (frame20 s c o x y z)) 3, byt (chkOf (frame20 s c o x y z)) 2, byt (chkOf (frame20 s c o x y z)) 1, byt (chkOf (frame20 s c o x y z)) 0]
theorem frame_raw (s c o x y z : Int) : frame s c o x y z = rawF s c o x y z (tail7 s c o x y z) := rfl
theorem rawF_len (s c o x y z : Int) (R : List Int) (h : R.length = 7) : (rawF s c o x y z R).length = 24 := by simp [rawF, h]
theorem rawF_inj {s c o x y z : Int} {R R' : List Int} (h : rawF s c o x y z R = rawF s c o x y z R') : R = R' := List.append_cancel_left h

set_option maxRecDepth 100000 in
set_option maxHeartbeats 3200000 in
theorem telegramOf_raw (s c o x y z : Int) (R : List Int) (h : FitT s c o x y z) (w : World) :
    Calls Tryz.prog 164 #[.agg ((rawF s c o x y z R).map (Value.int .u8)).toArray] w fun e w' =>
      e = .returned (.agg #[.int .i64 s, .int .i64 c, .int .i64 o, .int .i64 x, .int .i64 y, .int .i64 z]) ∧ Below w.heap.size w w' := by
  obtain ⟨h1, h2, h3, h4, h5, h6⟩ := h
  go_enter Tryz.func164, Tryz.ntmps164
  go_wp2_with fail
  refine wp_region_still_tail 16 (by kernel_rfl) (by kernel_rfl) ?_
  simp only [List.take_succ_cons, List.take_zero, List.drop_succ_cons, List.drop_zero]
  obtain ⟨W1, hW1⟩ : ∃ W1, W1 = (((w.alloc (.cells ((rawF s c o x y z R).map (Value.int .u8)).toArray 108)).alloc (.cells #[.int .i64 0, .int .i64 0, .int .i64 0, .int .i64 0, .int .i64 0, .int .i64 0] 112)).drew) := ⟨_, rfl⟩
  change wpStill _ _ (((w.alloc (.cells ((rawF s c o x y z R).map (Value.int .u8)).toArray 108)).alloc (.cells #[.int .i64 0, .int .i64 0, .int .i64 0, .int .i64 0, .int .i64 0, .int .i64 0] 112)).drew) (fun a' => wpList _ _ _ _ a' (((w.alloc (.cells ((rawF s c o x y z R).map (Value.int .u8)).toArray 108)).alloc (.cells #[.int .i64 0, .int .i64 0, .int .i64 0, .int .i64 0, .int .i64 0, .int .i64 0] 112)).drew)) _ _
  rw [← hW1]
  have hk : HasBlk W1 w.heap.size 108 (rawF s c o x y z R) := by
    rw [hW1]
    have hn : (w.alloc (.cells ((rawF s c o x y z R).map (Value.int .u8)).toArray 108)).heap[w.heap.size]? = some (.cells ((rawF s c o x y z R).map (Value.int .u8)).toArray 108 (0, 0)) := heap_alloc_new w _
    show ((w.alloc _).alloc _).heap[w.heap.size]? = _
    rw [Below.heap_alloc _ _ _ (by simp)]
    exact hn
  have c1 := hk.cell (j := 1) (v := s) rfl
  have c4 := hk.cell (j := 4) (v := o) rfl
  have k1 := fun cp => (read_blk W1 w.heap.size 2 2 cp 108 _ [byt c 1, byt c 0] hk (by omega) rfl rfl (byt_in2 c)).mono fun e w' (h : _ ∧ _) => (⟨by rw [h.1, num2 c h2.1 h2.2], h.2.symm⟩ : e = .returned (.int .i64 c) ∧ w' = W1)
  have e4 := num4 (x + 1048576) (by omega) (by omega)
  have e5 := num4 (y + 1048576) (by omega) (by omega)
  have e6 := num4 (z + 1048576) (by omega) (by omega)
  have k4 := (part0_any W1 w.heap.size _ [byt (x + 1048576) 3, byt (x + 1048576) 2, byt (x + 1048576) 1, byt (x + 1048576) 0] hk rfl rfl (byt_in _) (by rw [e4]; omega)).mono fun e w' (h : _ ∧ _) => (⟨by rw [h.1, e4]; congr 2; omega, h.2⟩ : e = .returned (.int .i64 x) ∧ w' = W1)
  have k5 := (part1_any W1 w.heap.size _ [byt (y + 1048576) 3, byt (y + 1048576) 2, byt (y + 1048576) 1, byt (y + 1048576) 0] hk rfl rfl (byt_in _) (by rw [e5]; omega)).mono fun e w' (h : _ ∧ _) => (⟨by rw [h.1, e5]; congr 2; omega, h.2⟩ : e = .returned (.int .i64 y) ∧ w' = W1)
  have k6 := (part2_any W1 w.heap.size _ [byt (z + 1048576) 3, byt (z + 1048576) 2, byt (z + 1048576) 1, byt (z + 1048576) 0] hk rfl rfl (byt_in _) (by rw [e6]; omega)).mono fun e w' (h : _ ∧ _) => (⟨by rw [h.1, e6]; congr 2; omega, h.2⟩ : e = .returned (.int .i64 z) ∧ w' = W1)
  have K1 := Lib.hid k1
  have K4 := Lib.hid k4
  have K5 := Lib.hid k5
  have K6 := Lib.hid k6
  have HW1 := Lib.hid hW1
  clear k1 k4 k5 k6 h4 h5 h6 hW1 hk e4 e5 e6 h2
  repeat still_step
  still_call K1.out _
  repeat still_step
  still_call K4.out
  repeat still_step
  still_call K5.out
  repeat still_step
  still_call K6.out
  repeat still_step
  refine wpStill_nil ?_
  rw [HW1.out]
  go_wp2
  refine bodyPost_ret (v := .agg #[.int .i64 s, .int .i64 c, .int .i64 o, .int .i64 x, .int .i64 y, .int .i64 z]) (by simp [results, Tryz.results164, go_sem]) rfl ⟨rfl, ?_⟩
  go_grown

/-- Bytes come back from their number. -/
theorem num_byt4 (a b c d : Int) (ha : 0 ≤ a ∧ a ≤ 255) (hb : 0 ≤ b ∧ b ≤ 255) (hc : 0 ≤ c ∧ c ≤ 255) (hd : 0 ≤ d ∧ d ≤ 255) :
    byt (numOf [a, b, c, d]) 3 = a ∧ byt (numOf [a, b, c, d]) 2 = b ∧ byt (numOf [a, b, c, d]) 1 = c ∧ byt (numOf [a, b, c, d]) 0 = d ∧ 0 ≤ numOf [a, b, c, d] ∧ numOf [a, b, c, d] ≤ 4294967295 := by
  simp only [numOf, List.foldl_cons, List.foldl_nil, byt]
  refine ⟨?_, ?_, ?_, ?_, ?_, ?_⟩ <;> omega
theorem num_byt2 (a b : Int) (ha : 0 ≤ a ∧ a ≤ 255) (hb : 0 ≤ b ∧ b ≤ 255) : byt (numOf [a, b]) 1 = a ∧ byt (numOf [a, b]) 0 = b ∧ 0 ≤ numOf [a, b] ∧ numOf [a, b] ≤ 65535 := by
  simp only [numOf, List.foldl_cons, List.foldl_nil, byt]
  refine ⟨?_, ?_, ?_, ?_⟩ <;> omega

/-- Any 24 bytes that begin with the mark are such bytes. -/
theorem raw_of (f1 f2 f3 f4 a0 a1 a2 a3 b0 b1 b2 b3 c0 c1 c2 c3 : Int) (R : List Int) (h : ∀ v ∈ [f1, f2, f3, f4, a0, a1, a2, a3, b0, b1, b2, b3, c0, c1, c2, c3], 0 ≤ v ∧ v ≤ 255) :
    [77, f1, f2, f3, f4, a0, a1, a2, a3, b0, b1, b2, b3, c0, c1, c2, c3] ++ R = rawF f1 (numOf [f2, f3]) f4 (numOf [a0, a1, a2, a3] - 1048576) (numOf [b0, b1, b2, b3] - 1048576) (numOf [c0, c1, c2, c3] - 1048576) R ∧
      FitT f1 (numOf [f2, f3]) f4 (numOf [a0, a1, a2, a3] - 1048576) (numOf [b0, b1, b2, b3] - 1048576) (numOf [c0, c1, c2, c3] - 1048576) := by
  simp only [List.mem_cons, List.not_mem_nil, or_false, forall_eq_or_imp, forall_eq] at h
  obtain ⟨h1, h2, h3, h4, ha0, ha1, ha2, ha3, hb0, hb1, hb2, hb3, hc0, hc1, hc2, hc3⟩ := h
  obtain ⟨p1, p2, p3, p4⟩ := num_byt2 f2 f3 h2 h3
  obtain ⟨q1, q2, q3, q4, q5, q6⟩ := num_byt4 a0 a1 a2 a3 ha0 ha1 ha2 ha3
  obtain ⟨r1, r2, r3, r4, r5, r6⟩ := num_byt4 b0 b1 b2 b3 hb0 hb1 hb2 hb3
  obtain ⟨s1, s2, s3, s4, s5, s6⟩ := num_byt4 c0 c1 c2 c3 hc0 hc1 hc2 hc3
  refine ⟨?_, ⟨h1, ⟨p3, p4⟩, h4, by omega, by omega, by omega⟩⟩
  unfold rawF
  simp only [Int.sub_add_cancel]
  rw [p1, p2, q1, q2, q3, q4, r1, r2, r3, r4, s1, s2, s3, s4]
end Go.Proofs.YtfdkmmllemkogaaGreatDoor
