/-
  Contracts of frameOf for telegrams whose numbers fit into their bytes, and of telegramOf for any bytes.
-/
import Derived.Test.YtlnhgplloaiiiaaGreatDoorKWs
import Derived.Test.YtlnhgplloaiiiaaGreatDoorKWt
import Derived.Test.YtlnhgplloaiiiaaGreatDoorKWp
import Derived.Deep.CutBlock
import Derived.Deep.DeepCutAuto
import Derived.Test.YtlnhgplloaiiiaaGreatDoorKFd
import Derived.Test.YtlnhgplloaiiiaaGreatDoorKWw
import Derived.Test.YtlnhgplloaiiiaaGreatDoorKXe
import Derived.Test.YtlnhgplloaiiiaaGreatDoorKWk
namespace Go.Proofs.YtlnhgplloaiiiaaGreatDoor
open Go.RowKit
set_option linter.unusedVariables false
set_option linter.unusedSimpArgs false

/-- The numbers of a telegram fit into their bytes. -/
structure FitT (s c o x y z : Int) : Prop where
  st : 0 ≤ s ∧ s ≤ 255
  ct : 0 ≤ c ∧ c ≤ 65535
  od : 0 ≤ o ∧ o ≤ 255
  vx : -1048576 ≤ x ∧ x ≤ 4293918719
  vy : -1048576 ≤ y ∧ y ≤ 4293918719
  vz : -1048576 ≤ z ∧ z ≤ 4293918719

theorem frame20_fit {s c o x y z : Int} (h : FitT s c o x y z) : ∀ j, j < 20 → 0 ≤ (frame20 s c o x y z)[j]?.getD 0 ∧ (frame20 s c o x y z)[j]?.getD 0 ≤ 255 := by
  obtain ⟨h1, h2, h3, h4, h5, h6⟩ := h
  have b := byt_bd
  intro j hj
  rcases lt20 hj with rfl | rfl | rfl | rfl | rfl | rfl | rfl | rfl | rfl | rfl | rfl | rfl | rfl | rfl | rfl | rfl | rfl | rfl | rfl | rfl
  all_goals first
    | exact b _ _
    | exact h1
    | exact h3
    | (have := b c 1; have := b c 0; simp [frame20]; try omega)

theorem chk_fit (w : World) (f cp : Nat) (T : TypeId) (s c o x y z : Int) (g : FitT s c o x y z) (h : HasBlk w f T (part8 s c o x y z)) :
    Calls Tryz.prog 163 #[.slice (some ⟨f, 0, none⟩) 20 cp] w fun e w' => e = .returned (.int .i64 (chkOf (frame20 s c o x y z))) ∧ w = w' :=
  checksum_any f 0 20 cp (frame20 s c o x y z) w rfl (by omega) (frame20_fit g) (fun j hj => by
    rw [Nat.zero_add]
    refine h.cell ?_
    rw [part8_take, List.getElem?_append_left (by rw [frame20_len]; exact hj), List.getElem?_eq_getElem (by rw [frame20_len]; exact hj)]; rfl)

set_option maxRecDepth 100000 in
set_option maxHeartbeats 6400000 in
theorem frameOf_fit (s c o x y z : Int) (h : FitT s c o x y z) (w : World) :
    Calls Tryz.prog 144 #[.agg #[.int .i64 s, .int .i64 c, .int .i64 o, .int .i64 x, .int .i64 y, .int .i64 z]] w fun e w' =>
      e = .returned (.agg ((frame s c o x y z).map (Value.int .u8)).toArray) ∧ Below w.heap.size w w' := by
  have HG := Lib.hid h
  obtain ⟨h1, h2, h3, h4, h5, h6⟩ := h
  have g1 := byt_bd c 1
  have g0 := byt_bd c 0
  have i0 : ∀ w, (Instr.index 225 (.agg #[.int .i64 x, .int .i64 y, .int .i64 z]) (.int .i64 0)).run Tryz.prog w = .ok (.int .i64 x) w := fun _ => by kernel_rfl
  have i1 : ∀ w, (Instr.index 225 (.agg #[.int .i64 x, .int .i64 y, .int .i64 z]) (.int .i64 1)).run Tryz.prog w = .ok (.int .i64 y) w := fun _ => by kernel_rfl
  have i2 : ∀ w, (Instr.index 225 (.agg #[.int .i64 x, .int .i64 y, .int .i64 z]) (.int .i64 2)).run Tryz.prog w = .ok (.int .i64 z) w := fun _ => by kernel_rfl
  go_enter Tryz.func144, Tryz.ntmps144
  go_wp2_with fail
  obtain ⟨W1, hW1⟩ : ∃ W1, (((w.alloc (.cells #[.int .i64 s, .int .i64 c, .int .i64 o, .int .i64 x, .int .i64 y, .int .i64 z] 112)).alloc (.cells ((List.replicate 24 (Value.int .u8 0)).toArray) 108)).alloc (.cells (((part0 s).map (Value.int .u8)).toArray) 108)) = W1 := ⟨_, rfl⟩
  have hB1 : Below w.heap.size w W1 := by rw [← hW1]; go_grown
  have z1 : W1.heap.size = w.heap.size + 3 := by rw [← hW1]; simp
  have r1 : W1.heap[w.heap.size + 1]? = some (.cells ((List.replicate 24 (Value.int .u8 0)).toArray) 108 (0, 0)) := by
    rw [← hW1, Below.heap_alloc _ _ _ (by simp)]
    exact heap_alloc2_new w _ _
  have hk1 : HasBlk W1 (w.heap.size + 1 + 1) 108 (part0 s) := by
    rw [← hW1]
    have h := heap_alloc2_new (w.alloc (.cells #[.int .i64 s, .int .i64 c, .int .i64 o, .int .i64 x, .int .i64 y, .int .i64 z] 112)) (.cells ((List.replicate 24 (Value.int .u8 0)).toArray) 108) (.cells (((part0 s).map (Value.int .u8)).toArray) 108)
    simpa [HasBlk] using h
  have b1 : W1.cell? ⟨w.heap.size, 1, none⟩ = some (.int .i64 c) := by rw [← hW1]; simp [go_sem]
  have b2 : W1.cell? ⟨w.heap.size, 2, none⟩ = some (.int .i64 o) := by rw [← hW1]; simp [go_sem]
  have b3 : W1.cell? ⟨w.heap.size, 3, none⟩ = some (.int .i64 x) := by rw [← hW1]; simp [go_sem]
  have b4 : W1.cell? ⟨w.heap.size, 4, none⟩ = some (.int .i64 y) := by rw [← hW1]; simp [go_sem]
  have b5 : W1.cell? ⟨w.heap.size, 5, none⟩ = some (.int .i64 z) := by rw [← hW1]; simp [go_sem]
  simp only [part0, List.replicate, List.map_cons, List.map_nil] at hW1
  rw [hW1]
  have HB := Lib.hid hB1
  have HZ := Lib.hid z1
  have HR := Lib.hid r1
  have HK := Lib.hid hk1
  clear hW1 hB1 z1 r1 hk1
  go_region_held3 (fun w' => w'.cell? ⟨w.heap.size, 1, none⟩ = some (.int .i64 c)) (first | go_keep | exact hoA.drew.cell b1 (by omega))
    ((go_at_call 174; refine (write2_blk _ _ 2 _ 108 (part0 s) c HK.out.drew (by simp [part0]) (by omega) (by omega)).mono ?_; rintro e wA ⟨rfl, hkA, hoA⟩))
  have hoA' := hoA.drew
  have a2 := hoA'.cell b2 (by omega)
  have a3 := hoA'.cell b3 (by omega)
  have a4 := hoA'.cell b4 (by omega)
  have a5 := hoA'.cell b5 (by omega)
  have ac := hkA.cell (j := 4) (v := 0) (by simp [w2, part0, List.replicate, List.set])
  have af := hkA.frozen 4
  have HkA := Lib.hid hkA
  have HoA := Lib.hid hoA'
  clear b1 b2 b3 b4 b5 hoA hoA' hkA
  go_wp2
  obtain ⟨wB, hwB⟩ : ∃ wB, wA.setCell ⟨w.heap.size + 1 + 1, 4, none⟩ (.int .u8 o) = wB := ⟨_, rfl⟩
  have hkB : HasBlk wB (w.heap.size + 1 + 1) 108 ((w2 (part0 s) 2 c).set 4 o) := by rw [← hwB]; exact HkA.out.set _ _
  have hoB : OnlyBlk W1 wB (w.heap.size + 1 + 1) := by rw [← hwB]; exact HoA.out.trans (OnlyBlk.set _ _ _ _)
  rw [hwB]
  clear hwB a2 a3 a4 a5 ac af
  refine wp_loop_rounds 4 ?_
  rw [rounds_succ]
  go_wp2_with (go_at_call 174; refine (write4_blk _ _ 5 _ 108 _ (x + 1048576) hkB (by simp [w2, part0]) (by omega) (by omega)).mono ?_; rintro e wC ⟨rfl, hkC, hoC⟩)
  rw [rounds_succ]
  go_wp2_with (go_at_call 174; refine (write4_blk _ _ 9 _ 108 _ (y + 1048576) hkC (by simp [w4, w2, part0]) (by omega) (by omega)).mono ?_; rintro e wD ⟨rfl, hkD, hoD⟩)
  rw [rounds_succ]
  go_wp2_with (go_at_call 174; refine (write4_blk _ _ 13 _ 108 _ (z + 1048576) hkD (by simp [w4, w2, part0]) (by omega) (by omega)).mono ?_; rintro e wE ⟨rfl, hkE, hoE⟩)
  have hoE' := ((hoB.trans hoC).trans hoD).trans hoE
  have hkE' : HasBlk wE (w.heap.size + 1 + 1) 108 (part5 s c o x y z) := hkE
  obtain ⟨p1, p2, p3, p17, p18, p19, plen⟩ := part5_at s c o x y z
  have e1 := hkE'.cell p1
  have e2 := hkE'.cell p2
  have e3 := hkE'.cell p3
  have e17 := hkE'.cell p17
  have e18 := hkE'.cell p18
  have e19 := hkE'.cell p19
  have q17 := hkE'.frozen 17
  have q18 := hkE'.frozen 18
  have q19 := hkE'.frozen 19
  have HkE := Lib.hid hkE'
  have HoE := Lib.hid hoE'
  clear hkB hkC hkD hkE hkE' hoB hoC hoD hoE hoE' p1 p2 p3 p17 p18 p19 plen i0 i1 i2
  rw [rounds_succ]
  go_wp2
  refine wp_loop_rounds 4 ?_
  rw [rounds_succ]
  go_wp2
  rw [rounds_succ]
  go_wp2
  rw [rounds_succ]
  go_wp2
  rw [rounds_succ]
  go_wp2
  obtain ⟨wF, hwF⟩ : ∃ wF, ((wE.setCell ⟨w.heap.size + 1 + 1, 17, none⟩ (.int .u8 (255 - s))).setCell ⟨w.heap.size + 1 + 1, 18, none⟩ (.int .u8 (255 - byt c 1))).setCell ⟨w.heap.size + 1 + 1, 19, none⟩ (.int .u8 (255 - byt c 0)) = wF := ⟨_, rfl⟩
  have hkF : HasBlk wF (w.heap.size + 1 + 1) 108 (part8 s c o x y z) := by rw [← hwF]; exact ((HkE.out.set _ _).set _ _).set _ _
  have hoF : OnlyBlk W1 wF (w.heap.size + 1 + 1) := by rw [← hwF]; exact ((HoE.out.trans (OnlyBlk.set _ _ _ _)).trans (OnlyBlk.set _ _ _ _)).trans (OnlyBlk.set _ _ _ _)
  rw [hwF]
  clear hwF e1 e2 e3 e17 e18 e19 q17 q18 q19
  have hck := chk_bd (frame20 s c o x y z)
  have hl8 : (part8 s c o x y z).length = 24 := by rw [part8_take]; rfl
  have HkF := Lib.hid hkF
  have HoF := Lib.hid hoF
  clear hkF hoF
  go_region_held3 (fun _ => True) (trivial)
    (first
      | ((go_at_call 163; refine (chk_fit _ _ _ 108 s c o x y z HG.out HkF.out.drew).mono ?_; rintro e w' ⟨rfl, rfl⟩))
      | ((go_at_call 174; refine (write4_blk _ _ 20 _ 108 _ (chkOf (frame20 s c o x y z)) HkF.out.drew (by omega) (by omega) (by omega)).mono ?_; rintro e wG ⟨rfl, hkG, hoG⟩)))
  have hoG' := HoF.out.trans hoG.drew
  rw [frame_eq] at hkG
  have hrG : wG.heap[w.heap.size + 1]? = some (.cells ((List.replicate 24 (Value.int .u8 0)).toArray) 108 (0, 0)) := (hoG'.1.block _ (by have := HZ.out; omega) (fun e => by have := Option.some.inj e; omega)).trans HR.out
  have hsG := hoG'.2
  have hbG := HB.out.trans (hoG'.below (by have := HZ.out; omega) (by omega))
  have Hk := Lib.hid hkG
  have Hr := Lib.hid hrG
  have Hb := Lib.hid hbG
  clear hoG hoG' hkG hrG hbG hsG
  go_wp2_with (first
    | (refine wpList_load_row rfl 108 (.tmp 3) rfl (w.heap.size + 1 + 1) rfl 108 _ (0, 0) _ Hk.out Tryz.underlying108 rfl ?i1 ?_)
    | (refine wpList_store_row rfl 108 (.tmp 2) (.tmp 62) rfl (w.heap.size + 1) rfl _ rfl 108 _ Hr.out ?i2 ?i3 ?i4 ?_))
  case i1 => rw [size24]; simp [frame_len]
  case i2 => simp [frame_len]
  case i3 => rw [size24]; simp [frame_len]
  case i4 => intro v hv; rfl
  go_wp2
  refine bodyPost_ret (v := .agg ((frame s c o x y z).map (Value.int .u8)).toArray) (results_cell_row Tryz.results144 _ _ (w.heap.size + 1) 108 _ (0, 0) _ rfl (setRow_heap wG _ _ _ _ _ Hr.out) Tryz.underlying108 rfl (by rw [size24]; simp [frame_len])) rfl ⟨rfl, ?_⟩
  exact Hb.out.trans ((OnlyBlk.setRow wG (w.heap.size + 1) _).below Hb.out.size (by omega))

/-- A telegram's bytes, with any seven behind them. -/
def rawF (s c o x y z : Int) (R : List Int) : List Int :=
  [77, s, byt c 1, byt c 0, o, byt (x + 1048576) 3, byt (x + 1048576) 2, byt (x + 1048576) 1, byt (x + 1048576) 0, byt (y + 1048576) 3, byt (y + 1048576) 2, byt (y + 1048576) 1, byt (y + 1048576) 0,
   byt (z + 1048576) 3, byt (z + 1048576) 2, byt (z + 1048576) 1, byt (z + 1048576) 0] ++ R
def tail7 (s c o x y z : Int) : List Int := [255 - s, 255 - byt c 1, 255 - byt c 0, byt (chkOf (frame20 s c o x y z)) 3, byt (chkOf (frame20 s c o x y z)) 2, byt (chkOf (frame20 s c o x y z)) 1, byt (chkOf (frame20 s c o x y z)) 0]
theorem frame_raw (s c o x y z : Int) : frame s c o x y z = rawF s c o x y z (tail7 s c o x y z) := rfl
theorem rawF_len (s c o x y z : Int) (R : List Int) (h : R.length = 7) : (rawF s c o x y z R).length = 24 := by simp [rawF, h]
theorem rawF_inj {s c o x y z : Int} {R R' : List Int} (h : rawF s c o x y z R = rawF s c o x y z R') : R = R' := List.append_cancel_left h

set_option maxRecDepth 100000 in
set_option maxHeartbeats 3200000 in
theorem telegramOf_raw (s c o x y z : Int) (R : List Int) (h : FitT s c o x y z) (w : World) :
    Calls Tryz.prog 145 #[.agg ((rawF s c o x y z R).map (Value.int .u8)).toArray] w fun e w' =>
      e = .returned (.agg #[.int .i64 s, .int .i64 c, .int .i64 o, .int .i64 x, .int .i64 y, .int .i64 z]) ∧ Below w.heap.size w w' := by
  obtain ⟨h1, h2, h3, h4, h5, h6⟩ := h
  go_enter Tryz.func145, Tryz.ntmps145
  go_wp2_with fail
  refine wp_region_still_tail 16 (by kernel_rfl) (by kernel_rfl) ?_
  simp only [List.take_succ_cons, List.take_zero, List.drop_succ_cons, List.drop_zero]
  obtain ⟨W1, hW1⟩ : ∃ W1, W1 = (((w.alloc (.cells ((rawF s c o x y z R).map (Value.int .u8)).toArray 108)).alloc (.cells #[.int .i64 0, .int .i64 0, .int .i64 0, .int .i64 0, .int .i64 0, .int .i64 0] 112)).drew) := ⟨_, rfl⟩
  change wpStill _ _ (((w.alloc (.cells ((rawF s c o x y z R).map (Value.int .u8)).toArray 108)).alloc (.cells #[.int .i64 0, .int .i64 0, .int .i64 0, .int .i64 0, .int .i64 0, .int .i64 0] 112)).drew) (fun a' => wpList _ _ _ _ a' (((w.alloc (.cells ((rawF s c o x y z R).map (Value.int .u8)).toArray 108)).alloc (.cells #[.int .i64 0, .int .i64 0, .int .i64 0, .int .i64 0, .int .i64 0, .int .i64 0] 112)).drew)) _ _
  rw [← hW1]
  have hk : HasBlk W1 w.heap.size 108 (rawF s c o x y z R) := by
    rw [hW1]
    have hn : (w.alloc (.cells ((rawF s c o x y z R).map (Value.int .u8)).toArray 108)).heap[w.heap.size]? = some (.cells ((rawF s c o x y z R).map (Value.int .u8)).toArray 108 (0, 0)) := heap_alloc_new w _
    show ((w.alloc _).alloc _).heap[w.heap.size]? = _
    rw [Below.heap_alloc _ _ _ (by simp)]
    exact hn
  have c1 := hk.cell (j := 1) (v := s) rfl
  have c4 := hk.cell (j := 4) (v := o) rfl
  have k1 := fun cp => (read_blk W1 w.heap.size 2 2 cp 108 _ [byt c 1, byt c 0] hk (by omega) rfl rfl (byt_in2 c)).mono fun e w' (h : _ ∧ _) => (⟨by rw [h.1, num2 c h2.1 h2.2], h.2.symm⟩ : e = .returned (.int .i64 c) ∧ w' = W1)
  have e4 := num4 (x + 1048576) (by omega) (by omega)
  have e5 := num4 (y + 1048576) (by omega) (by omega)
  have e6 := num4 (z + 1048576) (by omega) (by omega)
  have k4 := (part0_any W1 w.heap.size _ [byt (x + 1048576) 3, byt (x + 1048576) 2, byt (x + 1048576) 1, byt (x + 1048576) 0] hk rfl rfl (byt_in _) (by rw [e4]; omega)).mono fun e w' (h : _ ∧ _) => (⟨by rw [h.1, e4]; congr 2; omega, h.2⟩ : e = .returned (.int .i64 x) ∧ w' = W1)
  have k5 := (part1_any W1 w.heap.size _ [byt (y + 1048576) 3, byt (y + 1048576) 2, byt (y + 1048576) 1, byt (y + 1048576) 0] hk rfl rfl (byt_in _) (by rw [e5]; omega)).mono fun e w' (h : _ ∧ _) => (⟨by rw [h.1, e5]; congr 2; omega, h.2⟩ : e = .returned (.int .i64 y) ∧ w' = W1)
  have k6 := (part2_any W1 w.heap.size _ [byt (z + 1048576) 3, byt (z + 1048576) 2, byt (z + 1048576) 1, byt (z + 1048576) 0] hk rfl rfl (byt_in _) (by rw [e6]; omega)).mono fun e w' (h : _ ∧ _) => (⟨by rw [h.1, e6]; congr 2; omega, h.2⟩ : e = .returned (.int .i64 z) ∧ w' = W1)
  have K1 := Lib.hid k1
  have K4 := Lib.hid k4
  have K5 := Lib.hid k5
  have K6 := Lib.hid k6
  have HW1 := Lib.hid hW1
  clear k1 k4 k5 k6 h4 h5 h6 hW1 hk e4 e5 e6 h2
  repeat still_step
  still_call K1.out _
  repeat still_step
  still_call K4.out
  repeat still_step
  still_call K5.out
  repeat still_step
  still_call K6.out
  repeat still_step
  refine wpStill_nil ?_
  rw [HW1.out]
  go_wp2
  refine bodyPost_ret (v := .agg #[.int .i64 s, .int .i64 c, .int .i64 o, .int .i64 x, .int .i64 y, .int .i64 z]) (by simp [results, Tryz.results145, go_sem]) rfl ⟨rfl, ?_⟩
  go_grown

/-- Bytes come back from their number. -/
theorem num_byt4 (a b c d : Int) (ha : 0 ≤ a ∧ a ≤ 255) (hb : 0 ≤ b ∧ b ≤ 255) (hc : 0 ≤ c ∧ c ≤ 255) (hd : 0 ≤ d ∧ d ≤ 255) :
    byt (numOf [a, b, c, d]) 3 = a ∧ byt (numOf [a, b, c, d]) 2 = b ∧ byt (numOf [a, b, c, d]) 1 = c ∧ byt (numOf [a, b, c, d]) 0 = d ∧ 0 ≤ numOf [a, b, c, d] ∧ numOf [a, b, c, d] ≤ 4294967295 := by
  simp only [numOf, List.foldl_cons, List.foldl_nil, byt]
  refine ⟨?_, ?_, ?_, ?_, ?_, ?_⟩ <;> omega
theorem num_byt2 (a b : Int) (ha : 0 ≤ a ∧ a ≤ 255) (hb : 0 ≤ b ∧ b ≤ 255) : byt (numOf [a, b]) 1 = a ∧ byt (numOf [a, b]) 0 = b ∧ 0 ≤ numOf [a, b] ∧ numOf [a, b] ≤ 65535 := by
  simp only [numOf, List.foldl_cons, List.foldl_nil, byt]
  refine ⟨?_, ?_, ?_, ?_⟩ <;> omega

/-- Any 24 bytes that begin with the mark are such bytes. -/
theorem raw_of (f1 f2 f3 f4 a0 a1 a2 a3 b0 b1 b2 b3 c0 c1 c2 c3 : Int) (R : List Int) (h : ∀ v ∈ [f1, f2, f3, f4, a0, a1, a2, a3, b0, b1, b2, b3, c0, c1, c2, c3], 0 ≤ v ∧ v ≤ 255) :
    [77, f1, f2, f3, f4, a0, a1, a2, a3, b0, b1, b2, b3, c0, c1, c2, c3] ++ R = rawF f1 (numOf [f2, f3]) f4 (numOf [a0, a1, a2, a3] - 1048576) (numOf [b0, b1, b2, b3] - 1048576) (numOf [c0, c1, c2, c3] - 1048576) R ∧
      FitT f1 (numOf [f2, f3]) f4 (numOf [a0, a1, a2, a3] - 1048576) (numOf [b0, b1, b2, b3] - 1048576) (numOf [c0, c1, c2, c3] - 1048576) := by
  simp only [List.mem_cons, List.not_mem_nil, or_false, forall_eq_or_imp, forall_eq] at h
  obtain ⟨h1, h2, h3, h4, ha0, ha1, ha2, ha3, hb0, hb1, hb2, hb3, hc0, hc1, hc2, hc3⟩ := h
  obtain ⟨p1, p2, p3, p4⟩ := num_byt2 f2 f3 h2 h3
  obtain ⟨q1, q2, q3, q4, q5, q6⟩ := num_byt4 a0 a1 a2 a3 ha0 ha1 ha2 ha3
  obtain ⟨r1, r2, r3, r4, r5, r6⟩ := num_byt4 b0 b1 b2 b3 hb0 hb1 hb2 hb3
  obtain ⟨s1, s2, s3, s4, s5, s6⟩ := num_byt4 c0 c1 c2 c3 hc0 hc1 hc2 hc3
  refine ⟨?_, ⟨h1, ⟨p3, p4⟩, h4, by omega, by omega, by omega⟩⟩
  unfold rawF
  simp only [Int.sub_add_cancel]
  rw [p1, p2, q1, q2, q3, q4, r1, r2, r3, r4, s1, s2, s3, s4]
end Go.Proofs.YtlnhgplloaiiiaaGreatDoor

/-
  Contracts of limited and checkTelegram for every telegram.
-/
namespace Go.Proofs.YtlnhgplloaiiiaaGreatDoor
open Go.RowKit
set_option linter.unusedVariables false
set_option linter.unusedSimpArgs false

/-- A number brought into its range. -/
def clamp (lo hi n : Int) : Int := min (max n lo) hi
theorem clamp_in {lo hi n : Int} (h1 : lo ≤ n) (h2 : n ≤ hi) : clamp lo hi n = n := by unfold clamp; omega
theorem clamp_out {lo hi n : Int} (h : lo ≤ hi) (h1 : ¬ (lo ≤ n ∧ n ≤ hi)) : clamp lo hi n ≠ n := by unfold clamp; omega
theorem run_maxL (n m : Int) : ∀ (ts : Array TypeId) (t : TypeId) (w : World), (Builtin.max_ ts t #[.int .i64 n, .int .i64 m]).run Tryz.prog w = .ok (.int .i64 (max n m)) w := fun ts t w => by
  rw [run_max_int2]
  by_cases h : n < m
  · rw [if_pos h, show max n m = m by omega]
  · rw [if_neg h, show max n m = n by omega]
theorem run_minL (n m : Int) : ∀ (ts : Array TypeId) (t : TypeId) (w : World), (Builtin.min_ ts t #[.int .i64 n, .int .i64 m]).run Tryz.prog w = .ok (.int .i64 (min n m)) w := fun ts t w => by
  rw [run_min_int2]
  by_cases h : m < n
  · rw [if_pos h, show min n m = m by omega]
  · rw [if_neg h, show min n m = n by omega]

set_option maxHeartbeats 800000 in
theorem reach_all (n : Int) (w : World) :
    Calls Tryz.prog 187 #[.int .i64 n] w fun e w' => e = .returned (.int .i64 (clamp (-1048576) 1048576 n)) ∧ w = w' := by
  have m1 := run_maxL n (-1048576)
  obtain ⟨a, ha⟩ : ∃ a : Int, max n (-1048576) = a := ⟨_, rfl⟩
  rw [ha] at m1
  have n1 := run_minL a 1048576
  obtain ⟨b, hb⟩ : ∃ b : Int, min a 1048576 = b := ⟨_, rfl⟩
  rw [hb] at n1
  have e : clamp (-1048576) 1048576 n = b := by unfold clamp; rw [ha, hb]
  rw [e]
  clear ha hb e
  go_enter Tryz.func187, Tryz.ntmps187
  go_wp2
  go_ret
  exact ⟨rfl, rfl⟩

set_option maxRecDepth 100000 in
set_option maxHeartbeats 1600000 in
theorem limited_all (s c o x y z : Int) (w : World) :
    Calls Tryz.prog 173 #[.agg #[.int .i64 s, .int .i64 c, .int .i64 o, .int .i64 x, .int .i64 y, .int .i64 z]] w fun e w' =>
      e = .returned (.agg #[.int .i64 (clamp 0 255 s), .int .i64 (clamp 0 65535 c), .int .i64 (clamp 0 255 o), .int .i64 (clamp (-1048576) 1048576 x), .int .i64 (clamp (-1048576) 1048576 y), .int .i64 (clamp (-1048576) 1048576 z)]) ∧ Below w.heap.size w w' := by
  have m1 := run_maxL s 0
  obtain ⟨a1, ha1⟩ : ∃ a : Int, max s 0 = a := ⟨_, rfl⟩
  rw [ha1] at m1
  have n1 := run_minL a1 255
  obtain ⟨s', hv1⟩ : ∃ b : Int, min a1 255 = b := ⟨_, rfl⟩
  rw [hv1] at n1
  rw [show clamp 0 255 s = s' by unfold clamp; rw [ha1, hv1]]
  clear ha1 hv1
  have m2 := run_maxL c 0
  obtain ⟨a2, ha2⟩ : ∃ a : Int, max c 0 = a := ⟨_, rfl⟩
  rw [ha2] at m2
  have n2 := run_minL a2 65535
  obtain ⟨c', hv2⟩ : ∃ b : Int, min a2 65535 = b := ⟨_, rfl⟩
  rw [hv2] at n2
  rw [show clamp 0 65535 c = c' by unfold clamp; rw [ha2, hv2]]
  clear ha2 hv2
  have m3 := run_maxL o 0
  obtain ⟨a3, ha3⟩ : ∃ a : Int, max o 0 = a := ⟨_, rfl⟩
  rw [ha3] at m3
  have n3 := run_minL a3 255
  obtain ⟨o', hv3⟩ : ∃ b : Int, min a3 255 = b := ⟨_, rfl⟩
  rw [hv3] at n3
  rw [show clamp 0 255 o = o' by unfold clamp; rw [ha3, hv3]]
  clear ha3 hv3
  have kx := reach_all x
  obtain ⟨x', hvx⟩ : ∃ b : Int, clamp (-1048576) 1048576 x = b := ⟨_, rfl⟩
  rw [hvx] at kx ⊢
  clear hvx
  have ky := reach_all y
  obtain ⟨y', hvy⟩ : ∃ b : Int, clamp (-1048576) 1048576 y = b := ⟨_, rfl⟩
  rw [hvy] at ky ⊢
  clear hvy
  have kz := reach_all z
  obtain ⟨z', hvz⟩ : ∃ b : Int, clamp (-1048576) 1048576 z = b := ⟨_, rfl⟩
  rw [hvz] at kz ⊢
  clear hvz
  go_enter Tryz.func173, Tryz.ntmps173
  go_wp2_with fail
  refine wp_region_still_tail 29 (by kernel_rfl) (by kernel_rfl) ?_
  simp only [List.take_succ_cons, List.take_zero, List.drop_succ_cons, List.drop_zero]
  obtain ⟨W1, hW1⟩ : ∃ W1, W1 = (((w.alloc (.cells #[.int .i64 s, .int .i64 c, .int .i64 o, .int .i64 x, .int .i64 y, .int .i64 z] 112)).alloc (.cells #[.int .i64 0, .int .i64 0, .int .i64 0, .int .i64 0, .int .i64 0, .int .i64 0] 112)).drew) := ⟨_, rfl⟩
  change wpStill _ _ (((w.alloc (.cells #[.int .i64 s, .int .i64 c, .int .i64 o, .int .i64 x, .int .i64 y, .int .i64 z] 112)).alloc (.cells #[.int .i64 0, .int .i64 0, .int .i64 0, .int .i64 0, .int .i64 0, .int .i64 0] 112)).drew) (fun a' => wpList _ _ _ _ a' (((w.alloc (.cells #[.int .i64 s, .int .i64 c, .int .i64 o, .int .i64 x, .int .i64 y, .int .i64 z] 112)).alloc (.cells #[.int .i64 0, .int .i64 0, .int .i64 0, .int .i64 0, .int .i64 0, .int .i64 0] 112)).drew)) _ _
  rw [← hW1]
  have c0 : W1.cell? ⟨w.heap.size, 0, none⟩ = some (.int .i64 s) := by rw [hW1]; simp [go_sem]
  have c1 : W1.cell? ⟨w.heap.size, 1, none⟩ = some (.int .i64 c) := by rw [hW1]; simp [go_sem]
  have c2 : W1.cell? ⟨w.heap.size, 2, none⟩ = some (.int .i64 o) := by rw [hW1]; simp [go_sem]
  have c3 : W1.cell? ⟨w.heap.size, 3, none⟩ = some (.int .i64 x) := by rw [hW1]; simp [go_sem]
  have c4 : W1.cell? ⟨w.heap.size, 4, none⟩ = some (.int .i64 y) := by rw [hW1]; simp [go_sem]
  have c5 : W1.cell? ⟨w.heap.size, 5, none⟩ = some (.int .i64 z) := by rw [hW1]; simp [go_sem]
  have k4 := (kx W1).mono fun e w' (h : _ ∧ _) => (⟨h.1, h.2.symm⟩ : e = .returned (.int .i64 x') ∧ w' = W1)
  have k5 := (ky W1).mono fun e w' (h : _ ∧ _) => (⟨h.1, h.2.symm⟩ : e = .returned (.int .i64 y') ∧ w' = W1)
  have k6 := (kz W1).mono fun e w' (h : _ ∧ _) => (⟨h.1, h.2.symm⟩ : e = .returned (.int .i64 z') ∧ w' = W1)
  have K4 := Lib.hid k4
  have K5 := Lib.hid k5
  have K6 := Lib.hid k6
  have HW1 := Lib.hid hW1
  clear k4 k5 k6 kx ky kz hW1
  repeat still_step
  still_call K4.out
  repeat still_step
  still_call K5.out
  repeat still_step
  still_call K6.out
  repeat still_step
  refine wpStill_nil ?_
  rw [HW1.out]
  go_wp2
  refine bodyPost_ret (v := .agg #[.int .i64 s', .int .i64 c', .int .i64 o', .int .i64 x', .int .i64 y', .int .i64 z']) (by simp [results, Tryz.results173, go_sem]) rfl ⟨rfl, ?_⟩
  go_grown

open Classical in
noncomputable def telErr (s c o x y z : Int) : Int := if GoodT s c o x y z then 0 else 3
theorem telErr_good {s c o x y z : Int} (h : GoodT s c o x y z) : telErr s c o x y z = 0 := by unfold telErr; simp [h]
theorem telErr_bad {s c o x y z : Int} (h : ¬ GoodT s c o x y z) : telErr s c o x y z = 3 := by unfold telErr; simp [h]
theorem telErr_zero {s c o x y z : Int} (h : telErr s c o x y z = 0) : GoodT s c o x y z := Classical.byContradiction fun hn => by rw [telErr_bad hn] at h; cases h

set_option maxRecDepth 100000 in
set_option maxHeartbeats 6400000 in
theorem checkTelegram_all (s c o x y z : Int) (w : World) :
    Calls Tryz.prog 143 #[.agg #[.int .i64 s, .int .i64 c, .int .i64 o, .int .i64 x, .int .i64 y, .int .i64 z]] w fun e w' => e = .returned (.int .i64 (telErr s c o x y z)) ∧ Below w.heap.size w w' := by
  by_cases hg : GoodT s c o x y z
  · rw [telErr_good hg]
    exact checkTelegram_any s c o x y z hg w
  rw [telErr_bad hg]
  have K := Lib.hid (limited_all s c o x y z)
  obtain ⟨s', hvs⟩ : ∃ b : Int, clamp 0 255 s = b := ⟨_, rfl⟩
  obtain ⟨c', hvc⟩ : ∃ b : Int, clamp 0 65535 c = b := ⟨_, rfl⟩
  obtain ⟨o', hvo⟩ : ∃ b : Int, clamp 0 255 o = b := ⟨_, rfl⟩
  obtain ⟨x', hvx⟩ : ∃ b : Int, clamp (-1048576) 1048576 x = b := ⟨_, rfl⟩
  obtain ⟨y', hvy⟩ : ∃ b : Int, clamp (-1048576) 1048576 y = b := ⟨_, rfl⟩
  obtain ⟨z', hvz⟩ : ∃ b : Int, clamp (-1048576) 1048576 z = b := ⟨_, rfl⟩
  rw [hvs, hvc, hvo, hvx, hvy, hvz] at K
  have gs : s' = s → 0 ≤ s ∧ s ≤ 255 := fun h => by rw [← hvs] at h; unfold clamp at h; omega
  have gc : c' = c → 0 ≤ c ∧ c ≤ 65535 := fun h => by rw [← hvc] at h; unfold clamp at h; omega
  have go : o' = o → 0 ≤ o ∧ o ≤ 255 := fun h => by rw [← hvo] at h; unfold clamp at h; omega
  have gx : x' = x → -1048576 ≤ x ∧ x ≤ 1048576 := fun h => by rw [← hvx] at h; unfold clamp at h; omega
  have gy : y' = y → -1048576 ≤ y ∧ y ≤ 1048576 := fun h => by rw [← hvy] at h; unfold clamp at h; omega
  have gz : z' = z → -1048576 ≤ z ∧ z ≤ 1048576 := fun h => by rw [← hvz] at h; unfold clamp at h; omega
  clear hvs hvc hvo hvx hvy hvz
  by_cases es : s' = s
  rotate_left 1
  · have qs : (s' == s) = false := by simp [es]
    clear es gs gc go gx gy gz
    clear hg
    go_enter Tryz.func143, Tryz.ntmps143
    go_wp2_with fail
    go_region_held3 (fun w' => w'.cell? ⟨w.heap.size, 0, none⟩ = some (.int .i64 s) ∧ w'.cell? ⟨w.heap.size, 1, none⟩ = some (.int .i64 c) ∧ w'.cell? ⟨w.heap.size, 2, none⟩ = some (.int .i64 o) ∧ w'.cell? ⟨w.heap.size, 3, none⟩ = some (.int .i64 x) ∧ w'.cell? ⟨w.heap.size, 4, none⟩ = some (.int .i64 y) ∧ w'.cell? ⟨w.heap.size, 5, none⟩ = some (.int .i64 z))
      (first | go_keep | (go_split_ands; refine ⟨?_, ?_, ?_, ?_, ?_, ?_⟩ <;> (rw [hb.cell (by simp)]; assumption)))
      ((go_at_call 173; refine (K.out _).mono ?_; rintro e w' ⟨rfl, hb⟩))
    all_goals
      go_wp2
      go_ret
      exact ⟨rfl, ((Below.refl _ w).alloc (Nat.le_refl _) _).drew.trans (hb.mono (by simp))⟩
  have fs := es.symm
  clear es
  subst fs
  by_cases ec : c' = c
  rotate_left 1
  · have qc : (c' == c) = false := by simp [ec]
    clear ec gs gc go gx gy gz
    clear hg
    go_enter Tryz.func143, Tryz.ntmps143
    go_wp2_with fail
    go_region_held3 (fun w' => w'.cell? ⟨w.heap.size, 0, none⟩ = some (.int .i64 s) ∧ w'.cell? ⟨w.heap.size, 1, none⟩ = some (.int .i64 c) ∧ w'.cell? ⟨w.heap.size, 2, none⟩ = some (.int .i64 o) ∧ w'.cell? ⟨w.heap.size, 3, none⟩ = some (.int .i64 x) ∧ w'.cell? ⟨w.heap.size, 4, none⟩ = some (.int .i64 y) ∧ w'.cell? ⟨w.heap.size, 5, none⟩ = some (.int .i64 z))
      (first | go_keep | (go_split_ands; refine ⟨?_, ?_, ?_, ?_, ?_, ?_⟩ <;> (rw [hb.cell (by simp)]; assumption)))
      ((go_at_call 173; refine (K.out _).mono ?_; rintro e w' ⟨rfl, hb⟩))
    all_goals
      go_wp2
      go_ret
      exact ⟨rfl, ((Below.refl _ w).alloc (Nat.le_refl _) _).drew.trans (hb.mono (by simp))⟩
  have fc := ec.symm
  clear ec
  subst fc
  by_cases eo : o' = o
  rotate_left 1
  · have qo : (o' == o) = false := by simp [eo]
    clear eo gs gc go gx gy gz
    clear hg
    go_enter Tryz.func143, Tryz.ntmps143
    go_wp2_with fail
    go_region_held3 (fun w' => w'.cell? ⟨w.heap.size, 0, none⟩ = some (.int .i64 s) ∧ w'.cell? ⟨w.heap.size, 1, none⟩ = some (.int .i64 c) ∧ w'.cell? ⟨w.heap.size, 2, none⟩ = some (.int .i64 o) ∧ w'.cell? ⟨w.heap.size, 3, none⟩ = some (.int .i64 x) ∧ w'.cell? ⟨w.heap.size, 4, none⟩ = some (.int .i64 y) ∧ w'.cell? ⟨w.heap.size, 5, none⟩ = some (.int .i64 z))
      (first | go_keep | (go_split_ands; refine ⟨?_, ?_, ?_, ?_, ?_, ?_⟩ <;> (rw [hb.cell (by simp)]; assumption)))
      ((go_at_call 173; refine (K.out _).mono ?_; rintro e w' ⟨rfl, hb⟩))
    all_goals
      go_wp2
      go_ret
      exact ⟨rfl, ((Below.refl _ w).alloc (Nat.le_refl _) _).drew.trans (hb.mono (by simp))⟩
  have fo := eo.symm
  clear eo
  subst fo
  by_cases ex : x' = x
  rotate_left 1
  · have qx : (x' == x) = false := by simp [ex]
    clear ex gs gc go gx gy gz
    clear hg
    go_enter Tryz.func143, Tryz.ntmps143
    go_wp2_with fail
    go_region_held3 (fun w' => w'.cell? ⟨w.heap.size, 0, none⟩ = some (.int .i64 s) ∧ w'.cell? ⟨w.heap.size, 1, none⟩ = some (.int .i64 c) ∧ w'.cell? ⟨w.heap.size, 2, none⟩ = some (.int .i64 o) ∧ w'.cell? ⟨w.heap.size, 3, none⟩ = some (.int .i64 x) ∧ w'.cell? ⟨w.heap.size, 4, none⟩ = some (.int .i64 y) ∧ w'.cell? ⟨w.heap.size, 5, none⟩ = some (.int .i64 z))
      (first | go_keep | (go_split_ands; refine ⟨?_, ?_, ?_, ?_, ?_, ?_⟩ <;> (rw [hb.cell (by simp)]; assumption)))
      ((go_at_call 173; refine (K.out _).mono ?_; rintro e w' ⟨rfl, hb⟩))
    all_goals
      go_wp2
      go_ret
      exact ⟨rfl, ((Below.refl _ w).alloc (Nat.le_refl _) _).drew.trans (hb.mono (by simp))⟩
  have fx := ex.symm
  clear ex
  subst fx
  by_cases ey : y' = y
  rotate_left 1
  · have qy : (y' == y) = false := by simp [ey]
    clear ey gs gc go gx gy gz
    clear hg
    go_enter Tryz.func143, Tryz.ntmps143
    go_wp2_with fail
    go_region_held3 (fun w' => w'.cell? ⟨w.heap.size, 0, none⟩ = some (.int .i64 s) ∧ w'.cell? ⟨w.heap.size, 1, none⟩ = some (.int .i64 c) ∧ w'.cell? ⟨w.heap.size, 2, none⟩ = some (.int .i64 o) ∧ w'.cell? ⟨w.heap.size, 3, none⟩ = some (.int .i64 x) ∧ w'.cell? ⟨w.heap.size, 4, none⟩ = some (.int .i64 y) ∧ w'.cell? ⟨w.heap.size, 5, none⟩ = some (.int .i64 z))
      (first | go_keep | (go_split_ands; refine ⟨?_, ?_, ?_, ?_, ?_, ?_⟩ <;> (rw [hb.cell (by simp)]; assumption)))
      ((go_at_call 173; refine (K.out _).mono ?_; rintro e w' ⟨rfl, hb⟩))
    all_goals
      go_wp2
      go_ret
      exact ⟨rfl, ((Below.refl _ w).alloc (Nat.le_refl _) _).drew.trans (hb.mono (by simp))⟩
  have fy := ey.symm
  clear ey
  subst fy
  by_cases ez : z' = z
  rotate_left 1
  · have qz : (z' == z) = false := by simp [ez]
    clear ez gs gc go gx gy gz
    clear hg
    go_enter Tryz.func143, Tryz.ntmps143
    go_wp2_with fail
    go_region_held3 (fun w' => w'.cell? ⟨w.heap.size, 0, none⟩ = some (.int .i64 s) ∧ w'.cell? ⟨w.heap.size, 1, none⟩ = some (.int .i64 c) ∧ w'.cell? ⟨w.heap.size, 2, none⟩ = some (.int .i64 o) ∧ w'.cell? ⟨w.heap.size, 3, none⟩ = some (.int .i64 x) ∧ w'.cell? ⟨w.heap.size, 4, none⟩ = some (.int .i64 y) ∧ w'.cell? ⟨w.heap.size, 5, none⟩ = some (.int .i64 z))
      (first | go_keep | (go_split_ands; refine ⟨?_, ?_, ?_, ?_, ?_, ?_⟩ <;> (rw [hb.cell (by simp)]; assumption)))
      ((go_at_call 173; refine (K.out _).mono ?_; rintro e w' ⟨rfl, hb⟩))
    all_goals
      go_wp2
      go_ret
      exact ⟨rfl, ((Below.refl _ w).alloc (Nat.le_refl _) _).drew.trans (hb.mono (by simp))⟩
  have fz := ez.symm
  clear ez
  subst fz
  exact absurd ⟨gs rfl, gc rfl, go rfl, gx rfl, gy rfl, gz rfl⟩ hg
end Go.Proofs.YtlnhgplloaiiiaaGreatDoor

/-
  Contract of Decode for any 24 bytes.
-/
namespace Go.Proofs.YtlnhgplloaiiiaaGreatDoor
open Go.RowKit
set_option linter.unusedVariables false
set_option linter.unusedSimpArgs false

section
variable {P : Program} (w : World)
theorem run_equalIn_bytes (d : Nat) (t e : TypeId) (n : Nat) (ht : P.underlying t = some (.array n e)) (he : P.underlying e = some (.int .u8)) (hsz : ∀ w, (sizeOf e).run P w = .ok 1 w) (xs ys : List Int) (hx : xs.length = n) (hy : ys.length = n) :
    (Op.equalIn (d + 2) t (.agg (xs.map (Value.int .u8)).toArray) (.agg (ys.map (Value.int .u8)).toArray)).run P w = .ok (decide (xs = ys)) w := by
  rw [Op.equalIn]
  simp only [Sem.run_bind, run_underlying ht, Result.andThen_ok, hsz, Std.Legacy.Range.forIn_eq_forIn_range', Std.Legacy.Range.size, Nat.sub_zero, Nat.add_sub_cancel, Nat.div_one]
  have hl : ∀ i ∈ List.range' 0 n 1, i < n := fun i hi => by simpa using (List.mem_range'_1.1 hi).2
  have hd : decide (xs = ys) = decide (∀ i ∈ List.range' 0 n 1, xs[i]?.getD 0 = ys[i]?.getD 0) := by
    refine decide_eq_decide.2 ⟨fun h i _ => by rw [h], fun h => ?_⟩
    refine List.ext_getElem (by omega) fun i h1 h2 => ?_
    have := h i (by rw [List.mem_range'_1]; omega)
    rw [List.getElem?_eq_getElem h1, List.getElem?_eq_getElem h2] at this
    exact this
  rw [hd]
  clear hd
  generalize List.range' 0 n 1 = l at hl ⊢
  induction l with
  | nil => simp
  | cons i l ih =>
    have hi : i < n := hl i (by simp)
    have px : (part e (xs.map (Value.int .u8)).toArray (i * 1)).run P w = .ok (Value.int .u8 (xs[i]?.getD 0)) w := by
      simp [part, isAgg, run_underlying he, List.getElem?_eq_getElem (show i < xs.length by omega)]
    have py : (part e (ys.map (Value.int .u8)).toArray (i * 1)).run P w = .ok (Value.int .u8 (ys[i]?.getD 0)) w := by
      simp [part, isAgg, run_underlying he, List.getElem?_eq_getElem (show i < ys.length by omega)]
    have pe : (Op.equalIn (d + 1) e (Value.int .u8 (xs[i]?.getD 0)) (Value.int .u8 (ys[i]?.getD 0))).run P w = .ok (xs[i]?.getD 0 == ys[i]?.getD 0) w := by
      rw [run_equalIn_int w d e .u8 .u8 _ _ he]
    simp only [List.forIn_cons, Sem.run_bind, px, py, pe, Result.andThen_ok]
    by_cases h : xs[i]?.getD 0 = ys[i]?.getD 0
    · have h2 : (xs[i]?.getD 0 == ys[i]?.getD 0) = true := by simp [h]
      simp only [h2, Bool.not_true, Bool.false_eq_true, if_false, Sem.run_pure, Result.andThen_ok]
      have e2 : (decide (∀ j ∈ i :: l, xs[j]?.getD 0 = ys[j]?.getD 0)) = decide (∀ j ∈ l, xs[j]?.getD 0 = ys[j]?.getD 0) := by
        refine decide_eq_decide.2 ⟨fun hh j hj => hh j (by simp [hj]), fun hh j hj => ?_⟩
        rcases List.mem_cons.1 hj with rfl | hj
        · exact h
        · exact hh j hj
      rw [e2]
      exact ih fun j hj => hl j (by simp [hj])
    · have h2 : (xs[i]?.getD 0 == ys[i]?.getD 0) = false := by simp [h]
      have e2 : (decide (∀ j ∈ i :: l, xs[j]?.getD 0 = ys[j]?.getD 0)) = false := decide_eq_false fun hh => h (hh i (by simp))
      rw [e2]
      simp [h2]
theorem run_neq_bytes (t e : TypeId) (n : Nat) (ht : P.underlying t = some (.array n e)) (he : P.underlying e = some (.int .u8)) (hsz : ∀ w, (sizeOf e).run P w = .ok 1 w) (xs ys : List Int) (hx : xs.length = n) (hy : ys.length = n) :
    (binOp .neq t (.agg (xs.map (Value.int .u8)).toArray) (.agg (ys.map (Value.int .u8)).toArray)).run P w = .ok (.bool (!decide (xs = ys))) w := by
  rw [run_neq_struct, run_equalIn_bytes w 9998 t e n ht he hsz xs ys hx hy]
  rfl
end

set_option maxRecDepth 100000 in
set_option maxHeartbeats 3200000 in
theorem decode_form (F : List Int) (hF : F.length = 24) (h0 : F[0]?.getD 0 ≠ 77) (w : World) :
    Calls Tryz.prog 69 #[.agg (F.map (Value.int .u8)).toArray] w fun e w' => e = .returned (.tuple #[.agg #[.int .i64 0, .int .i64 0, .int .i64 0, .int .i64 0, .int .i64 0, .int .i64 0], .int .i64 1]) ∧ Below w.heap.size w w' := by
  obtain ⟨V, hV⟩ : ∃ V, F.map (Value.int .u8) = V := ⟨_, rfl⟩
  obtain ⟨u, hu⟩ : ∃ u, F[0]?.getD 0 = u := ⟨_, rfl⟩
  have V0 : V[0]? = some (.int .u8 u) := by rw [← hV, List.getElem?_map, List.getElem?_eq_getElem (by omega), ← hu, List.getElem?_eq_getElem (by omega)]; rfl
  have V24 : V.length = 24 := by rw [← hV]; simp [hF]
  have e0 : (u != 77) = true := by rw [← hu]; simp [h0]
  rw [hV]
  have r0 : ((w.alloc (.cells V.toArray 108)).alloc (.cells #[.int .i64 0, .int .i64 0, .int .i64 0, .int .i64 0, .int .i64 0, .int .i64 0] 112)).heap[w.heap.size]? = some (.cells V.toArray 108 (0, 0)) := by
    rw [Below.heap_alloc _ _ _ (by simp)]
    exact heap_alloc_new w _
  have r2 : ((w.alloc (.cells V.toArray 108)).alloc (.cells #[.int .i64 0, .int .i64 0, .int .i64 0, .int .i64 0, .int .i64 0, .int .i64 0] 112)).heap[w.heap.size + 1]? = some (.cells #[.int .i64 0, .int .i64 0, .int .i64 0, .int .i64 0, .int .i64 0, .int .i64 0] 112 (0, 0)) := heap_alloc2_new w _ _
  have hc0 : ((w.alloc (.cells V.toArray 108)).alloc (.cells #[.int .i64 0, .int .i64 0, .int .i64 0, .int .i64 0, .int .i64 0, .int .i64 0] 112)).cell? ⟨w.heap.size, 0, none⟩ = some (.int .u8 u) := by
    rw [cell_of_row _ _ 0 _ _ (0, 0) r0]; simpa using V0
  have HB : Hid (Below w.heap.size w ((w.alloc (.cells V.toArray 108)).alloc (.cells #[.int .i64 0, .int .i64 0, .int .i64 0, .int .i64 0, .int .i64 0, .int .i64 0] 112))) := Lib.hid (((Below.refl _ w).alloc (Nat.le_refl _) _).alloc (by simp) _)
  obtain ⟨W1, hW1⟩ : ∃ W1, ((w.alloc (.cells V.toArray 108)).alloc (.cells #[.int .i64 0, .int .i64 0, .int .i64 0, .int .i64 0, .int .i64 0, .int .i64 0] 112)) = W1 := ⟨_, rfl⟩
  rw [hW1] at r2 hc0 HB
  have R2 := Lib.hid r2
  clear r0 r2 V0 hV hu h0 V24
  go_enter Tryz.func69, Tryz.ntmps69
  go_upto_region 1 with fail
  try rw [hW1]
  clear hW1
  go_wp2_with (refine wpList_store_row rfl 112 (.tmp 2) (.tmp 9) rfl (w.heap.size + 1) rfl _ rfl 112 _ R2.out ?i2 ?i3 ?i4 ?_)
  case i2 => rfl
  case i3 => kernel_rfl
  case i4 => first | exact ⟨rfl, rfl, rfl, rfl, rfl, rfl⟩ | exact rfl | simp
  go_wp2
  refine bodyPost_ret (results_row_tmp Tryz.results69 _ _ (w.heap.size + 1) 112 _ (0, 0) _ rfl (setRow_heap W1 _ _ _ _ _ R2.out) Tryz.underlying112 rfl (by kernel_rfl)) rfl ⟨rfl, ?_⟩
  exact HB.out.trans ((OnlyBlk.setRow W1 (w.heap.size + 1) _).below HB.out.size (by omega))

set_option maxRecDepth 100000 in
set_option maxHeartbeats 3200000 in
theorem decode_check (s c o x y z : Int) (R : List Int) (hR : R.length = 7) (hT : R ≠ tail7 s c o x y z) (h : FitT s c o x y z) (w : World) :
    Calls Tryz.prog 69 #[.agg ((rawF s c o x y z R).map (Value.int .u8)).toArray] w fun e w' =>
      e = .returned (.tuple #[.agg #[.int .i64 0, .int .i64 0, .int .i64 0, .int .i64 0, .int .i64 0, .int .i64 0], .int .i64 27]) ∧ Below w.heap.size w w' := by
  have K1 := Lib.hid (telegramOf_raw s c o x y z R h)
  have K2 := Lib.hid (frameOf_fit s c o x y z h)
  clear h
  have hne0 : ∀ w, (binOp .neq 108 (.agg ((frame s c o x y z).map (Value.int .u8)).toArray) (.agg ((rawF s c o x y z R).map (Value.int .u8)).toArray)).run Tryz.prog w = .ok (.bool true) w := fun w => by
    have h := run_neq_bytes w _ _ 24 Tryz.underlying108 Tryz.underlying5 (fun _ => by kernel_rfl) (frame s c o x y z) (rawF s c o x y z R) (frame_len ..) (rawF_len _ _ _ _ _ _ R hR)
    rw [decide_eq_false (fun e => hT (rawF_inj (by rw [← frame_raw]; exact e.symm)))] at h
    exact h
  obtain ⟨V1, hV1⟩ : ∃ V1, ((frame s c o x y z).map (Value.int .u8)) = V1 := ⟨_, rfl⟩
  obtain ⟨V, hV⟩ : ∃ V, ((rawF s c o x y z R).map (Value.int .u8)) = V := ⟨_, rfl⟩
  have V24 : V.length = 24 := by rw [← hV]; simp [rawF_len s c o x y z R hR]
  have V0 : V[0]? = some (.int .u8 77) := by rw [← hV]; rfl
  have V0' : ∀ (h : 0 < V.length), V[0]'h = .int .u8 77 := fun h => by rw [List.getElem?_eq_getElem h] at V0; exact Option.some.inj V0
  have hne := hne0
  rw [hV1, hV] at hne
  rw [hV1] at K2
  rw [hV] at K1 ⊢
  clear hV hV1 hne0 hT hR
  have hi36 : (Tryz.prog.info? 108).map (·.size) = some V.length := by rw [size24, V24]
  have r0 : ((w.alloc (.cells V.toArray 108)).alloc (.cells #[.int .i64 0, .int .i64 0, .int .i64 0, .int .i64 0, .int .i64 0, .int .i64 0] 112)).heap[w.heap.size]? = some (.cells V.toArray 108 (0, 0)) := by
    rw [Below.heap_alloc _ _ _ (by simp)]
    exact heap_alloc_new w _
  have r2 : ((w.alloc (.cells V.toArray 108)).alloc (.cells #[.int .i64 0, .int .i64 0, .int .i64 0, .int .i64 0, .int .i64 0, .int .i64 0] 112)).heap[w.heap.size + 1]? = some (.cells #[.int .i64 0, .int .i64 0, .int .i64 0, .int .i64 0, .int .i64 0, .int .i64 0] 112 (0, 0)) := heap_alloc2_new w _ _
  have R0 := Lib.hid r0
  have R2 := Lib.hid r2
  clear r0 r2 V0
  go_enter Tryz.func69, Tryz.ntmps69
  go_wp2_with (first
    | (refine wpList_load_row rfl 108 (.tmp 1) rfl w.heap.size rfl 108 _ (0, 0) _ R0.out Tryz.underlying108 rfl ?i1 ?_)
    | (go_at_call 145; refine (K1.out _).mono ?_; rintro e w1 ⟨rfl, hb1⟩))
  case i1 => rw [hi36]; simp
  obtain ⟨W2, hW2⟩ : ∃ W2, w1.alloc (.cells #[.int .i64 s, .int .i64 c, .int .i64 o, .int .i64 x, .int .i64 y, .int .i64 z] 112) = W2 := ⟨_, rfl⟩
  have hs1 : w.heap.size + 2 ≤ w1.heap.size := by have := hb1.size; simpa using this
  have z2 : W2.heap.size = w1.heap.size + 1 := by rw [← hW2]; simp
  have b0 : W2.cell? ⟨w1.heap.size, 0, none⟩ = some (.int .i64 s) := by rw [← hW2]; simp [go_sem]
  have b1 : W2.cell? ⟨w1.heap.size, 1, none⟩ = some (.int .i64 c) := by rw [← hW2]; simp [go_sem]
  have b2 : W2.cell? ⟨w1.heap.size, 2, none⟩ = some (.int .i64 o) := by rw [← hW2]; simp [go_sem]
  have b3 : W2.cell? ⟨w1.heap.size, 3, none⟩ = some (.int .i64 x) := by rw [← hW2]; simp [go_sem]
  have b4 : W2.cell? ⟨w1.heap.size, 4, none⟩ = some (.int .i64 y) := by rw [← hW2]; simp [go_sem]
  have b5 : W2.cell? ⟨w1.heap.size, 5, none⟩ = some (.int .i64 z) := by rw [← hW2]; simp [go_sem]
  have hB2 : Below w.heap.size w W2 := by
    rw [← hW2]
    exact ((((Below.refl _ w).alloc (Nat.le_refl _) _).alloc (by simp) _).trans (hb1.mono (by simp; omega))).alloc (by omega) _
  have q0 : W2.heap[w.heap.size]? = some (.cells V.toArray 108 (0, 0)) := by
    rw [← hW2, Below.heap_alloc _ _ _ (by omega), hb1.block _ (by simp; omega)]; exact R0.out
  have q2 : W2.heap[w.heap.size + 1]? = some (.cells #[.int .i64 0, .int .i64 0, .int .i64 0, .int .i64 0, .int .i64 0, .int .i64 0] 112 (0, 0)) := by
    rw [← hW2, Below.heap_alloc _ _ _ (by omega), hb1.block _ (by simp)]; exact R2.out
  have hr0 : W2.rangeAt w.heap.size 0 V := fun j v hv => by
    rw [cell_of_row W2 w.heap.size (0 + j) _ _ (0, 0) q0]
    simpa using hv
  have U := Tryz.underlying108
  have Q2 := Lib.hid q2
  have HB2 := Lib.hid hB2
  rw [hW2]
  clear hW2 q0 q2 hB2 hb1 R0 R2 K1
  go_region_held3 (fun w' => w'.rangeAt w.heap.size 0 V ∧ w'.cell? ⟨w1.heap.size, 0, none⟩ = some (.int .i64 s) ∧ w'.cell? ⟨w1.heap.size, 1, none⟩ = some (.int .i64 c) ∧ w'.cell? ⟨w1.heap.size, 2, none⟩ = some (.int .i64 o) ∧ w'.cell? ⟨w1.heap.size, 3, none⟩ = some (.int .i64 x) ∧ w'.cell? ⟨w1.heap.size, 4, none⟩ = some (.int .i64 y) ∧ w'.cell? ⟨w1.heap.size, 5, none⟩ = some (.int .i64 z))
    (first | go_keep | (go_split_ands; refine ⟨?_, ?_, ?_, ?_, ?_, ?_, ?_⟩ <;> first | (rw [hb2.cell (by simp; omega)]; assumption) | (refine rangeAt_below' _ _ _ _ _ ?_ hb2 ?_ <;> first | assumption | (simp; try omega))))
    ((go_at_call 144; refine (K2.out _).mono ?_; rintro e w2 ⟨rfl, hb2⟩))
  have hs2 : W2.heap.size ≤ w2.heap.size := by have := hb2.size; simpa using this
  have d0 : w2.cell? ⟨w1.heap.size, 0, none⟩ = some (.int .i64 s) := by rw [hb2.cell (by simp; omega)]; assumption
  have d1 : w2.cell? ⟨w1.heap.size, 1, none⟩ = some (.int .i64 c) := by rw [hb2.cell (by simp; omega)]; assumption
  have d2 : w2.cell? ⟨w1.heap.size, 2, none⟩ = some (.int .i64 o) := by rw [hb2.cell (by simp; omega)]; assumption
  have d3 : w2.cell? ⟨w1.heap.size, 3, none⟩ = some (.int .i64 x) := by rw [hb2.cell (by simp; omega)]; assumption
  have d4 : w2.cell? ⟨w1.heap.size, 4, none⟩ = some (.int .i64 y) := by rw [hb2.cell (by simp; omega)]; assumption
  have d5 : w2.cell? ⟨w1.heap.size, 5, none⟩ = some (.int .i64 z) := by rw [hb2.cell (by simp; omega)]; assumption
  have HB3 := Lib.hid (HB2.out.drew.trans (hb2.mono (by simpa using HB2.out.size)))
  have Q3 := Lib.hid ((hb2.block _ (by simp; omega)).trans Q2.out)
  clear hb2 K2 hne U hr0 b0 b1 b2 b3 b4 b5
  go_wp2_with (refine wpList_store_row rfl 112 (.tmp 2) (.tmp 16) rfl (w.heap.size + 1) rfl _ rfl 112 _ Q3.out ?i2 ?i3 ?i4 ?_)
  case i2 => rfl
  case i3 => kernel_rfl
  case i4 => first | exact ⟨rfl, rfl, rfl, rfl, rfl, rfl⟩ | exact rfl | simp
  go_wp2
  refine bodyPost_ret (results_row_tmp Tryz.results69 _ _ (w.heap.size + 1) 112 _ (0, 0) _ rfl (setRow_heap w2 _ _ _ _ _ Q3.out) Tryz.underlying112 rfl (by kernel_rfl)) rfl ⟨rfl, ?_⟩
  exact HB3.out.trans ((OnlyBlk.setRow w2 (w.heap.size + 1) _).below HB3.out.size (by omega))

set_option maxRecDepth 100000 in
set_option maxHeartbeats 3200000 in
theorem decode_range (s c o x y z : Int) (h : FitT s c o x y z) (hg : ¬ GoodT s c o x y z) (w : World) :
    Calls Tryz.prog 69 #[.agg ((frame s c o x y z).map (Value.int .u8)).toArray] w fun e w' =>
      e = .returned (.tuple #[.agg #[.int .i64 0, .int .i64 0, .int .i64 0, .int .i64 0, .int .i64 0, .int .i64 0], .int .i64 3]) ∧ Below w.heap.size w w' := by
  have K1 := Lib.hid (telegramOf_raw s c o x y z (tail7 s c o x y z) h)
  rw [← frame_raw] at K1
  have K2 := Lib.hid (frameOf_fit s c o x y z h)
  have K3 := Lib.hid (checkTelegram_all s c o x y z)
  rw [telErr_bad hg] at K3
  clear h hg
  obtain ⟨V, hV⟩ : ∃ V, ((frame s c o x y z).map (Value.int .u8)) = V := ⟨_, rfl⟩
  have V24 : V.length = 24 := by rw [← hV]; simp [frame_len]
  have V0 : V[0]? = some (.int .u8 77) := by rw [← hV]; rfl
  have V0' : ∀ (h : 0 < V.length), V[0]'h = .int .u8 77 := fun h => by rw [List.getElem?_eq_getElem h] at V0; exact Option.some.inj V0
  have hne : ∀ w, (binOp .neq 108 (.agg V.toArray) (.agg V.toArray)).run Tryz.prog w = .ok (.bool false) w := fun w => by
    rw [← hV]
    exact run_neq_same w _ _ 24 Tryz.underlying108 Tryz.underlying5 (fun _ => by kernel_rfl) _ (frame_len ..)
  rw [hV] at K1 K2 ⊢
  clear hV
  have hi36 : (Tryz.prog.info? 108).map (·.size) = some V.length := by rw [size24, V24]
  have r0 : ((w.alloc (.cells V.toArray 108)).alloc (.cells #[.int .i64 0, .int .i64 0, .int .i64 0, .int .i64 0, .int .i64 0, .int .i64 0] 112)).heap[w.heap.size]? = some (.cells V.toArray 108 (0, 0)) := by
    rw [Below.heap_alloc _ _ _ (by simp)]
    exact heap_alloc_new w _
  have r2 : ((w.alloc (.cells V.toArray 108)).alloc (.cells #[.int .i64 0, .int .i64 0, .int .i64 0, .int .i64 0, .int .i64 0, .int .i64 0] 112)).heap[w.heap.size + 1]? = some (.cells #[.int .i64 0, .int .i64 0, .int .i64 0, .int .i64 0, .int .i64 0, .int .i64 0] 112 (0, 0)) := heap_alloc2_new w _ _
  have R0 := Lib.hid r0
  have R2 := Lib.hid r2
  clear r0 r2 V0
  go_enter Tryz.func69, Tryz.ntmps69
  go_wp2_with (first
    | (refine wpList_load_row rfl 108 (.tmp 1) rfl w.heap.size rfl 108 _ (0, 0) _ R0.out Tryz.underlying108 rfl ?i1 ?_)
    | (go_at_call 145; refine (K1.out _).mono ?_; rintro e w1 ⟨rfl, hb1⟩))
  case i1 => rw [hi36]; simp
  obtain ⟨W2, hW2⟩ : ∃ W2, w1.alloc (.cells #[.int .i64 s, .int .i64 c, .int .i64 o, .int .i64 x, .int .i64 y, .int .i64 z] 112) = W2 := ⟨_, rfl⟩
  have hs1 : w.heap.size + 2 ≤ w1.heap.size := by have := hb1.size; simpa using this
  have z2 : W2.heap.size = w1.heap.size + 1 := by rw [← hW2]; simp
  have b0 : W2.cell? ⟨w1.heap.size, 0, none⟩ = some (.int .i64 s) := by rw [← hW2]; simp [go_sem]
  have b1 : W2.cell? ⟨w1.heap.size, 1, none⟩ = some (.int .i64 c) := by rw [← hW2]; simp [go_sem]
  have b2 : W2.cell? ⟨w1.heap.size, 2, none⟩ = some (.int .i64 o) := by rw [← hW2]; simp [go_sem]
  have b3 : W2.cell? ⟨w1.heap.size, 3, none⟩ = some (.int .i64 x) := by rw [← hW2]; simp [go_sem]
  have b4 : W2.cell? ⟨w1.heap.size, 4, none⟩ = some (.int .i64 y) := by rw [← hW2]; simp [go_sem]
  have b5 : W2.cell? ⟨w1.heap.size, 5, none⟩ = some (.int .i64 z) := by rw [← hW2]; simp [go_sem]
  have hB2 : Below w.heap.size w W2 := by
    rw [← hW2]
    exact ((((Below.refl _ w).alloc (Nat.le_refl _) _).alloc (by simp) _).trans (hb1.mono (by simp; omega))).alloc (by omega) _
  have q0 : W2.heap[w.heap.size]? = some (.cells V.toArray 108 (0, 0)) := by
    rw [← hW2, Below.heap_alloc _ _ _ (by omega), hb1.block _ (by simp; omega)]; exact R0.out
  have q2 : W2.heap[w.heap.size + 1]? = some (.cells #[.int .i64 0, .int .i64 0, .int .i64 0, .int .i64 0, .int .i64 0, .int .i64 0] 112 (0, 0)) := by
    rw [← hW2, Below.heap_alloc _ _ _ (by omega), hb1.block _ (by simp)]; exact R2.out
  have hr0 : W2.rangeAt w.heap.size 0 V := fun j v hv => by
    rw [cell_of_row W2 w.heap.size (0 + j) _ _ (0, 0) q0]
    simpa using hv
  have U := Tryz.underlying108
  have Q2 := Lib.hid q2
  have HB2 := Lib.hid hB2
  rw [hW2]
  clear hW2 q0 q2 hB2 hb1 R0 R2 K1
  go_region_held3 (fun w' => w'.rangeAt w.heap.size 0 V ∧ w'.cell? ⟨w1.heap.size, 0, none⟩ = some (.int .i64 s) ∧ w'.cell? ⟨w1.heap.size, 1, none⟩ = some (.int .i64 c) ∧ w'.cell? ⟨w1.heap.size, 2, none⟩ = some (.int .i64 o) ∧ w'.cell? ⟨w1.heap.size, 3, none⟩ = some (.int .i64 x) ∧ w'.cell? ⟨w1.heap.size, 4, none⟩ = some (.int .i64 y) ∧ w'.cell? ⟨w1.heap.size, 5, none⟩ = some (.int .i64 z))
    (first | go_keep | (go_split_ands; refine ⟨?_, ?_, ?_, ?_, ?_, ?_, ?_⟩ <;> first | (rw [hb2.cell (by simp; omega)]; assumption) | (refine rangeAt_below' _ _ _ _ _ ?_ hb2 ?_ <;> first | assumption | (simp; try omega))))
    ((go_at_call 144; refine (K2.out _).mono ?_; rintro e w2 ⟨rfl, hb2⟩))
  have hs2 : W2.heap.size ≤ w2.heap.size := by have := hb2.size; simpa using this
  have d0 : w2.cell? ⟨w1.heap.size, 0, none⟩ = some (.int .i64 s) := by rw [hb2.cell (by simp; omega)]; assumption
  have d1 : w2.cell? ⟨w1.heap.size, 1, none⟩ = some (.int .i64 c) := by rw [hb2.cell (by simp; omega)]; assumption
  have d2 : w2.cell? ⟨w1.heap.size, 2, none⟩ = some (.int .i64 o) := by rw [hb2.cell (by simp; omega)]; assumption
  have d3 : w2.cell? ⟨w1.heap.size, 3, none⟩ = some (.int .i64 x) := by rw [hb2.cell (by simp; omega)]; assumption
  have d4 : w2.cell? ⟨w1.heap.size, 4, none⟩ = some (.int .i64 y) := by rw [hb2.cell (by simp; omega)]; assumption
  have d5 : w2.cell? ⟨w1.heap.size, 5, none⟩ = some (.int .i64 z) := by rw [hb2.cell (by simp; omega)]; assumption
  have HB3 := Lib.hid (HB2.out.drew.trans (hb2.mono (by simpa using HB2.out.size)))
  have Q3 := Lib.hid ((hb2.block _ (by simp; omega)).trans Q2.out)
  clear hb2 K2 hne U hr0 b0 b1 b2 b3 b4 b5
  go_wp2_with (first
    | (refine wpList_store_row rfl 112 (.tmp 2) (.tmp 21) rfl (w.heap.size + 1) rfl _ rfl 112 _ Q4.out ?i2 ?i3 ?i4 ?_)
    | ((go_at_call 143; refine (K3.out _).mono ?_; rintro e w3 ⟨rfl, hb3⟩
        have e0 : w3.cell? ⟨w1.heap.size, 0, none⟩ = some (.int .i64 s) := by rw [hb3.cell (by simp; omega)]; assumption
        have e1 : w3.cell? ⟨w1.heap.size, 1, none⟩ = some (.int .i64 c) := by rw [hb3.cell (by simp; omega)]; assumption
        have e2 : w3.cell? ⟨w1.heap.size, 2, none⟩ = some (.int .i64 o) := by rw [hb3.cell (by simp; omega)]; assumption
        have e3 : w3.cell? ⟨w1.heap.size, 3, none⟩ = some (.int .i64 x) := by rw [hb3.cell (by simp; omega)]; assumption
        have e4 : w3.cell? ⟨w1.heap.size, 4, none⟩ = some (.int .i64 y) := by rw [hb3.cell (by simp; omega)]; assumption
        have e5 : w3.cell? ⟨w1.heap.size, 5, none⟩ = some (.int .i64 z) := by rw [hb3.cell (by simp; omega)]; assumption
        have HB4 := Lib.hid (HB3.out.trans (hb3.mono HB3.out.size))
        have Q4 := Lib.hid ((hb3.block _ (by omega)).trans Q3.out)
        clear hb3 d0 d1 d2 d3 d4 d5)))
  case i2 => rfl
  case i3 => kernel_rfl
  case i4 => first | exact ⟨rfl, rfl, rfl, rfl, rfl, rfl⟩ | exact rfl | simp
  go_wp2
  refine bodyPost_ret (results_row_tmp Tryz.results69 _ _ (w.heap.size + 1) 112 _ (0, 0) _ rfl (setRow_heap w3 _ _ _ _ _ Q4.out) Tryz.underlying112 rfl (by kernel_rfl)) rfl ⟨rfl, ?_⟩
  exact HB4.out.trans ((OnlyBlk.setRow w3 (w.heap.size + 1) _).below HB4.out.size (by omega))
end Go.Proofs.YtlnhgplloaiiiaaGreatDoor

/-
  Contracts of the reference's checks of telegrams, for every telegram.
-/
namespace Go.Proofs.YtlnhgplloaiiiaaGreatDoor
open Go.RowKit
set_option linter.unusedVariables false
set_option linter.unusedSimpArgs false

theorem rangeErr_or (n lo hi : Int) : (lo ≤ n ∧ n ≤ hi ∧ rangeErr n lo hi = 0) ∨ (¬ (lo ≤ n ∧ n ≤ hi) ∧ rangeErr n lo hi = 3) := by
  by_cases h : lo ≤ n ∧ n ≤ hi
  · exact .inl ⟨h.1, h.2, rangeErr_in h.1 h.2⟩
  · exact .inr ⟨h, rangeErr_out (by omega)⟩
theorem vectorErr_or (x y z : Int) : ((-1048576 ≤ x ∧ x ≤ 1048576) ∧ (-1048576 ≤ y ∧ y ≤ 1048576) ∧ (-1048576 ≤ z ∧ z ≤ 1048576) ∧ vectorErr x y z = 0) ∨
    (¬ ((-1048576 ≤ x ∧ x ≤ 1048576) ∧ (-1048576 ≤ y ∧ y ≤ 1048576) ∧ (-1048576 ≤ z ∧ z ≤ 1048576)) ∧ vectorErr x y z = 3) := by
  unfold vectorErr
  rcases rangeErr_or x (-1048576) 1048576 with ⟨a, b, h1⟩ | ⟨a, h1⟩ <;> rcases rangeErr_or y (-1048576) 1048576 with ⟨a2, b2, h2⟩ | ⟨a2, h2⟩ <;> rcases rangeErr_or z (-1048576) 1048576 with ⟨a3, b3, h3⟩ | ⟨a3, h3⟩ <;> rw [h1, h2, h3] <;> simp only [firstNZ]
  · exact .inl ⟨⟨a, b⟩, ⟨a2, b2⟩, ⟨a3, b3⟩, by simp⟩
  all_goals exact .inr ⟨by omega, by simp⟩
theorem telErr_first (s c o x y z : Int) : firstNZ [rangeErr s 0 255, rangeErr c 0 65535, rangeErr o 0 255, vectorErr x y z] = telErr s c o x y z := by
  by_cases h : GoodT s c o x y z
  · rw [telErr_good h]
    rw [rangeErr_in h.st.1 h.st.2, rangeErr_in h.ct.1 h.ct.2, rangeErr_in h.od.1 h.od.2]
    rcases vectorErr_or x y z with ⟨_, _, _, h4⟩ | ⟨hn, h4⟩
    · rw [h4]; simp [firstNZ]
    · exact absurd ⟨h.vx, h.vy, h.vz⟩ hn
  · rw [telErr_bad h]
    rcases rangeErr_or s 0 255 with ⟨a, b, h1⟩ | ⟨a, h1⟩ <;> rcases rangeErr_or c 0 65535 with ⟨a2, b2, h2⟩ | ⟨a2, h2⟩ <;> rcases rangeErr_or o 0 255 with ⟨a3, b3, h3⟩ | ⟨a3, h3⟩ <;> rcases vectorErr_or x y z with ⟨v1, v2, v3, h4⟩ | ⟨hn, h4⟩ <;> rw [h1, h2, h3, h4] <;> simp only [firstNZ] <;> first | (simp; done) | exact absurd ⟨⟨a, b⟩, ⟨a2, b2⟩, ⟨a3, b3⟩, v1, v2, v3⟩ h

set_option maxRecDepth 100000 in
set_option maxHeartbeats 6400000 in
theorem refCheckTelegram_all (s c o x y z : Int) (w : World) :
    Calls Tryz.prog 71 #[.agg #[.int .i64 s, .int .i64 c, .int .i64 o, .int .i64 x, .int .i64 y, .int .i64 z]] w fun e w' => e = .returned (.int .i64 (telErr s c o x y z)) ∧ Below w.heap.size w w' := by
  obtain ⟨W0, hW0⟩ : ∃ W0, w.alloc (.cells #[.int .i64 s, .int .i64 c, .int .i64 o, .int .i64 x, .int .i64 y, .int .i64 z] 107) = W0 := ⟨_, rfl⟩
  have HB0 : Hid (Below w.heap.size w W0) := Lib.hid (by rw [← hW0]; exact (Below.refl _ w).alloc (Nat.le_refl _) _)
  have hS0 : w.heap.size < W0.heap.size := by rw [← hW0]; simp
  have a0 : W0.cell? ⟨w.heap.size, 0, none⟩ = some (.int .i64 s) := by rw [← hW0]; simp [go_sem]
  have a1 : W0.cell? ⟨w.heap.size, 1, none⟩ = some (.int .i64 c) := by rw [← hW0]; simp [go_sem]
  have a2 : W0.cell? ⟨w.heap.size, 2, none⟩ = some (.int .i64 o) := by rw [← hW0]; simp [go_sem]
  have a3 : W0.cell? ⟨w.heap.size, 3, none⟩ = some (.int .i64 x) := by rw [← hW0]; simp [go_sem]
  have a4 : W0.cell? ⟨w.heap.size, 4, none⟩ = some (.int .i64 y) := by rw [← hW0]; simp [go_sem]
  have a5 : W0.cell? ⟨w.heap.size, 5, none⟩ = some (.int .i64 z) := by rw [← hW0]; simp [go_sem]
  have hR : Blw W0.heap.size W0 W0.drew := show Below _ _ _ from (Below.refl W0.heap.size W0).drew
  have KV : Hid (∀ w1 : World, Blw W0.heap.size W0 w1 → Calls Tryz.prog 27 #[.agg #[.int .i64 x, .int .i64 y, .int .i64 z]] w1 fun e w' => e = .returned (.int .i64 (vectorErr x y z)) ∧ Below W0.heap.size W0 w') :=
    Lib.hid fun w1 (h : Below W0.heap.size W0 w1) => (refCheckVector_all x y z w1).mono fun e w' ⟨he, hb⟩ => ⟨he, h.trans (hb.mono h.size)⟩
  have KF := Lib.hid (telErr_first s c o x y z)
  obtain ⟨r, hr⟩ : ∃ r, telErr s c o x y z = r := ⟨_, rfl⟩
  rw [hr] at KF ⊢
  clear hr
  go_enter Tryz.func71, Tryz.ntmps71
  go_upto_region 1 with fail
  try rw [hW0]
  clear hW0
  go_region_held3 (fun w' => w'.cell? ⟨w.heap.size, 0, none⟩ = some (.int .i64 s) ∧ w'.cell? ⟨w.heap.size, 1, none⟩ = some (.int .i64 c) ∧ w'.cell? ⟨w.heap.size, 2, none⟩ = some (.int .i64 o) ∧ w'.cell? ⟨w.heap.size, 3, none⟩ = some (.int .i64 x) ∧ w'.cell? ⟨w.heap.size, 4, none⟩ = some (.int .i64 y) ∧ w'.cell? ⟨w.heap.size, 5, none⟩ = some (.int .i64 z) ∧ Blw W0.heap.size W0 w')
    (first | (go_split_ands; refine ⟨?_, ?_, ?_, ?_, ?_, ?_, ?_⟩ <;> first | (with_reducible assumption) | exact hb2 | ((rw [hb2.cell (by show _ < W0.heap.size; omega)]; assumption))) | (go_split_ands; refine ⟨?_, ?_, ?_, ?_, ?_, ?_, ?_⟩ <;> first | ((rw [(hb2.alloc hb2.size _).cell (by show _ < W0.heap.size; omega)]; assumption)) | exact (hb2.alloc hb2.size _ : Below _ _ _)) | go_keep)
    (first
      | (go_at_call 17; refine (refCheckRange_any _ _ _ _).mono ?_; rintro e w2 ⟨rfl, rfl⟩)
      | (go_at_call 27; refine (KV.out _ (by assumption)).mono ?_; rintro e w2 ⟨rfl, hb2⟩)
      | ((go_at_call 93; refine (refFirst_any _ 0 4 4 [rangeErr s 0 255, rangeErr c 0 65535, rangeErr o 0 255, vectorErr x y z] rfl (by omega) _ ?_).mono ?_; rotate_left 1; rintro e w' ⟨rfl, rfl⟩; rw [KF.out]; rotate_left 1; (intro j hj; match j, hj with | 0, _ => simp [go_sem] | 1, _ => simp [go_sem] | 2, _ => simp [go_sem] | 3, _ => simp [go_sem]))))
  all_goals
    go_wp2_with fail
    go_ret
    exact ⟨rfl, HB0.out.trans ((hb2.alloc hb2.size _).mono HB0.out.size)⟩

/-- A slice, nil or not, of telegrams. -/
def AnyTels (w : World) (a : Option Addr) (n : Nat) (L : List Tel) : Prop := L.length = n ∧ ∀ j, j < n → ∃ b q, a = some ⟨b, q, none⟩ ∧ b < w.heap.size ∧ TelsAt w b q L
theorem AnyTels.kept {w w' : World} {a : Option Addr} {n : Nat} {L : List Tel} (h : AnyTels w a n L) (hb : Below w.heap.size w w') : AnyTels w' a n L :=
  ⟨h.1, fun j hj => by
    obtain ⟨b, q, e, h1, h2⟩ := h.2 j hj
    exact ⟨b, q, e, Nat.lt_of_lt_of_le h1 hb.size, h2.kept hb h1⟩⟩
noncomputable def Tel.err (t : Tel) : Int := telErr t.s t.c t.o t.x t.y t.z
/-- The first error of telegrams. -/
noncomputable def telsErr (L : List Tel) : Int := firstNZ (L.map Tel.err)
theorem Tel.err_or (t : Tel) : (t.err = 0 ∧ t.Good) ∨ t.err = 3 := by
  by_cases h : t.Good
  · exact .inl ⟨telErr_good h, h⟩
  · exact .inr (telErr_bad h)

set_option maxRecDepth 100000 in
set_option maxHeartbeats 3200000 in
theorem refCheckTelegrams_any (L : List Tel) (a : Option Addr) (n cp : Nat) (hm : n ≤ 512) (w : World) (hA : AnyTels w a n L) :
    Calls Tryz.prog 80 #[.slice a n cp] w fun e w' => e = .returned (.int .i64 (telsErr L)) ∧ Below w.heap.size w w' := by
  have HC := Lib.hid hA.2
  have HN := Lib.hid hA.1.symm
  have i1 : ((n : Int) ≤ 512) := by omega
  clear hA
  have s35 : (Tryz.prog.info? 107).map (·.size) = some 6 := by kernel_rfl
  go_enter Tryz.func80, Tryz.ntmps80
  go_wp2
  go_loopw [3] (fun i wr => ∃ k : Nat, k ≤ n ∧ i = .int .i64 k ∧ Hid (∀ j, j < k → (L.map Tel.err).getD j 0 = 0) ∧ Below w.heap.size w wr) (fun i _ => n - (intOf i).toNat)
  case atStart => exact ⟨0, Nat.zero_le _, rfl, Lib.hid (fun j hj => absurd hj (by omega)), Below.refl _ _⟩
  case round =>
    obtain ⟨k, hk, rfl, hh, hnx⟩ := hrel
    by_cases hlt : k < n
    · have hlt2 : k < L.length := by have := HN.out; omega
      obtain ⟨b, q, rfl, hb, hT0⟩ := HC.out k hlt
      have hT := hT0 k hlt2
      obtain ⟨t, ht⟩ : ∃ t, L[k]?.getD tel0 = t := ⟨_, rfl⟩
      rw [ht] at hT
      have hr : wr.rangeAt b (q + k * 6) t.val := fun j v hv => by
        rw [hnx.cell (by exact hb)]
        exact hT j v hv
      have HR := Lib.hid hr
      have HE : Hid ((L.map Tel.err).getD k 0 = t.err) := Lib.hid (by rw [List.getD_eq_getElem?_getD, List.getElem?_map, List.getElem?_eq_getElem hlt2, ← ht, List.getElem?_eq_getElem hlt2]; rfl)
      have K := Lib.hid (refCheckTelegram_all t.s t.c t.o t.x t.y t.z wr)
      have hte : telErr t.s t.c t.o t.x t.y t.z = t.err := rfl
      rw [hte] at K
      have HBW := Lib.hid hnx
      clear ht hr hT hT0 hlt2 hte HC
      have hv : t.val = [.int .i64 t.s, .int .i64 t.c, .int .i64 t.o, .int .i64 t.x, .int .i64 t.y, .int .i64 t.z] := rfl
      obtain ⟨r, hr⟩ : ∃ r, t.err = r := ⟨_, rfl⟩
      rw [hr] at K HE
      clear hr hnx
      by_cases h0 : r = 0
      · have e0 : (r != 0) = false := by simp [h0]
        have H0 := Lib.hid h0
        clear h0
        go_wp2_with (first
          | (refine wpList_load_mid rfl 107 (.tmp 16) rfl b (q + k * 6) rfl t.val _ HR.out Tryz.underlying107 rfl (by rw [s35]; rfl) ?_)
          | (go_at_call 71; refine K.out.mono ?_; rintro e w2 ⟨rfl, hb2⟩))
        go_roundw
        case rel => exact ⟨k + 1, by omega, by go_num, Lib.hid (fun j hj => by
          by_cases hjk : j < k
          · exact hh.out j hjk
          · obtain rfl : j = k := by omega
            rw [HE.out]; exact H0.out), HBW.out.trans (hb2.mono HBW.out.size)⟩
        case measure => simp [intOf]; omega
      · have e0 : (r != 0) = true := by simp [h0]
        have H0 := Lib.hid h0
        clear h0
        go_wp2_with (first
          | (refine wpList_load_mid rfl 107 (.tmp 16) rfl b (q + k * 6) rfl t.val _ HR.out Tryz.underlying107 rfl (by rw [s35]; rfl) ?_)
          | (go_at_call 71; refine K.out.mono ?_; rintro e w2 ⟨rfl, hb2⟩))
        go_ret
        exact ⟨ret_int (by unfold telsErr; rw [firstNZ_at (by rw [List.length_map, ← HN.out]; exact hlt) hh.out (by rw [HE.out]; exact H0.out), HE.out]), HBW.out.trans (hb2.mono HBW.out.size)⟩
    · obtain rfl : k = n := by omega
      have HBW := Lib.hid hnx
      clear hnx
      go_wp2
      go_ret
      exact ⟨ret_int (by unfold telsErr; exact (firstNZ_end fun j hj => hh.out j (by have := HN.out; rw [List.length_map] at hj; omega)).symm), HBW.out⟩
end Go.Proofs.YtlnhgplloaiiiaaGreatDoor

/-
  Contracts of Decode for any 24 bytes, and of telegramAt at any place of any stream.
-/
namespace Go.Proofs.YtlnhgplloaiiiaaGreatDoor
open Go.RowKit
set_option linter.unusedVariables false
set_option linter.unusedSimpArgs false

def byteAt (F : List Int) (j : Nat) : Int := F[j]?.getD 0
/-- The telegram that bytes would be. -/
def telOf (F : List Int) : Tel := ⟨byteAt F 1, numOf [byteAt F 2, byteAt F 3], byteAt F 4, numOf [byteAt F 5, byteAt F 6, byteAt F 7, byteAt F 8] - 1048576, numOf [byteAt F 9, byteAt F 10, byteAt F 11, byteAt F 12] - 1048576, numOf [byteAt F 13, byteAt F 14, byteAt F 15, byteAt F 16] - 1048576⟩
def Tel.tail (t : Tel) : List Int := tail7 t.s t.c t.o t.x t.y t.z
def Tel.agg (t : Tel) : Value := .agg #[.int .i64 t.s, .int .i64 t.c, .int .i64 t.o, .int .i64 t.x, .int .i64 t.y, .int .i64 t.z]
noncomputable def decErr (F : List Int) : Int := if byteAt F 0 ≠ 77 then 1 else if F.drop 17 ≠ (telOf F).tail then 27 else (telOf F).err
noncomputable def decTel (F : List Int) : Tel := if decErr F = 0 then telOf F else tel0
def Bytes24 (F : List Int) : Prop := F.length = 24 ∧ ∀ v ∈ F, 0 ≤ v ∧ v ≤ 255
theorem list24 {F : List Int} (h : F.length = 24) : ∃ f0 f1 f2 f3 f4 f5 f6 f7 f8 f9 f10 f11 f12 f13 f14 f15 f16 R, F = f0 :: ([f1, f2, f3, f4, f5, f6, f7, f8, f9, f10, f11, f12, f13, f14, f15, f16] ++ R) ∧ R.length = 7 := by
  match F, h with
  | [f0, f1, f2, f3, f4, f5, f6, f7, f8, f9, f10, f11, f12, f13, f14, f15, f16, a, b, c, d, e, f, g], _ => exact ⟨f0, f1, f2, f3, f4, f5, f6, f7, f8, f9, f10, f11, f12, f13, f14, f15, f16, [a, b, c, d, e, f, g], rfl, rfl⟩
/-- Bytes that begin with the mark are those of their telegram. -/
theorem raw_telOf (F : List Int) (h : Bytes24 F) (h0 : byteAt F 0 = 77) :
    F = rawF (telOf F).s (telOf F).c (telOf F).o (telOf F).x (telOf F).y (telOf F).z (F.drop 17) ∧ (F.drop 17).length = 7 ∧ FitT (telOf F).s (telOf F).c (telOf F).o (telOf F).x (telOf F).y (telOf F).z := by
  obtain ⟨hl, hb⟩ := h
  obtain ⟨f0, f1, f2, f3, f4, f5, f6, f7, f8, f9, f10, f11, f12, f13, f14, f15, f16, R, rfl, hR⟩ := list24 hl
  obtain rfl : f0 = 77 := h0
  obtain ⟨e1, e2⟩ := raw_of f1 f2 f3 f4 f5 f6 f7 f8 f9 f10 f11 f12 f13 f14 f15 f16 R (fun v hv => hb v (by
    refine List.mem_cons_of_mem _ (List.mem_append_left _ hv)))
  refine ⟨?_, by simpa using hR, e2⟩
  exact e1

theorem decode_all (F : List Int) (h : Bytes24 F) (w : World) :
    Calls Tryz.prog 69 #[.agg (F.map (Value.int .u8)).toArray] w fun e w' => e = .returned (.tuple #[(decTel F).agg, .int .i64 (decErr F)]) ∧ Below w.heap.size w w' := by
  by_cases h0 : byteAt F 0 = 77
  · obtain ⟨e1, hR, hf⟩ := raw_telOf F h h0
    by_cases hT : F.drop 17 = (telOf F).tail
    · have hE : decErr F = (telOf F).err := by unfold decErr; rw [if_neg (by simp [h0]), if_neg (by simp [hT])]
      have eF : F = frame (telOf F).s (telOf F).c (telOf F).o (telOf F).x (telOf F).y (telOf F).z := by
        rw [frame_raw]
        have e2 : rawF (telOf F).s (telOf F).c (telOf F).o (telOf F).x (telOf F).y (telOf F).z (F.drop 17) = rawF (telOf F).s (telOf F).c (telOf F).o (telOf F).x (telOf F).y (telOf F).z (tail7 (telOf F).s (telOf F).c (telOf F).o (telOf F).x (telOf F).y (telOf F).z) := by rw [hT]; rfl
        exact e1.trans e2
      unfold decTel
      rw [hE]
      by_cases hg : (telOf F).Good
      · have e0 : (telOf F).err = 0 := telErr_good hg
        rw [e0, if_pos rfl]
        have hd := decode_any _ _ _ _ _ _ hg w
        rw [← eF] at hd
        exact hd
      · have e0 : (telOf F).err = 3 := telErr_bad hg
        rw [e0, if_neg (by decide)]
        have hd := decode_range _ _ _ _ _ _ hf hg w
        rw [← eF] at hd
        exact hd
    · have hE : decErr F = 27 := by unfold decErr; rw [if_neg (by simp [h0]), if_pos hT]
      unfold decTel
      rw [hE, if_neg (by decide)]
      have hd := decode_check _ _ _ _ _ _ (F.drop 17) hR hT hf w
      rw [← e1] at hd
      exact hd
  · have hE : decErr F = 1 := by unfold decErr; rw [if_pos h0]
    unfold decTel
    rw [hE, if_neg (by decide)]
    exact decode_form F h.1 h0 w

set_option maxRecDepth 100000 in
set_option maxHeartbeats 3200000 in
theorem telegramAt_end (a : Option Addr) (n cp k : Nat) (hk : k ≤ n) (hn : n ≤ 12288) (h : n < k + 24) (w : World) :
    Calls Tryz.prog 146 #[.slice a n cp, .int .i64 k] w fun e w' => e = .returned (.tuple #[tel0.agg, .bool false]) ∧ Below w.heap.size w w' := by
  have i1 : (n : Int) - (k : Int) < 24 := by omega
  have i2 : (n : Int) ≤ 12288 := by omega
  have i3 : (k : Int) ≤ (n : Int) := by omega
  have r2 : (w.alloc (.cells #[.int .i64 0, .int .i64 0, .int .i64 0, .int .i64 0, .int .i64 0, .int .i64 0] 112)).heap[w.heap.size]? = some (.cells #[.int .i64 0, .int .i64 0, .int .i64 0, .int .i64 0, .int .i64 0, .int .i64 0] 112 (0, 0)) := heap_alloc_new w _
  have HB : Hid (Below w.heap.size w (w.alloc (.cells #[.int .i64 0, .int .i64 0, .int .i64 0, .int .i64 0, .int .i64 0, .int .i64 0] 112))) := Lib.hid ((Below.refl _ w).alloc (Nat.le_refl _) _)
  obtain ⟨W1, hW1⟩ : ∃ W1, (w.alloc (.cells #[.int .i64 0, .int .i64 0, .int .i64 0, .int .i64 0, .int .i64 0, .int .i64 0] 112)) = W1 := ⟨_, rfl⟩
  rw [hW1] at r2 HB
  have R2 := Lib.hid r2
  clear r2
  go_enter Tryz.func146, Tryz.ntmps146
  go_upto_region 1 with fail
  try rw [hW1]
  clear hW1
  go_wp2_with (refine wpList_store_row rfl 112 (.tmp 4) (.tmp 14) rfl w.heap.size rfl _ rfl 112 _ R2.out ?i2 ?i3 ?i4 ?_)
  case i2 => rfl
  case i3 => kernel_rfl
  case i4 => first | exact ⟨rfl, rfl, rfl, rfl, rfl, rfl⟩ | exact rfl | simp
  go_wp2
  refine bodyPost_ret (results_row_tmp Tryz.results146 _ _ w.heap.size 112 _ (0, 0) _ rfl (setRow_heap W1 _ _ _ _ _ R2.out) Tryz.underlying112 rfl (by kernel_rfl)) rfl ⟨rfl, ?_⟩
  exact HB.out.trans ((OnlyBlk.setRow W1 w.heap.size _).below HB.out.size (by omega))

set_option maxRecDepth 100000 in
set_option maxHeartbeats 3200000 in
theorem telegramAt_raw (F : List Int) (hF : F.length = 24) (s c o x y z r : Int) (ok : Bool) (hok : (r == 0) = ok) (hK : ∀ w : World, Calls Tryz.prog 69 #[.agg (F.map (Value.int .u8)).toArray] w fun e w' => e = .returned (.tuple #[.agg #[.int .i64 s, .int .i64 c, .int .i64 o, .int .i64 x, .int .i64 y, .int .i64 z], .int .i64 r]) ∧ Below w.heap.size w w') (b q n cp : Nat) (k : Nat) (hk : k + 24 ≤ n) (hn : n ≤ 12288) (hcp : n ≤ cp) (hcq : cp ≤ 9223372036854775807) (w : World) (hb : b < w.heap.size)
    (hc : w.rangeAt b (q + k) ((F).map (Value.int .u8))) :
    Calls Tryz.prog 146 #[.slice (some ⟨b, q, none⟩) n cp, .int .i64 k] w fun e w' =>
      e = .returned (.tuple #[.agg #[.int .i64 s, .int .i64 c, .int .i64 o, .int .i64 x, .int .i64 y, .int .i64 z], .bool ok]) ∧ Below w.heap.size w w' := by
  have K1 := Lib.hid hK
  clear hK
  obtain ⟨V, hV⟩ : ∃ V, ((F).map (Value.int .u8)) = V := ⟨_, rfl⟩
  have V24 : V.length = 24 := by rw [← hV]; simp [hF]
  have V1 : ∀ v ∈ V, v.oneCell' = true := by
    rw [← hV]; intro v hv
    obtain ⟨u, _, rfl⟩ := List.mem_map.1 hv
    rfl
  rw [hV] at K1 hc
  have HC := Lib.hid hc
  clear hV hc
  have i1 : ((k : Int) + 24 ≤ (n : Int)) := by omega
  have i2 : ((n : Int) ≤ (cp : Int)) := by omega
  have i3 : ((n : Int) ≤ 12288) := by omega
  have i4 : ((k : Int) ≤ (n : Int)) := by omega
  have i5 : k ≤ n := by omega
  have i6 : (0 : Int) ≤ (k : Int) := by omega
  have i7 : ((k : Int) ≤ (cp : Int)) := by omega
  go_enter Tryz.func146, Tryz.ntmps146
  go_wp2_with fail
  obtain ⟨W2, hW2⟩ : ∃ W2, ((w.alloc (.cells #[.int .i64 0, .int .i64 0, .int .i64 0, .int .i64 0, .int .i64 0, .int .i64 0] 112)).alloc (.cells ((List.replicate 24 (Value.int .u8 0)).toArray) 108)) = W2 := ⟨_, rfl⟩
  have z2 : W2.heap.size = w.heap.size + 2 := by rw [← hW2]; simp
  have hB2 : Below w.heap.size w W2 := by rw [← hW2]; exact (((Below.refl _ w).alloc (Nat.le_refl _) _).alloc (by simp) _)
  have r0 : W2.heap[w.heap.size]? = some (.cells #[.int .i64 0, .int .i64 0, .int .i64 0, .int .i64 0, .int .i64 0, .int .i64 0] 112 (0, 0)) := by
    rw [← hW2, Below.heap_alloc _ _ _ (by simp)]
    exact heap_alloc_new w _
  have r1 : W2.heap[w.heap.size + 1]? = some (.cells ((List.replicate 24 (Value.int .u8 0)).toArray) 108 (0, 0)) := by
    rw [← hW2]
    exact heap_alloc2_new w _ _
  simp only [List.replicate] at hW2
  rw [hW2]
  clear hW2
  obtain ⟨W3, hW3⟩ : ∃ W3, W2.drew = W3 := ⟨_, rfl⟩
  have hcp' : (Builtin.copy_ #[109, 109] 3 #[.slice (some ⟨w.heap.size + 1, 0, none⟩) 24 24, .slice (some ⟨b, q + k, none⟩) (n - k) (cp - k)]).run Tryz.prog W2.drew = .ok (goInt 24) (W2.drew.setRow (w.heap.size + 1) V.toArray) := by
    have e := run_copy_row (P := Tryz.prog) W2.drew 109 109 3 5 (w.heap.size + 1) 0 24 24 ⟨b, q + k, none⟩ (n - k) (cp - k) _ 108 V Tryz.underlying109 (by kernel_rfl) (show W2.drew.heap[w.heap.size + 1]? = _ from r1)
      (by rw [V24]; show 24 = Nat.min (n - k) 24; simp only [Nat.min_def]; split <;> omega)
      (fun j v hv => by rw [Addr.add_mid]; exact (hB2.cell (w' := W2) hb).trans (HC.out j v hv)) (by simp [V24]) V1
    rw [V24] at e
    simpa [V24] using e
  refine wp_region_still_tail 4 (by kernel_rfl) (by kernel_rfl) ?_
  simp only [List.take_succ_cons, List.take_zero, List.drop_succ_cons, List.drop_zero]
  change wpStill _ _ W2.drew (fun a' => wpList _ _ _ _ a' W2.drew) _ _
  rw [hW3] at hcp' ⊢
  have HW3 := Lib.hid hW3
  have R0 := Lib.hid r0
  have R1 := Lib.hid r1
  have HB2 := Lib.hid hB2
  clear hW3 r0 r1 hB2
  repeat still_step
  refine wpStill_nil ?_
  have R3 := Lib.hid (setRow_heap W3 (w.heap.size + 1) _ V.toArray _ _ (by rw [← HW3.out]; exact R1.out : W3.heap[w.heap.size + 1]? = _))
  have Q3 : Hid ((W3.setRow (w.heap.size + 1) V.toArray).heap[w.heap.size]? = some (.cells #[.int .i64 0, .int .i64 0, .int .i64 0, .int .i64 0, .int .i64 0, .int .i64 0] 112 (0, 0))) := Lib.hid (by
    rw [setRow_other W3 _ _ _ (by omega), ← HW3.out]; exact R0.out)
  have HB3 : Hid (Below w.heap.size w (W3.setRow (w.heap.size + 1) V.toArray)) := Lib.hid (by
    have e : Below w.heap.size w W3 := by rw [← HW3.out]; exact HB2.out.drew
    exact e.trans ((OnlyBlk.setRow W3 (w.heap.size + 1) _).below e.size (by omega)))
  have Z3 : w.heap.size + 2 ≤ (W3.setRow (w.heap.size + 1) V.toArray).heap.size := by rw [← HW3.out]; simp [z2]
  have hi36 : (Tryz.prog.info? 108).map (·.size) = some V.toArray.size := by rw [size24]; simp [V24]
  obtain ⟨W4, hW4⟩ : ∃ W4, W3.setRow (w.heap.size + 1) V.toArray = W4 := ⟨_, rfl⟩
  rw [hW4] at hcp' R3 Q3 HB3 Z3
  clear hW4 z2
  go_wp2_with (first
    | (refine wpList_load_row rfl 108 (.tmp 6) rfl (w.heap.size + 1) rfl 108 _ (0, 0) _ R3.out Tryz.underlying108 rfl hi36 ?_)
    | (refine wpList_store_row rfl 112 (.tmp 4) (.tmp 25) rfl w.heap.size rfl _ rfl 112 _ Q4.out ?i2 ?i3 ?i4 ?_)
    | ((go_at_call 69; refine (K1.out _).mono ?_; rintro e w4 ⟨rfl, hb4⟩
        have hs4 := hb4.size
        have Q4 : Hid ((w4.alloc (.cells #[.int .i64 s, .int .i64 c, .int .i64 o, .int .i64 x, .int .i64 y, .int .i64 z] 112)).heap[w.heap.size]? = some (.cells #[.int .i64 0, .int .i64 0, .int .i64 0, .int .i64 0, .int .i64 0, .int .i64 0] 112 (0, 0))) := Lib.hid (by
          rw [Below.heap_alloc _ _ _ (by omega), hb4.block _ (by omega)]; exact Q3.out)
        have HB4 := Lib.hid ((HB3.out.trans (hb4.mono (by omega))).alloc (by omega) (.cells #[.int .i64 s, .int .i64 c, .int .i64 o, .int .i64 x, .int .i64 y, .int .i64 z] 112))
        clear hb4)))
  case i2 => rfl
  case i3 => kernel_rfl
  case i4 => exact ⟨rfl, rfl, rfl, rfl, rfl, rfl⟩
  go_wp2
  refine bodyPost_ret (results_row_tmp Tryz.results146 _ _ w.heap.size 112 _ (0, 0) _ rfl (setRow_heap _ _ _ _ _ _ Q4.out) Tryz.underlying112 rfl (by kernel_rfl)) rfl ⟨rfl, ?_⟩
  exact HB4.out.trans ((OnlyBlk.setRow _ w.heap.size _).below HB4.out.size (by omega))

def streamAt (S : List Int) (k : Nat) : List Int := (S.drop k).take 24
noncomputable def okAt (S : List Int) (n k : Nat) : Bool := if k + 24 ≤ n then (decErr (streamAt S k) == 0) else false
noncomputable def telAt (S : List Int) (n k : Nat) : Tel := if k + 24 ≤ n then decTel (streamAt S k) else tel0
def BytesV (S : List Int) (n : Nat) : Prop := S.length = n ∧ ∀ v ∈ S, 0 ≤ v ∧ v ≤ 255
theorem streamAt_bytes {S : List Int} {n k : Nat} (h : BytesV S n) (hk : k + 24 ≤ n) : Bytes24 (streamAt S k) := by
  refine ⟨by unfold streamAt; rw [List.length_take, List.length_drop, h.1]; omega, fun v hv => h.2 v (List.mem_of_mem_drop (List.mem_of_mem_take hv))⟩

theorem telegramAt_all (S : List Int) (b q n cp k : Nat) (hS : BytesV S n) (hk : k ≤ n) (hn : n ≤ 12288) (hcp : n ≤ cp) (hcq : cp ≤ 9223372036854775807) (w : World) (hb : b < w.heap.size) (hc : w.rangeAt b q (S.map (Value.int .u8))) :
    Calls Tryz.prog 146 #[.slice (some ⟨b, q, none⟩) n cp, .int .i64 k] w fun e w' => e = .returned (.tuple #[(telAt S n k).agg, .bool (okAt S n k)]) ∧ Below w.heap.size w w' := by
  by_cases h : k + 24 ≤ n
  · have hF := streamAt_bytes hS h
    unfold telAt okAt
    rw [if_pos h, if_pos h]
    refine telegramAt_raw (streamAt S k) hF.1 _ _ _ _ _ _ (decErr (streamAt S k)) _ rfl (fun w => decode_all _ hF w) b q n cp k h hn hcp hcq w hb ?_
    intro j v hv
    have hj : j < 24 := by
      have := (List.getElem?_eq_some_iff.1 hv).1
      rw [List.length_map, hF.1] at this
      exact this
    have h2 := hc (k + j) v (by
      rw [← hv, List.getElem?_map, List.getElem?_map]
      unfold streamAt
      rw [List.getElem?_take_of_lt hj, List.getElem?_drop])
    rw [show q + k + j = q + (k + j) by omega]
    exact h2
  · unfold telAt okAt
    rw [if_neg h, if_neg h]
    exact telegramAt_end _ n cp k hk hn (by omega) w
end Go.Proofs.YtlnhgplloaiiiaaGreatDoor

/-
  Contracts of the reference's Checksum, Number and Bytes.
-/
namespace Go.Proofs.YtlnhgplloaiiiaaGreatDoor
open Go.RowKit
set_option linter.unusedVariables false
set_option linter.unusedSimpArgs false

set_option maxHeartbeats 1600000 in
theorem refChecksum_any (f o n c : Nat) (l : List Int) (w : World) (hl : l.length = n) (hm : n ≤ 100000) (hbd : ∀ j, j < n → 0 ≤ l[j]?.getD 0 ∧ l[j]?.getD 0 ≤ 255)
    (hc : ∀ j, j < n → w.cell? ⟨f, o + j, none⟩ = some (.int .u8 (l[j]?.getD 0))) :
    Calls Tryz.prog 150 #[.slice (some ⟨f, o, none⟩) n c] w fun e w' => e = .returned (.int .i64 (chkOf l)) ∧ w = w' := by
  have Hl := Lib.hid hl
  have Hc := Lib.hid hc
  have Hb := Lib.hid hbd
  clear hl hc hbd
  go_enter Tryz.func150, Tryz.ntmps150
  go_wp2
  go_loop [3, 4] (fun x i => ∃ k : Nat, k ≤ n ∧ i = .int .i64 k ∧ x = .int .i64 (chkOf (l.take k))) (fun _ i => n - (intOf i).toNat)
  case atStart => exact ⟨0, Nat.zero_le _, rfl, rfl⟩
  case round =>
    obtain ⟨k, hk, rfl, rfl⟩ := hrel
    have hx := chk_bd (l.take k)
    by_cases hlt : k < n
    · have hcell := Hc.out k hlt
      have hb := Hb.out k hlt
      have HS : Hid (chkOf (l.take (k + 1)) = (277 * chkOf (l.take k) + l[k]?.getD 0) % 16777199) := foldl_take_succ _ _ _ _ (by have := Hl.out; omega) 0
      go_wp2
      go_round
      case rel => exact ⟨k + 1, by omega, by go_num, by rw [HS.out]⟩
      case measure => simp [intOf]; omega
    · go_wp2
      go_ret
      exact ⟨ret_int (by rw [List.take_of_length_le (by have := Hl.out; omega)]), rfl⟩

set_option maxHeartbeats 1600000 in
theorem refNumber_any (f o n c : Nat) (l : List Int) (w : World) (hl : l.length = n) (hm : n ≤ 4) (hbd : ∀ j, j < n → 0 ≤ l[j]?.getD 0 ∧ l[j]?.getD 0 ≤ 255)
    (hc : ∀ j, j < n → w.cell? ⟨f, o + j, none⟩ = some (.int .u8 (l[j]?.getD 0))) :
    Calls Tryz.prog 151 #[.slice (some ⟨f, o, none⟩) n c] w fun e w' => e = .returned (.int .i64 (numOf l)) ∧ w = w' := by
  have Hl := Lib.hid hl
  have Hc := Lib.hid hc
  have Hb := Lib.hid hbd
  clear hl hc hbd
  go_enter Tryz.func151, Tryz.ntmps151
  go_wp2
  go_loop [3, 4] (fun x i => ∃ k : Nat, k ≤ n ∧ i = .int .i64 k ∧ x = .int .i64 (numOf (l.take k)) ∧ 0 ≤ numOf (l.take k) ∧ numOf (l.take k) < lim k) (fun _ i => n - (intOf i).toNat)
  case atStart => exact ⟨0, Nat.zero_le _, rfl, rfl, by simp [numOf], by simp [numOf, lim]⟩
  case round =>
    obtain ⟨k, hk, rfl, rfl, hx0, hx1⟩ := hrel
    by_cases hlt : k < n
    · have hcell := Hc.out k hlt
      have hb := Hb.out k hlt
      have HS : Hid (numOf (l.take (k + 1)) = numOf (l.take k) * 256 + l[k]?.getD 0) := foldl_take_succ _ _ _ _ (by have := Hl.out; omega) 0
      have hL := lim_succ k (by omega)
      have hx2 : numOf (l.take k) ≤ 4294967295 := by omega
      have H1 := Lib.hid hx1
      have HL := Lib.hid hL
      clear hx1 hL
      go_wp2
      go_round
      case rel => exact ⟨k + 1, by omega, by go_num, by rw [HS.out, Int.mul_comm], by rw [HS.out]; omega, by rw [HS.out, HL.out.1]; have := H1.out; omega⟩
      case measure => simp [intOf]; omega
    · go_wp2
      go_ret
      exact ⟨ret_int (by rw [List.take_of_length_le (by have := Hl.out; omega)]), rfl⟩

/-- The first so many of a number's bytes, the highest one first. -/
def bytesL (v : Int) (m k : Nat) : List Int := (List.range k).map (fun j => byt v (m - 1 - j))
theorem bytesL_succ (v : Int) (m k : Nat) : (bytesL v m (k + 1)).map (Value.int .u8) = (bytesL v m k).map (Value.int .u8) ++ [.int .u8 (byt v (m - 1 - k))] := by
  simp [bytesL, List.range_succ]
theorem bytesL_4 (v : Int) : bytesL v 4 4 = [byt v 3, byt v 2, byt v 1, byt v 0] := rfl
theorem bytesL_2 (v : Int) : bytesL v 2 2 = [byt v 1, byt v 0] := rfl
theorem pow_div (v : Int) (j : Nat) : v / 256 ^ j / 256 = v / 256 ^ (j + 1) := by
  rw [Int.pow_succ, Int.ediv_ediv_of_nonneg (Int.pow_nonneg (by decide))]
theorem pow_div_bd (v : Int) (j : Nat) (h0 : 0 ≤ v) (h1 : v ≤ 4294967295) : 0 ≤ v / 256 ^ j ∧ v / 256 ^ j ≤ 4294967295 := by
  have h : (0 : Int) < 256 ^ j := Int.pow_pos (by decide)
  exact ⟨Int.ediv_nonneg h0 (by omega), Int.le_trans (Int.ediv_le_self _ h0) h1⟩
theorem Tryz.infoByte : (Tryz.prog.info? 5).map (fun i => (i.zero, i.size, i.bytes)) = some (some (.int .u8 0), 1, 1) := by kernel_rfl

set_option maxRecDepth 100000 in
set_option maxHeartbeats 3200000 in
theorem refBytes_any (v : Int) (m : Nat) (h0 : 0 ≤ v) (h1 : v ≤ 4294967295) (hm : m ≤ 4) (w : World) :
    Calls Tryz.prog 148 #[.int .i64 v, .int .i64 m] w fun e w' => ∃ u, e = .returned u ∧ w'.ownsRow w.heap.size 5 1 u m ((bytesL v m m).map (Value.int .u8)) ∧ Below w.heap.size w w' := by
  obtain ⟨i0, hi, hz0, hz1, hz2⟩ := info_parts Tryz.infoByte
  have i1 : (m : Int) ≤ 4 := by omega
  go_enter Tryz.func148, Tryz.ntmps148
  go_wp2
  go_loopw [5, 6] (fun out i wr => ∃ k : Nat, k ≤ m ∧ i = .int .i64 ((m : Int) - 1 - (k : Int)) ∧ wr.ownsRow w.heap.size 5 1 out k ((bytesL v m k).map (Value.int .u8)) ∧ Below w.heap.size w wr)
    (fun _ i _ => (intOf i + 1).toNat)
  case atStart => exact ⟨0, Nat.zero_le _, by simp, World.ownsRow_nil _ _ _ _, Below.refl _ _⟩
  case round =>
    obtain ⟨k, hk, rfl, hown, hnx⟩ := hrel
    have hsz : w.heap.size ≤ wr.heap.size := hnx.size
    by_cases hlt : k < m
    · obtain ⟨d, hd⟩ : ∃ d : Nat, m - 1 - k = d := ⟨_, rfl⟩
      have ed : (m : Int) - 1 - (k : Int) = (d : Int) := by omega
      have ed2 : (m : Int) - 1 - ((k + 1 : Nat) : Int) = (d : Int) - 1 := by omega
      have hS := bytesL_succ v m k
      rw [hd] at hS
      rw [ed]
      have HS := Lib.hid hS
      have HD2 := Lib.hid ed2
      have hd4 : (d : Int) ≤ 4 := by omega
      have hd0 : (0 : Int) ≤ (d : Int) := by omega
      clear hd ed ed2 hS
      go_wp2_with fail
      go_loop [7, 8] (fun x y => ∃ j : Nat, j ≤ d ∧ x = .int .i64 (v / 256 ^ j) ∧ y = .int .i64 j) (fun _ y => d - (intOf y).toNat)
      case atStart => exact ⟨0, Nat.zero_le _, by simp, rfl⟩
      case round =>
        obtain ⟨j, hj, rfl, rfl⟩ := hrel
        have hb := pow_div_bd v j h0 h1
        have HP := Lib.hid (pow_div v j)
        by_cases hjl : j < d
        · have h4 : (j : Int) < (d : Int) := by omega
          obtain ⟨x, hx⟩ : ∃ x, v / 256 ^ j = x := ⟨_, rfl⟩
          rw [hx] at hb HP ⊢
          clear hx
          go_wp2_with fail
          go_round
          case rel => exact ⟨j + 1, by omega, by rw [HP.out], by go_num⟩
          case measure => first | (simp [intOf]; done) | (simp [intOf]; omega)
        · obtain rfl : j = d := by omega
          have h4 : ¬ ((j : Int) < (j : Int)) := by omega
          have hbb := byt_bd v j
          have hby : v / 256 ^ j % 256 = byt v j := rfl
          obtain ⟨x, hx⟩ : ∃ x, v / 256 ^ j = x := ⟨_, rfl⟩
          rw [hx] at hb hby ⊢
          obtain ⟨y, hy⟩ : ∃ y, byt v j = y := ⟨_, rfl⟩
          rw [hy] at hby hbb HS
          have hm4 : x % 256 = y := hby
          clear hx hy HP hby
          go_wp2_with (at_builtin; refine wpList_append_own _ rfl (.tmp 23) (.tmp 27) 109 rfl w.heap.size 5 i0 (.int .u8 0) 1 1 Tryz.underlying109 hi hz0 hz1 hz2 rfl (by decide) _ k _ rfl (hown.alloc _) ⟨wr.heap.size, 0, none⟩ 1 1 [.int .u8 y] rfl rfl (cell_one_new _ _ _) (by intro u hu; simp at hu; subst hu; rfl) (by unfold maxLen; omega) (by omega) (by simp; omega) ?_; intro v' w3 hown3 hgrow3 _)
          have hlt' := hown.lt
          go_roundw
          case rel => exact ⟨k + 1, by omega, by rw [HD2.out], by rw [HS.out]; exact hown3, (hnx.alloc hsz _).grown hgrow3 (by simp; omega) (fun q hq => (hlt' q hq).1)⟩
          case measure => simp [intOf]
    · obtain rfl : k = m := by omega
      have i2 : ¬ (0 ≤ (k : Int) - 1 - (k : Int)) := by omega
      have HO := Lib.hid hown
      have HX := Lib.hid hnx
      clear hown hnx
      go_wp2
      go_ret
      exact ⟨_, rfl, HO.out, HX.out⟩
end Go.Proofs.YtlnhgplloaiiiaaGreatDoor

/-
  Contract of the reference's Decode for any 24 bytes.
-/
namespace Go.Proofs.YtlnhgplloaiiiaaGreatDoor
open Go.RowKit
set_option linter.unusedVariables false
set_option linter.unusedSimpArgs false

theorem tail_iff (s c o x y z a b c' d e f g : Int) (hd : 0 ≤ d ∧ d ≤ 255) (he : 0 ≤ e ∧ e ≤ 255) (hf : 0 ≤ f ∧ f ≤ 255) (hg : 0 ≤ g ∧ g ≤ 255) :
    [a, b, c', d, e, f, g] = tail7 s c o x y z ↔ (chkOf ((rawF s c o x y z [a, b, c', d, e, f, g]).take 20) = numOf [d, e, f, g] ∧ a = 255 - s ∧ b = 255 - byt c 1 ∧ c' = 255 - byt c 0) := by
  obtain ⟨q1, q2, q3, q4, q5, q6⟩ := num_byt4 d e f g hd he hf hg
  have hb := chk_bd (frame20 s c o x y z)
  constructor
  · intro h
    unfold tail7 at h
    simp only [List.cons.injEq, and_true] at h
    obtain ⟨rfl, rfl, rfl, rfl, rfl, rfl, rfl⟩ := h
    refine ⟨?_, rfl, rfl, rfl⟩
    rw [num4 _ hb.1 (by omega)]
    rfl
  · rintro ⟨h, rfl, rfl, rfl⟩
    have e1 : (rawF s c o x y z [255 - s, 255 - byt c 1, 255 - byt c 0, d, e, f, g]).take 20 = frame20 s c o x y z := rfl
    rw [e1] at h
    unfold tail7
    rw [h, q1, q2, q3, q4]
theorem telErr_fit {s c o x y z : Int} (h : FitT s c o x y z) : telErr s c o x y z = vectorErr x y z := by
  rw [← telErr_first, rangeErr_in h.st.1 h.st.2, rangeErr_in h.ct.1 h.ct.2, rangeErr_in h.od.1 h.od.2]
  simp only [firstNZ]
  rcases vectorErr_or x y z with ⟨_, _, _, h4⟩ | ⟨_, h4⟩ <;> rw [h4] <;> simp

set_option maxRecDepth 100000 in
set_option maxHeartbeats 3200000 in
theorem refDecode_form (F : List Int) (hF : F.length = 24) (h0 : F[0]?.getD 0 ≠ 77) (w : World) :
    Calls Tryz.prog 73 #[.agg (F.map (Value.int .u8)).toArray] w fun e w' => e = .returned (.tuple #[.agg #[.int .i64 0, .int .i64 0, .int .i64 0, .int .i64 0, .int .i64 0, .int .i64 0], .int .i64 1]) ∧ Below w.heap.size w w' := by
  obtain ⟨V, hV⟩ : ∃ V, F.map (Value.int .u8) = V := ⟨_, rfl⟩
  obtain ⟨u, hu⟩ : ∃ u, F[0]?.getD 0 = u := ⟨_, rfl⟩
  have V0 : V[0]? = some (.int .u8 u) := by rw [← hV, List.getElem?_map, List.getElem?_eq_getElem (by omega), ← hu, List.getElem?_eq_getElem (by omega)]; rfl
  have e0 : (u != 77) = true := by rw [← hu]; simp [h0]
  rw [hV]
  have r0 : ((w.alloc (.cells V.toArray 108)).alloc (.cells #[.int .i64 0, .int .i64 0, .int .i64 0, .int .i64 0, .int .i64 0, .int .i64 0] 107)).heap[w.heap.size]? = some (.cells V.toArray 108 (0, 0)) := by
    rw [Below.heap_alloc _ _ _ (by simp)]
    exact heap_alloc_new w _
  have r2 : ((w.alloc (.cells V.toArray 108)).alloc (.cells #[.int .i64 0, .int .i64 0, .int .i64 0, .int .i64 0, .int .i64 0, .int .i64 0] 107)).heap[w.heap.size + 1]? = some (.cells #[.int .i64 0, .int .i64 0, .int .i64 0, .int .i64 0, .int .i64 0, .int .i64 0] 107 (0, 0)) := heap_alloc2_new w _ _
  have hc0 : ((w.alloc (.cells V.toArray 108)).alloc (.cells #[.int .i64 0, .int .i64 0, .int .i64 0, .int .i64 0, .int .i64 0, .int .i64 0] 107)).cell? ⟨w.heap.size, 0, none⟩ = some (.int .u8 u) := by
    rw [cell_of_row _ _ 0 _ _ (0, 0) r0]; simpa using V0
  have HB : Hid (Below w.heap.size w ((w.alloc (.cells V.toArray 108)).alloc (.cells #[.int .i64 0, .int .i64 0, .int .i64 0, .int .i64 0, .int .i64 0, .int .i64 0] 107))) := Lib.hid (((Below.refl _ w).alloc (Nat.le_refl _) _).alloc (by simp) _)
  obtain ⟨W1, hW1⟩ : ∃ W1, ((w.alloc (.cells V.toArray 108)).alloc (.cells #[.int .i64 0, .int .i64 0, .int .i64 0, .int .i64 0, .int .i64 0, .int .i64 0] 107)) = W1 := ⟨_, rfl⟩
  rw [hW1] at r2 hc0 HB
  have R2 := Lib.hid r2
  clear r0 r2 V0 hV hu h0
  go_enter Tryz.func73, Tryz.ntmps73
  go_upto_region 1 with fail
  try rw [hW1]
  clear hW1
  go_wp2_with (refine wpList_store_row rfl 107 (.tmp 2) (.tmp 12) rfl (w.heap.size + 1) rfl _ rfl 107 _ R2.out ?i2 ?i3 ?i4 ?_)
  case i2 => rfl
  case i3 => kernel_rfl
  case i4 => first | exact ⟨rfl, rfl, rfl, rfl, rfl, rfl⟩ | exact rfl | simp
  go_wp2
  refine bodyPost_ret (results_row_tmp Tryz.results73 _ _ (w.heap.size + 1) 107 _ (0, 0) _ rfl (setRow_heap W1 _ _ _ _ _ R2.out) Tryz.underlying107 rfl (by kernel_rfl)) rfl ⟨rfl, ?_⟩
  exact HB.out.trans ((OnlyBlk.setRow W1 (w.heap.size + 1) _).below HB.out.size (by omega))

/-- What the walk of Decode knows of the frame's block. -/
structure FrameAt (W1 : World) (B : Nat) (F : List Int) : Prop where
  blk : HasBlk W1 B 108 F
  bytes : Bytes24 F
theorem FrameAt.cell {W1 : World} {B : Nat} {F : List Int} (h : FrameAt W1 B F) (j : Nat) (hj : j < 24) : W1.cell? ⟨B, j, none⟩ = some (.int .u8 (byteAt F j)) :=
  h.blk.cell (by unfold byteAt; rw [List.getElem?_eq_getElem (by rw [h.bytes.1]; exact hj)]; rfl)
theorem FrameAt.bd {W1 : World} {B : Nat} {F : List Int} (h : FrameAt W1 B F) (j : Nat) (hj : j < 24) : 0 ≤ byteAt F j ∧ byteAt F j ≤ 255 := by
  unfold byteAt
  rw [List.getElem?_eq_getElem (by rw [h.bytes.1]; exact hj)]
  exact h.bytes.2 _ (List.getElem_mem _)
theorem FrameAt.chk {W1 : World} {B : Nat} {F : List Int} (h : FrameAt W1 B F) (c : Nat) (w1 : World) (hw : w1.heap = W1.heap) :
    Calls Tryz.prog 150 #[.slice (some ⟨B, 0, none⟩) 20 c] w1 fun e w' => e = .returned (.int .i64 (chkOf (F.take 20))) ∧ w1 = w' :=
  refChecksum_any B 0 20 c (F.take 20) w1 (by rw [List.length_take, h.bytes.1]; rfl) (by omega) (fun j hj => by
    rw [List.getElem?_take_of_lt hj]; exact h.bd j (by omega)) (fun j hj => by
    rw [List.getElem?_take_of_lt hj, Nat.zero_add, World.cell?_of_block (w := W1) (by rw [hw])]; exact h.cell j (by omega))
theorem FrameAt.num {W1 : World} {B : Nat} {F : List Int} (h : FrameAt W1 B F) (c : Nat) (o n : Nat) (ho : o + n ≤ 24) (hn : n ≤ 4) (w1 : World) (hw : w1.heap = W1.heap) :
    Calls Tryz.prog 151 #[.slice (some ⟨B, o, none⟩) n c] w1 fun e w' => e = .returned (.int .i64 (numOf ((F.drop o).take n))) ∧ w1 = w' :=
  refNumber_any B o n c ((F.drop o).take n) w1 (by rw [List.length_take, List.length_drop, h.bytes.1]; omega) hn (fun j hj => by
    rw [List.getElem?_take_of_lt hj, List.getElem?_drop]; exact h.bd (o + j) (by omega)) (fun j hj => by
    rw [List.getElem?_take_of_lt hj, List.getElem?_drop, World.cell?_of_block (w := W1) (by rw [hw])]; exact h.cell (o + j) (by omega))

set_option maxRecDepth 100000 in
set_option maxHeartbeats 6400000 in
theorem refDecode_check (F : List Int) (hF : Bytes24 F) (h0 : byteAt F 0 = 77) (hT : ¬ (chkOf (F.take 20) = numOf ((F.drop 20).take 4) ∧ byteAt F 17 = 255 - byteAt F 1 ∧ byteAt F 18 = 255 - byteAt F 2 ∧ byteAt F 19 = 255 - byteAt F 3)) (w : World) :
    Calls Tryz.prog 73 #[.agg (F.map (Value.int .u8)).toArray] w fun e w' => e = .returned (.tuple #[.agg #[.int .i64 0, .int .i64 0, .int .i64 0, .int .i64 0, .int .i64 0, .int .i64 0], .int .i64 27]) ∧ Below w.heap.size w w' := by
  have V24 : (F.map (Value.int .u8)).length = 24 := by simp [hF.1]
  obtain ⟨V, hV⟩ : ∃ V, F.map (Value.int .u8) = V := ⟨_, rfl⟩
  have r0 : ((w.alloc (.cells (F.map (Value.int .u8)).toArray 108)).alloc (.cells #[.int .i64 0, .int .i64 0, .int .i64 0, .int .i64 0, .int .i64 0, .int .i64 0] 107)).heap[w.heap.size]? = some (.cells (F.map (Value.int .u8)).toArray 108 (0, 0)) := by
    rw [Below.heap_alloc _ _ _ (by simp)]
    exact heap_alloc_new w _
  have r2 : ((w.alloc (.cells (F.map (Value.int .u8)).toArray 108)).alloc (.cells #[.int .i64 0, .int .i64 0, .int .i64 0, .int .i64 0, .int .i64 0, .int .i64 0] 107)).heap[w.heap.size + 1]? = some (.cells #[.int .i64 0, .int .i64 0, .int .i64 0, .int .i64 0, .int .i64 0, .int .i64 0] 107 (0, 0)) := heap_alloc2_new w _ _
  have HB : Hid (Below w.heap.size w ((w.alloc (.cells (F.map (Value.int .u8)).toArray 108)).alloc (.cells #[.int .i64 0, .int .i64 0, .int .i64 0, .int .i64 0, .int .i64 0, .int .i64 0] 107))) := Lib.hid (((Below.refl _ w).alloc (Nat.le_refl _) _).alloc (by simp) _)
  have hs1 : ((w.alloc (.cells (F.map (Value.int .u8)).toArray 108)).alloc (.cells #[.int .i64 0, .int .i64 0, .int .i64 0, .int .i64 0, .int .i64 0, .int .i64 0] 107)).heap.size = w.heap.size + 2 := by simp
  rw [hV] at V24 r2 HB hs1
  obtain ⟨W1, hW1⟩ : ∃ W1, ((w.alloc (.cells V.toArray 108)).alloc (.cells #[.int .i64 0, .int .i64 0, .int .i64 0, .int .i64 0, .int .i64 0, .int .i64 0] 107)) = W1 := ⟨_, rfl⟩
  have fa : FrameAt W1 w.heap.size F := ⟨by rw [← hW1, ← hV]; exact r0, hF⟩
  rw [hW1] at r2 HB hs1
  rw [hV]
  have R2 := Lib.hid r2
  have HS1 := Lib.hid hs1
  have HFA := Lib.hid fa
  have c0 := fa.cell 0 (by omega)
  have c1 := fa.cell 1 (by omega)
  have c2 := fa.cell 2 (by omega)
  have c3 := fa.cell 3 (by omega)
  have c17 := fa.cell 17 (by omega)
  have c18 := fa.cell 18 (by omega)
  have c19 := fa.cell 19 (by omega)
  have d1 := fa.bd 1 (by omega)
  have d2 := fa.bd 2 (by omega)
  have d3 := fa.bd 3 (by omega)
  have KC := Lib.hid (fun (n c : Nat) => (fa.chk c (W1.drewN n) rfl).mono fun e w' (h : _ ∧ _) => (⟨h.1, h.2.symm⟩ : e = .returned (.int .i64 (chkOf (F.take 20))) ∧ w' = W1.drewN n))
  have KN := Lib.hid (fun (n c : Nat) => (fa.num c 20 4 (by omega) (by omega) (W1.drewN n) rfl).mono fun e w' (h : _ ∧ _) => (⟨h.1, h.2.symm⟩ : e = .returned (.int .i64 (numOf ((F.drop 20).take 4))) ∧ w' = W1.drewN n))
  obtain ⟨ck, hck⟩ : ∃ ck, chkOf (F.take 20) = ck := ⟨_, rfl⟩
  obtain ⟨nm, hnm⟩ : ∃ nm, numOf ((F.drop 20).take 4) = nm := ⟨_, rfl⟩
  rw [hck] at KC
  rw [hnm] at KN
  have e0 : (byteAt F 0 != 77) = false := by simp [h0]
  obtain ⟨f1, hf1⟩ : ∃ x, byteAt F 1 = x := ⟨_, rfl⟩
  obtain ⟨f2, hf2⟩ : ∃ x, byteAt F 2 = x := ⟨_, rfl⟩
  obtain ⟨f3, hf3⟩ : ∃ x, byteAt F 3 = x := ⟨_, rfl⟩
  obtain ⟨f17, hf17⟩ : ∃ x, byteAt F 17 = x := ⟨_, rfl⟩
  obtain ⟨f18, hf18⟩ : ∃ x, byteAt F 18 = x := ⟨_, rfl⟩
  obtain ⟨f19, hf19⟩ : ∃ x, byteAt F 19 = x := ⟨_, rfl⟩
  rw [hf1] at c1 d1
  rw [hf2] at c2 d2
  rw [hf3] at c3 d3
  rw [hf17] at c17
  rw [hf18] at c18
  rw [hf19] at c19
  rw [hck, hnm, hf1, hf2, hf3, hf17, hf18, hf19] at hT
  clear hck hnm hf1 hf2 hf3 hf17 hf18 hf19 fa r0 r2 hs1 hV h0 hF
  by_cases t0 : ck = nm
  rotate_left 1
  · have u0 : (ck != nm) = true := by simp [t0]
    clear t0 hT
    go_enter Tryz.func73, Tryz.ntmps73
    go_upto_region 1 with fail
    try rw [hW1]
    clear hW1
    go_upto_region 4 with fail
    go_quiet (first | (go_at_call 150; exact Calls.quiet_of_same (KC.out _ _)) | (go_at_call 151; exact Calls.quiet_of_same (KN.out _ _)))
    go_wp2_with (refine wpList_store_row rfl 107 (.tmp 2) (.tmp 50) rfl (w.heap.size + 1) rfl _ rfl 107 _ R2.out ?i2 ?i3 ?i4 ?_)
    case i2 => rfl
    case i3 => kernel_rfl
    case i4 => first | exact ⟨rfl, rfl, rfl, rfl, rfl, rfl⟩ | exact rfl | simp
    go_wp2
    refine bodyPost_ret (results_row_tmp Tryz.results73 _ _ (w.heap.size + 1) 107 _ (0, 0) _ rfl (setRow_heap _ _ _ _ _ _ R2.out) Tryz.underlying107 rfl (by kernel_rfl)) rfl ⟨rfl, ?_⟩
    exact (below_drewN HB.out _).trans ((OnlyBlk.setRow _ (w.heap.size + 1) _).below (below_drewN HB.out _).size (by omega))
  have u0 : (ck != nm) = false := by simp [t0]
  by_cases t1 : f17 = 255 - f1
  rotate_left 1
  · have u1 : (f17 != 255 - f1) = true := by simp [t1]
    clear t1 hT
    go_enter Tryz.func73, Tryz.ntmps73
    go_upto_region 1 with fail
    try rw [hW1]
    clear hW1
    go_upto_region 4 with fail
    go_quiet (first | (go_at_call 150; exact Calls.quiet_of_same (KC.out _ _)) | (go_at_call 151; exact Calls.quiet_of_same (KN.out _ _)))
    go_wp2_with (refine wpList_store_row rfl 107 (.tmp 2) (.tmp 50) rfl (w.heap.size + 1) rfl _ rfl 107 _ R2.out ?i2 ?i3 ?i4 ?_)
    case i2 => rfl
    case i3 => kernel_rfl
    case i4 => first | exact ⟨rfl, rfl, rfl, rfl, rfl, rfl⟩ | exact rfl | simp
    go_wp2
    refine bodyPost_ret (results_row_tmp Tryz.results73 _ _ (w.heap.size + 1) 107 _ (0, 0) _ rfl (setRow_heap _ _ _ _ _ _ R2.out) Tryz.underlying107 rfl (by kernel_rfl)) rfl ⟨rfl, ?_⟩
    exact (below_drewN HB.out _).trans ((OnlyBlk.setRow _ (w.heap.size + 1) _).below (below_drewN HB.out _).size (by omega))
  have u1 : (f17 != 255 - f1) = false := by simp [t1]
  by_cases t2 : f18 = 255 - f2
  rotate_left 1
  · have u2 : (f18 != 255 - f2) = true := by simp [t2]
    clear t2 hT
    go_enter Tryz.func73, Tryz.ntmps73
    go_upto_region 1 with fail
    try rw [hW1]
    clear hW1
    go_upto_region 4 with fail
    go_quiet (first | (go_at_call 150; exact Calls.quiet_of_same (KC.out _ _)) | (go_at_call 151; exact Calls.quiet_of_same (KN.out _ _)))
    go_wp2_with (refine wpList_store_row rfl 107 (.tmp 2) (.tmp 50) rfl (w.heap.size + 1) rfl _ rfl 107 _ R2.out ?i2 ?i3 ?i4 ?_)
    case i2 => rfl
    case i3 => kernel_rfl
    case i4 => first | exact ⟨rfl, rfl, rfl, rfl, rfl, rfl⟩ | exact rfl | simp
    go_wp2
    refine bodyPost_ret (results_row_tmp Tryz.results73 _ _ (w.heap.size + 1) 107 _ (0, 0) _ rfl (setRow_heap _ _ _ _ _ _ R2.out) Tryz.underlying107 rfl (by kernel_rfl)) rfl ⟨rfl, ?_⟩
    exact (below_drewN HB.out _).trans ((OnlyBlk.setRow _ (w.heap.size + 1) _).below (below_drewN HB.out _).size (by omega))
  have u2 : (f18 != 255 - f2) = false := by simp [t2]
  by_cases t3 : f19 = 255 - f3
  rotate_left 1
  · have u3 : (f19 != 255 - f3) = true := by simp [t3]
    clear t3 hT
    go_enter Tryz.func73, Tryz.ntmps73
    go_upto_region 1 with fail
    try rw [hW1]
    clear hW1
    go_upto_region 4 with fail
    go_quiet (first | (go_at_call 150; exact Calls.quiet_of_same (KC.out _ _)) | (go_at_call 151; exact Calls.quiet_of_same (KN.out _ _)))
    go_wp2_with (refine wpList_store_row rfl 107 (.tmp 2) (.tmp 50) rfl (w.heap.size + 1) rfl _ rfl 107 _ R2.out ?i2 ?i3 ?i4 ?_)
    case i2 => rfl
    case i3 => kernel_rfl
    case i4 => first | exact ⟨rfl, rfl, rfl, rfl, rfl, rfl⟩ | exact rfl | simp
    go_wp2
    refine bodyPost_ret (results_row_tmp Tryz.results73 _ _ (w.heap.size + 1) 107 _ (0, 0) _ rfl (setRow_heap _ _ _ _ _ _ R2.out) Tryz.underlying107 rfl (by kernel_rfl)) rfl ⟨rfl, ?_⟩
    exact (below_drewN HB.out _).trans ((OnlyBlk.setRow _ (w.heap.size + 1) _).below (below_drewN HB.out _).size (by omega))
  have u3 : (f19 != 255 - f3) = false := by simp [t3]
  exact absurd ⟨t0, t1, t2, t3⟩ hT

end Go.Proofs.YtlnhgplloaiiiaaGreatDoor
