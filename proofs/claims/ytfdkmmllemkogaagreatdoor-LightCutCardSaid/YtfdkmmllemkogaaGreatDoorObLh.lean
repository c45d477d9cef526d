/-
  The walk of LightCut.
-/
import Derived.Test.YtfdkmmllemkogaaGreatDoorObLg
namespace Go.Proofs.YtfdkmmllemkogaaGreatDoor
open Go.RowKit Go.Shelf
set_option linter.unusedVariables false
set_option linter.unusedSimpArgs false

theorem RM.zeros {w : World} {W H n g : Nat} {RZ : Array Value} {T : TypeId} (hz : RZ.toList = List.replicate n (.float .f32 0)) (hn : n ≤ 4096) (hW : 1 ≤ W ∧ W ≤ 64) (hH : 1 ≤ H ∧ H ≤ 64) (hA : H * W = n) (h : w.heap[g]? = some (.cells RZ T (0, 0))) : RM w W H n (List.replicate n 0) g 0 := by
  refine RM.of_cells (by simp) hn (fun j hj => by simp [hj]) hW hH hA (lt_of_blk h) (fun j hj => ?_)
  rw [cell_of_row w g j _ _ (0, 0) h, ← Array.getElem?_toList, hz]
  simp [hj]
  rfl

set_option maxRecDepth 1000000 in
set_option maxHeartbeats 25600000 in
theorem cut_walk (w : World) (W H b o n c : Nat) (ks : List Int) (hR : RM w W H n ks b o) (n0 n1 : Int) (hn0 : 0 ≤ n0 ∧ n0 ≤ 255) (hn1 : 0 ≤ n1 ∧ n1 ≤ 255)
    (hsm : ∀ w1 : World, Below w.heap.size w w1 → Calls Tryz.prog 96 #[.agg #[.int .i64 W, .int .i64 H, .slice (some ⟨b, o, none⟩) n c], .float .f32 1149239296] w1 fun e w' => e = .returned (.bool true) ∧ Below w1.heap.size w1 w') (ht : TabAt w) :
    Calls Tryz.prog 13 #[.agg #[.int .i64 W, .int .i64 H, .slice (some ⟨b, o, none⟩) n c], .agg #[.int .u8 n0, .int .u8 n1]] w (TruePost w) := by
  have KS := Lib.hid hsm
  have HT := Lib.hid ht
  have HR := Lib.hid hR
  have hWd := hR.wid
  have hHt := hR.hei
  have hnn := hR.small
  obtain ⟨hb0, xs, hr⟩ := hR
  have HX := Lib.hid (And.intro hb0 hr)
  obtain ⟨i0, hi, hz0, hz1, hz2⟩ := info_parts Tryz.info23_sample
  obtain ⟨a0, ha0⟩ : ∃ a0, n0.toNat % W = a0 := ⟨_, rfl⟩
  obtain ⟨a1, ha1⟩ : ∃ a1, n1.toNat % H = a1 := ⟨_, rfl⟩
  have ea0 : n0.tmod (W : Int) = (a0 : Int) := by
    rw [Int.tmod_eq_emod_of_nonneg hn0.1, ← ha0]; push_cast; rw [Int.toNat_of_nonneg hn0.1]
  have ea1 : n1.tmod (H : Int) = (a1 : Int) := by
    rw [Int.tmod_eq_emod_of_nonneg hn1.1, ← ha1]; push_cast; rw [Int.toNat_of_nonneg hn1.1]
  have la0 : a0 < W := by rw [← ha0]; exact Nat.mod_lt _ (by omega)
  have la1 : a1 < H := by rw [← ha1]; exact Nat.mod_lt _ (by omega)
  obtain ⟨A, hA⟩ : ∃ A, 1 + a0 = A := ⟨_, rfl⟩
  obtain ⟨Bc, hB⟩ : ∃ Bc, 1 + a1 = Bc := ⟨_, rfl⟩
  have eA : IntKind.i64.wrap (1 + (a0 : Int)) = (A : Int) := by rw [show 1 + (a0 : Int) = (A : Int) by omega]; exact IntWalk.i64_in _ ⟨by omega, by omega⟩
  have eB : IntKind.i64.wrap (1 + (a1 : Int)) = (Bc : Int) := by rw [show 1 + (a1 : Int) = (Bc : Int) by omega]; exact IntWalk.i64_in _ ⟨by omega, by omega⟩
  have wn0 : IntKind.i64.wrap n0 = n0 := IntWalk.i64_in _ ⟨by omega, by omega⟩
  have wn1 : IntKind.i64.wrap n1 = n1 := IntWalk.i64_in _ ⟨by omega, by omega⟩
  have wa0 : IntKind.i64.wrap (a0 : Int) = (a0 : Int) := IntWalk.i64_in _ ⟨by omega, by omega⟩
  have wa1 : IntKind.i64.wrap (a1 : Int) = (a1 : Int) := IntWalk.i64_in _ ⟨by omega, by omega⟩
  have nW : ¬ ((W : Int) = 0) := by omega
  have nH : ¬ ((H : Int) = 0) := by omega
  have nW' : ¬ (W = 0) := by omega
  have nH' : ¬ (H = 0) := by omega
  have hAW : A ≤ W := by omega
  have hBH : Bc ≤ H := by omega
  have HAW := Lib.hid (And.intro hAW hBH)
  have HWH := Lib.hid (And.intro hWd (And.intro hHt hnn))
  have hAR : H * W = n := HR.out.area
  have HAR := Lib.hid hAR
  obtain ⟨W0, hW0⟩ : ∃ W0, (w.alloc (.cells #[.int .i64 W, .int .i64 H, .slice (some ⟨b, o, none⟩) n c] 48)).alloc (.cells #[.int .u8 n0, .int .u8 n1] 150) = W0 := ⟨_, rfl⟩
  have K0 : Kp w W0 [(w.heap.size + 1, (.cells #[.int .u8 n0, .int .u8 n1] 150 (0, 0))), (w.heap.size, (.cells #[.int .i64 W, .int .i64 H, .slice (some ⟨b, o, none⟩) n c] 48 (0, 0)))] := by
    rw [← hW0]
    have k := ((Kp.none w).alloc (.cells #[.int .i64 W, .int .i64 H, .slice (some ⟨b, o, none⟩) n c] 48)).alloc (.cells #[.int .u8 n0, .int .u8 n1] 150)
    simpa using k
  have HK0 := Lib.hid K0
  obtain ⟨z0, z1, z2⟩ := cells3 (HK0.out.2 _ (.tail _ (.head _)))
  clear hsm hb0 hr K0 ha0 ha1 hA hB hAW hBH hAR ht hnn
  go_enter Tryz.func13, Tryz.ntmps13
  go_upto_region 1 with fail
  try rw [hW0]
  clear hW0
  go_upto_region 3 with (first
    | (go_at_call 96; with_reducible refine (KS.out _ (Kp.below HK0.out)).mono ?_; rintro e w1 ⟨rfl, hb1⟩;
       have K1 := Lib.hid (HK0.out.call hb1); clear hb1))
  clear z0 z1 z2
  obtain ⟨y0, y1, y2⟩ := cells3 (K1.out.2 _ (.tail _ (.head _)))
  obtain ⟨c0, c1⟩ := cells2 (K1.out.2 _ (.head _))
  have l1 := lt_of_blk (K1.out.2 _ (.tail _ (.head _)))
  have l2 := lt_of_blk (K1.out.2 _ (.head _))
  go_cut [5] (fun s5 wr => ∃ B, s5 = .pointer (some ⟨B, 0, none⟩) ∧ w1.heap.size ≤ B ∧ wr.heap[B]? = some (.cells #[.int .i64 (A : Nat), .int .i64 (Bc : Nat)] 152 (0, 0)) ∧ Below w1.heap.size w1 wr)
  case first =>
    have hq1 : w.heap.size ≠ w1.heap.size := by omega
    have hq2 : w.heap.size + 1 ≠ w1.heap.size := by omega
    go_region_held3 (fun w' => w'.cell? ⟨w.heap.size + 1, 0, none⟩ = some (.int .u8 n0) ∧ w'.cell? ⟨w.heap.size + 1, 1, none⟩ = some (.int .u8 n1) ∧ w'.cell? ⟨w.heap.size, 0, none⟩ = some (.int .i64 W) ∧ w'.cell? ⟨w.heap.size, 1, none⟩ = some (.int .i64 H))
      (first | (go_keep; done) | (go_split_ands; refine ⟨?_, ?_, ?_, ?_⟩ <;> (simp [go_sem, *]; done)))
      (fail)
    all_goals go_wp2_with fail
    all_goals go_meet
    all_goals first
      | exact ⟨_, rfl, Nat.le_refl _, blk_alloc_new _ _, ((Below.refl w1.heap.size w1).drew).alloc (Nat.le_refl _) _⟩
      | exact ⟨_, rfl, Nat.le_refl _, blk_set2 (blk_alloc_new _ _) _ _, ((((Below.refl w1.heap.size w1).alloc (Nat.le_refl _) _).drew).setCell (p := ⟨w1.heap.size, 0, none⟩) (Nat.le_refl _) _).setCell (p := ⟨w1.heap.size, 1, none⟩) (Nat.le_refl _) _⟩
      | exact ⟨_, rfl, Nat.le_refl _, blk_set2 (blk_alloc_new _ _) _ _, ((((Below.refl w1.heap.size w1).drew).alloc (Nat.le_refl _) _).setCell (p := ⟨w1.heap.size, 0, none⟩) (Nat.le_refl _) _).setCell (p := ⟨w1.heap.size, 1, none⟩) (Nat.le_refl _) _⟩
  case rest =>
    rename_i hK
    obtain ⟨B5, rfl, hB5, hblk5, hb5⟩ := hcut
    refine hK _ _ ?_
    clear hK
    have K2 : Hid (Kp w wc [(B5, (.cells #[.int .i64 (A : Nat), .int .i64 (Bc : Nat)] 152 (0, 0))), (w.heap.size, (.cells #[.int .i64 W, .int .i64 H, .slice (some ⟨b, o, none⟩) n c] 48 (0, 0)))]) := Lib.hid ⟨K1.out.1.trans (hb5.mono K1.out.1.size), fun p hp => by
      rcases List.mem_cons.1 hp with rfl | hp
      · exact hblk5
      · rcases List.mem_cons.1 hp with rfl | hp
        · exact (hb5.block _ (lt_of_blk (K1.out.2 _ (.tail _ (.head _))))).trans (K1.out.2 _ (.tail _ (.head _)))
        · nomatch hp⟩
    have H5 : w.heap.size + 1 < B5 := by have := l2; omega
    clear y0 y1 y2 c0 c1 l1 l2 hblk5 hb5 hB5 K1 HK0 KS
    obtain ⟨y0, y1, y2⟩ := cells3 (K2.out.2 _ (.tail _ (.head _)))
    have l1 := lt_of_blk (K2.out.2 _ (.tail _ (.head _)))
    have HL5 : Hid (B5 < wc.heap.size) := Lib.hid (lt_of_blk (K2.out.2 _ (.head _)))
    have HL1 : Hid (w.heap.size < wc.heap.size) := Lib.hid (lt_of_blk (K2.out.2 _ (.tail _ (.head _))))
    go_upto_region 4 with fail
    go_cut [6] (fun s6 wr => ∃ B g, s6 = .pointer (some ⟨B, 0, none⟩) ∧ wc.heap.size ≤ B ∧ wr.heap[B]? = some (.cells #[.int .i64 W, .int .i64 H, .slice (some ⟨g, 0, none⟩) n n] 54 (0, 0)) ∧ RM wr W H n (List.replicate n 0) g 0 ∧ Below wc.heap.size wc wr)
    case first =>
      have hq1 : w.heap.size ≠ wc.heap.size := by omega
      have hB : Blw wc.heap.size wc wc.drew := show Below _ _ _ from (Below.refl _ wc).drew
      have hB2 : Blw wc.heap.size wc ((wc.alloc (.cells #[.int .i64 0, .int .i64 0, .slice none 0 0] 54)).drew) := show Below _ _ _ from ((Below.refl _ wc).alloc (Nat.le_refl _) _).drew
      have hn4 := HWH.out.2.2
      obtain ⟨RZ, hRZ⟩ : ∃ RZ, madeCells (Value.float .f32 0).cells n = RZ := ⟨_, rfl⟩
      have hmk : ∀ wq : World, (Instr.makeSlice 46 (.int .i64 (n : Int)) (.int .i64 (n : Int))).run Tryz.prog wq = .ok (.slice (some ⟨wq.heap.size, 0, none⟩) n n) (wq.alloc (.cells RZ 23)) := fun wq => by
        have h := run_make (P := Tryz.prog) wq 46 23 i0 (.float .f32 0) Tryz.underlying46 hi hz0 .i64 .i64 (n : Int) (n : Int) (by omega) (Int.le_refl _) (by rw [hz2]; omega) (by omega)
        simpa [hz1, hRZ] using h
      have hrz : RZ.toList = List.replicate n (.float .f32 0) := by
        rw [← hRZ, show (Value.float .f32 0).cells = #[.float .f32 0] from rfl, toList_madeCells_one]
      have HRZ := Lib.hid hrz
      clear hrz hRZ
      go_region_held3 (fun w' => w'.cell? ⟨w.heap.size, 0, none⟩ = some (.int .i64 W) ∧ w'.cell? ⟨w.heap.size, 1, none⟩ = some (.int .i64 H) ∧ w'.cell? ⟨w.heap.size, 2, none⟩ = some (.slice (some ⟨b, o, none⟩) n c))
        (first | (go_keep; done) | (go_split_ands; refine ⟨?_, ?_, ?_⟩ <;> first | (with_reducible assumption) | (simp [go_sem, *]; done)))
        (fail)
      all_goals go_wp2_with fail
      all_goals go_meet
      all_goals first
        | exact ⟨_, _, rfl, by omega, blk_drew (blk_alloc_new1 wc _ _), RM.zeros HRZ.out hn4 hWd hHt HAR.out (blk_drew (blk_alloc_other (blk_alloc_new wc _) _)), (((Below.refl wc.heap.size wc).alloc (Nat.le_refl _) _).alloc (by simp) _).drew⟩
        | exact ⟨_, _, rfl, Nat.le_refl _, blk_drew (blk_alloc_other (blk_alloc_new wc _) _), RM.zeros HRZ.out hn4 hWd hHt HAR.out (blk_drew (blk_alloc_new1 wc _ _)), (((Below.refl wc.heap.size wc).alloc (Nat.le_refl _) _).alloc (by simp) _).drew⟩
    case rest =>
      rename_i hK
      obtain ⟨B6, g6, rfl, hB6, hblk6, hrm, hb6⟩ := hcut
      refine hK _ _ ?_
      clear hK
      have hl5 := HL5.out
      have hl1 := HL1.out
      exact cut5 w W H b o n c ks HR.out n0 n1 A Bc HAW.out.1 HAW.out.2 B5 B6 g6 (by omega) (by omega) _ HT.out _ _ _ _ _ _ _ _ _ _ _ _ _ _ _ _ _ _ _ _ _ _ _ _ _ _ _ _ _ _ _ _ _ _ _ _ _ _ _ _ _ _ _ _ _ _ _ _ _ _ _ _ _ _ _ _ _ _ _ _ _ _ _ _ _ _ _ _ _ _ _ _ _ _ _ _ _ _ _ _ _ _ _ _ _ _ _ _ _ _ _ _ _ _ _ _ _ _ _ _ _ _ _ _ _ _ _ _ _ _ _ _ _ _ _ _ _ _ _ _ _ _ _ _ _ _ _ _ _ _ _ _ _ _ _ _ _ _ _ _ _ _ _ _ _ _ _ _ _ _ _ _ _ _ _ _ _ _ _ _ _ _ _ _ _ _ _ _ _ _ _ _ _ _ _ _ _ _ _ _ _ _ _ _ _ _ _ _ _ _ _ _ _ _ _ _ _ _ _ _ _ _ _ _ _ _ _ _ _ _ _ _ _ _ _ _ _ _ _ _ _ _ _ _ _ _ _ _ _ _ _ _ _ _ _ _ _ _ _ _ _ _ _ _ _ _ _ _ _ _ _ _ _ _ _ _ _ _ _ _ _ _ _ _ _ _ _ _ _ _ _ _ _ _ _ _ _ _ _ _ _ _ _ _ _ _ _ _ _ _ _ _ _ _ _ _ _ _ _ _ _ _ _ ((K2.out.call hb6).cons hblk6) hrm
end Go.Proofs.YtfdkmmllemkogaaGreatDoor
