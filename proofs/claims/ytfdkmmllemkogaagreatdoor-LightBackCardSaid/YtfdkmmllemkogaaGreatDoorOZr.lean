/-
  Contract of Four for the four samples 1, 2, 3, 4.
-/
import Derived.Test.YtfdkmmllemkogaaGreatDoorOZd
import Derived.Test.YtfdkmmllemkogaaGreatDoorOZk
import Derived.Test.YtfdkmmllemkogaaGreatDoorOWa
import Derived.Deep.CutBlock
import Derived.Deep.DeepCutAuto
namespace Go.Proofs.YtfdkmmllemkogaaGreatDoor
open Go.RowKit
set_option linter.unusedVariables false
set_option linter.unusedSimpArgs false

def accT : List (List Value) := [[.complex .f32 0 0, .complex .f32 1065353216 0, .complex .f32 1077936128 0, .complex .f32 1086324736 0, .complex .f32 1092616192 0],
  [.complex .f32 0 0, .complex .f32 1065353216 0, .complex .f32 1065353216 3221225472, .complex .f32 3221225472 3221225472, .complex .f32 3221225472 1073741824],
  [.complex .f32 0 0, .complex .f32 1065353216 0, .complex .f32 3212836864 0, .complex .f32 1073741824 0, .complex .f32 3221225472 0],
  [.complex .f32 0 0, .complex .f32 1065353216 0, .complex .f32 1065353216 1073741824, .complex .f32 3221225472 1073741824, .complex .f32 3221225472 3221225472]]
/-- The panel's numbers after s of the sixteen steps. -/
def pRow (s : Nat) : List Value := (List.range 4).map fun i => ((accT[i]?.getD [])[min 4 (s - 4 * i)]?).getD undef
def fX : List Nat := [1065353216, 1073741824, 1077936128, 1082130432]
set_option maxRecDepth 100000 in
theorem four_step (k j : Nat) (hk : k < 4) (hj : j < 4) : ∃ x c d e f a b a' b' : Nat, fX[j]? = some x ∧ powL[k * j % 4]? = some (.complex .f32 c d) ∧
    (∀ w : World, (binOp .mul 94 (.complex .f32 x 0) (.complex .f32 c d)).run Tryz.prog w = .ok (.complex .f32 e f) w) ∧
    (∀ w : World, (binOp .add 94 (.complex .f32 a b) (.complex .f32 e f)).run Tryz.prog w = .ok (.complex .f32 a' b') w) ∧
    (∀ w : World, (Instr.index 92 (.agg #[.float .f32 1065353216, .float .f32 1073741824, .float .f32 1077936128, .float .f32 1082130432]) (.int .i64 (j : Int))).run Tryz.prog w = .ok (.float .f32 x) w) ∧
    (pRow (4 * k + j))[k]? = some (.complex .f32 a b) ∧ (pRow (4 * k + j)).set k (.complex .f32 a' b') = pRow (4 * k + (j + 1)) := by
  match k, hk, j, hj with
  | 0, _, 0, _ => exact ⟨1065353216, 1065353216, 0, 1065353216, 0, 0, 0, 1065353216, 0, rfl, rfl, fun w => by kernel_rfl, fun w => by kernel_rfl, fun w => by kernel_rfl, rfl, rfl⟩
  | 0, _, 1, _ => exact ⟨1073741824, 1065353216, 0, 1073741824, 0, 1065353216, 0, 1077936128, 0, rfl, rfl, fun w => by kernel_rfl, fun w => by kernel_rfl, fun w => by kernel_rfl, rfl, rfl⟩
  | 0, _, 2, _ => exact ⟨1077936128, 1065353216, 0, 1077936128, 0, 1077936128, 0, 1086324736, 0, rfl, rfl, fun w => by kernel_rfl, fun w => by kernel_rfl, fun w => by kernel_rfl, rfl, rfl⟩
  | 0, _, 3, _ => exact ⟨1082130432, 1065353216, 0, 1082130432, 0, 1086324736, 0, 1092616192, 0, rfl, rfl, fun w => by kernel_rfl, fun w => by kernel_rfl, fun w => by kernel_rfl, rfl, rfl⟩
  | 1, _, 0, _ => exact ⟨1065353216, 1065353216, 0, 1065353216, 0, 0, 0, 1065353216, 0, rfl, rfl, fun w => by kernel_rfl, fun w => by kernel_rfl, fun w => by kernel_rfl, rfl, rfl⟩
  | 1, _, 1, _ => exact ⟨1073741824, 0, 3212836864, 0, 3221225472, 1065353216, 0, 1065353216, 3221225472, rfl, rfl, fun w => by kernel_rfl, fun w => by kernel_rfl, fun w => by kernel_rfl, rfl, rfl⟩
  | 1, _, 2, _ => exact ⟨1077936128, 3212836864, 0, 3225419776, 0, 1065353216, 3221225472, 3221225472, 3221225472, rfl, rfl, fun w => by kernel_rfl, fun w => by kernel_rfl, fun w => by kernel_rfl, rfl, rfl⟩
  | 1, _, 3, _ => exact ⟨1082130432, 0, 1065353216, 0, 1082130432, 3221225472, 3221225472, 3221225472, 1073741824, rfl, rfl, fun w => by kernel_rfl, fun w => by kernel_rfl, fun w => by kernel_rfl, rfl, rfl⟩
  | 2, _, 0, _ => exact ⟨1065353216, 1065353216, 0, 1065353216, 0, 0, 0, 1065353216, 0, rfl, rfl, fun w => by kernel_rfl, fun w => by kernel_rfl, fun w => by kernel_rfl, rfl, rfl⟩
  | 2, _, 1, _ => exact ⟨1073741824, 3212836864, 0, 3221225472, 0, 1065353216, 0, 3212836864, 0, rfl, rfl, fun w => by kernel_rfl, fun w => by kernel_rfl, fun w => by kernel_rfl, rfl, rfl⟩
  | 2, _, 2, _ => exact ⟨1077936128, 1065353216, 0, 1077936128, 0, 3212836864, 0, 1073741824, 0, rfl, rfl, fun w => by kernel_rfl, fun w => by kernel_rfl, fun w => by kernel_rfl, rfl, rfl⟩
  | 2, _, 3, _ => exact ⟨1082130432, 3212836864, 0, 3229614080, 0, 1073741824, 0, 3221225472, 0, rfl, rfl, fun w => by kernel_rfl, fun w => by kernel_rfl, fun w => by kernel_rfl, rfl, rfl⟩
  | 3, _, 0, _ => exact ⟨1065353216, 1065353216, 0, 1065353216, 0, 0, 0, 1065353216, 0, rfl, rfl, fun w => by kernel_rfl, fun w => by kernel_rfl, fun w => by kernel_rfl, rfl, rfl⟩
  | 3, _, 1, _ => exact ⟨1073741824, 0, 1065353216, 0, 1073741824, 1065353216, 0, 1065353216, 1073741824, rfl, rfl, fun w => by kernel_rfl, fun w => by kernel_rfl, fun w => by kernel_rfl, rfl, rfl⟩
  | 3, _, 2, _ => exact ⟨1077936128, 3212836864, 0, 3225419776, 0, 1065353216, 1073741824, 3221225472, 1073741824, rfl, rfl, fun w => by kernel_rfl, fun w => by kernel_rfl, fun w => by kernel_rfl, rfl, rfl⟩
  | 3, _, 3, _ => exact ⟨1082130432, 0, 3212836864, 0, 3229614080, 3221225472, 1073741824, 3221225472, 3221225472, rfl, rfl, fun w => by kernel_rfl, fun w => by kernel_rfl, fun w => by kernel_rfl, rfl, rfl⟩
theorem blk_setL {w : World} {B k : Nat} {T : TypeId} {L : List Value} {fr : Nat × Nat} (h : w.heap[B]? = some (.cells L.toArray T fr)) (v : Value) (hk : k < L.length) : (w.setCell ⟨B, k, none⟩ v).heap[B]? = some (.cells (L.set k v).toArray T fr) := by
  simp only [World.setCell, Array.getElem?_modify, if_true, h, Option.map_some]
  simp
theorem blk_set4u {w : World} {B : Nat} {T : TypeId} {x y z u : Value} (h : w.heap[B]? = some (.cells #[x, y, z, u] T (0, 0))) (a b c d : Value) :
    ((((w.setCell ⟨B, 0, none⟩ a).setCell ⟨B, 1, none⟩ b).setCell ⟨B, 2, none⟩ c).setCell ⟨B, 3, none⟩ d).heap[B]? = some (.cells #[a, b, c, d] T (0, 0)) := by
  simp only [World.setCell, Array.getElem?_modify, if_true, h, Option.map_some]
  simp
theorem pRow_len (s : Nat) : (pRow s).length = 4 := by simp [pRow]

attribute [local go_sem] store_complex
set_option maxRecDepth 100000 in
set_option maxHeartbeats 3200000 in
theorem four_lit (w : World) :
    Calls Tryz.prog 68 #[.agg #[.float .f32 1065353216, .float .f32 1073741824, .float .f32 1077936128, .float .f32 1082130432]] w fun e w' =>
      e = .returned (.tuple #[.agg #[.complex .f32 1092616192 0, .complex .f32 3221225472 1073741824, .complex .f32 3221225472 0, .complex .f32 3221225472 3221225472], .int .i64 0]) ∧ Below w.heap.size w w' := by
  have HX : ∀ j, j < 4 → ([1065353216, 1073741824, 1077936128, 1082130432] : List Nat)[j]?.getD 0 < 2 ^ 32 ∧ Smp (([1065353216, 1073741824, 1077936128, 1082130432] : List Nat)[j]?.getD 0) (([16, 32, 48, 64] : List Int)[j]?.getD 0) ∧ (([16, 32, 48, 64] : List Int)[j]?.getD 0).natAbs ≤ 16384 := fun j hj => by
    match j, hj with
    | 0, _ => exact ⟨by decide, smpOf_smp 16 (by decide), by decide⟩
    | 1, _ => exact ⟨by decide, smpOf_smp 32 (by decide), by decide⟩
    | 2, _ => exact ⟨by decide, smpOf_smp 48 (by decide), by decide⟩
    | 3, _ => exact ⟨by decide, smpOf_smp 64 (by decide), by decide⟩
  obtain ⟨W0, hW0⟩ : ∃ W0, (w.alloc (.cells #[.float .f32 1065353216, .float .f32 1073741824, .float .f32 1077936128, .float .f32 1082130432] 92)).alloc (.cells #[.complex .f32 0 0, .complex .f32 0 0, .complex .f32 0 0, .complex .f32 0 0] 95) = W0 := ⟨_, rfl⟩
  have hB0 : Below w.heap.size w W0 := by rw [← hW0]; exact ((Below.refl _ w).alloc (Nat.le_refl _) _).alloc (by simp) _
  have hS0 : W0.heap.size = w.heap.size + 2 := by rw [← hW0]; simp
  have bX : W0.heap[w.heap.size]? = some (.cells #[.float .f32 1065353216, .float .f32 1073741824, .float .f32 1077936128, .float .f32 1082130432] 92 (0, 0)) := by
    rw [← hW0]; exact blk_alloc_other (blk_alloc_new _ _) _
  have bY : W0.heap[w.heap.size + 1]? = some (.cells #[.complex .f32 0 0, .complex .f32 0 0, .complex .f32 0 0, .complex .f32 0 0] 95 (0, 0)) := by
    rw [← hW0, show w.heap.size + 1 = (w.alloc (.cells #[.float .f32 1065353216, .float .f32 1073741824, .float .f32 1077936128, .float .f32 1082130432] 92)).heap.size by simp]; exact blk_alloc_new _ _
  have cX : ∀ j, j < 4 → W0.cell? ⟨w.heap.size, 0 + j, none⟩ = some (.float .f32 (([1065353216, 1073741824, 1077936128, 1082130432] : List Nat)[j]?.getD 0)) := fun j hj => by
    rw [Nat.zero_add, cell_of_row _ _ j _ _ (0, 0) bX]
    match j, hj with
    | 0, _ => rfl
    | 1, _ => rfl
    | 2, _ => rfl
    | 3, _ => rfl
  have K1 := Lib.hid (mapped_check w.heap.size 0 4 4 [1065353216, 1073741824, 1077936128, 1082130432] [16, 32, 48, 64] rfl rfl (by decide) (by omega) cX HX)
  have HB0 := Lib.hid hB0
  have HS0 := Lib.hid hS0
  have HX0 := Lib.hid bX
  have HY0 := Lib.hid bY
  clear HX cX hB0 bX bY hS0
  go_enter Tryz.func68, Tryz.ntmps68
  go_upto_region 1 with fail
  try rw [hW0]
  clear hW0
  go_upto_region 4 with (first
    | (go_at_call 130; refine K1.out.mono ?_; rintro e w1 ⟨rfl, hown1, hb1⟩)
    | (go_at_call 109; refine (first_zeros _ 0 4 4 (by omega) _ (fun j hj => by rw [Nat.zero_add]; exact owns_cell hown1 (by match j, hj with | 0, _ => rfl | 1, _ => rfl | 2, _ => rfl | 3, _ => rfl))).mono ?_; rintro e w9 ⟨rfl, rfl⟩))
  have hs1 := hb1.size
  have HX1 : Hid (w1.heap[w.heap.size]? = _) := Lib.hid ((hb1.block _ (lt_of_blk HX0.out)).trans HX0.out)
  have HY1 : Hid (w1.heap[w.heap.size + 1]? = _) := Lib.hid ((hb1.block _ (lt_of_blk HY0.out)).trans HY0.out)
  have HB1 := Lib.hid (HB0.out.trans (hb1.mono (by have := HS0.out; omega)))
  have hl1 : w.heap.size + 2 ≤ w1.heap.size := by have := HS0.out; omega
  obtain ⟨W2, hW2⟩ : ∃ W2, w1.alloc (.cells #[.complex .f32 0 0, .complex .f32 0 0, .complex .f32 0 0, .complex .f32 0 0] 95) = W2 := ⟨_, rfl⟩
  have hP2 : W2.heap[w1.heap.size]? = some (.cells (pRow 0).toArray 95 (0, 0)) := by rw [← hW2]; exact blk_alloc_new _ _
  have hB2 : Below w1.heap.size w1 W2 := by rw [← hW2]; exact (Below.refl _ _).alloc (Nat.le_refl _) _
  have HP2 := Lib.hid hP2
  have HB2 := Lib.hid hB2
  clear hown1 hb1 hP2 hB2
  go_upto_block 0 with fail
  clear hW2
  go_cut [16] (fun s16 wr => wr.heap[w1.heap.size]? = some (.cells (pRow 16).toArray 95 (0, 0)) ∧ Below w1.heap.size w1 wr)
  case first =>
    go_wp2_with fail
    go_loopw [16] (fun s16 wr => ∃ k : Nat, k ≤ 4 ∧ s16 = .int .i64 k ∧ wr.heap[w1.heap.size]? = some (.cells (pRow (4 * k)).toArray 95 (0, 0)) ∧ Below w1.heap.size w1 wr)
      (fun i _ => 4 - (intOf i).toNat)
    case atStart => exact ⟨0, by omega, rfl, HP2.out, HB2.out⟩
    case round =>
      obtain ⟨k, hk, rfl, hrow, hbr⟩ := hrel
      by_cases hlt : k < 4
      · have HRK := Lib.hid hrow
        have HBK := Lib.hid hbr
        have hX := (hbr.block _ (lt_of_blk HX1.out)).trans HX1.out
        have x0 : wr.cell? ⟨w.heap.size, 0, none⟩ = some (.float .f32 1065353216) := by rw [cell_of_row _ _ 0 _ _ (0, 0) hX]; rfl
        have x1 : wr.cell? ⟨w.heap.size, 1, none⟩ = some (.float .f32 1073741824) := by rw [cell_of_row _ _ 1 _ _ (0, 0) hX]; rfl
        have x2 : wr.cell? ⟨w.heap.size, 2, none⟩ = some (.float .f32 1077936128) := by rw [cell_of_row _ _ 2 _ _ (0, 0) hX]; rfl
        have x3 : wr.cell? ⟨w.heap.size, 3, none⟩ = some (.float .f32 1082130432) := by rw [cell_of_row _ _ 3 _ _ (0, 0) hX]; rfl
        clear hrow hbr hX
        have hd : decide ((k : Int) < 4) = true := decide_eq_true (by omega)
        go_wp2_with fail
        try simp only [hd]
        clear hd
        go_loopw [20] (fun s20 wr2 => ∃ j : Nat, j ≤ 4 ∧ s20 = .int .i64 j ∧ wr2.heap[w1.heap.size]? = some (.cells (pRow (4 * k + j)).toArray 95 (0, 0)) ∧ Below w1.heap.size w1 wr2)
          (fun i _ => 4 - (intOf i).toNat)
        case atStart => exact ⟨0, by omega, rfl, HRK.out, HBK.out⟩
        case round =>
          obtain ⟨j, hj, rfl, hrow, hbr⟩ := hrel
          by_cases hjl : j < 4
          · obtain ⟨x, c, d, e1, e2, a, b, a', b', -, hpw, hmul, hadd, hidx, hat, hset⟩ := four_step k j hlt hjl
            have hl := lt_of_blk hrow
            have hcp : wr.cell? ⟨w1.heap.size, k, none⟩ = some (.complex .f32 a b) := by rw [cell_of_row _ _ k _ _ (0, 0) hrow]; simpa using hat
            obtain ⟨m, hm⟩ : ∃ m : Nat, k * j = m := ⟨_, rfl⟩
            have hm9 : m ≤ 9 := by rw [← hm]; have := Nat.mul_le_mul (show k ≤ 3 by omega) (show j ≤ 3 by omega); omega
            have hmi : (k : Int) * (j : Int) = (m : Int) := by rw [← hm]; simp
            have hwm : IntKind.i64.wrap (m : Int) = (m : Int) := IntWalk.i64_in _ ⟨by omega, by omega⟩
            rw [hm] at hpw
            have KP := Lib.hid (power_any m (m % 4) _ rfl hpw)
            have HR := Lib.hid hrow
            have HBR := Lib.hid hbr
            have HS := Lib.hid hset
            clear hrow hbr hset hat hpw hm x0 x1 x2 x3
            have hf2 : wr.frozen? ⟨w1.heap.size, k, none⟩ = false := by simp [World.frozen?, HR.out]
            go_upto_region 11 with fail
            have hcpd : wr.drew.cell? ⟨w1.heap.size, k, none⟩ = some (.complex .f32 a b) := hcp
            have hfd : wr.drew.frozen? ⟨w1.heap.size, k, none⟩ = false := hf2
            go_region_with ((go_at_call 156; with_reducible refine (KP.out _).mono ?_; rintro e w8 ⟨rfl, hb8⟩
                             have hcp8 := (hb8.cell (p := ⟨w1.heap.size, k, none⟩) hl).trans hcp
                             have hf8 : w8.frozen? ⟨w1.heap.size, k, none⟩ = false := by simp [World.frozen?, (hb8.block _ hl).trans HR.out]))
            all_goals (
              have hr8 : (w8.setCell ⟨w1.heap.size, k, none⟩ (.complex .f32 a' b')).heap[w1.heap.size]? = some (.cells (pRow (4 * k + (j + 1))).toArray 95 (0, 0)) := by
                rw [← HS.out]; exact blk_setL ((hb8.block _ hl).trans HR.out) _ (by rw [pRow_len]; omega)
              have hbn : Below w1.heap.size w1 (w8.setCell ⟨w1.heap.size, k, none⟩ (.complex .f32 a' b')) := (HBR.out.drew.trans (hb8.mono (Nat.le_of_lt hl))).setCell (p := ⟨w1.heap.size, k, none⟩) (Nat.le_refl _) _
              have HR8 := Lib.hid hr8
              have HBN := Lib.hid hbn
              clear hr8 hbn hb8 hcp8 hf8
              go_wp2_with fail
              go_roundw
              case rel => exact ⟨j + 1, by omega, by go_num, HR8.out, HBN.out⟩
              case measure => simp [intOf]; omega)
          · obtain rfl : j = 4 := by omega
            go_wp2_with fail
            go_roundw
            case rel => exact ⟨k + 1, by omega, by go_num, hrow, hbr⟩
            case measure => simp [intOf]; omega
      · obtain rfl : k = 4 := by omega
        go_wp2_with fail
        go_meet
        exact ⟨hrow, hbr⟩
  case rest =>
    obtain ⟨hrow, hbr⟩ := hcut
    have hY := (hbr.block _ (lt_of_blk HY1.out)).trans HY1.out
    have p0 : wc.cell? ⟨w1.heap.size, 0, none⟩ = some (.complex .f32 1092616192 0) := by rw [cell_of_row _ _ 0 _ _ (0, 0) hrow]; rfl
    have p1 : wc.cell? ⟨w1.heap.size, 1, none⟩ = some (.complex .f32 3221225472 1073741824) := by rw [cell_of_row _ _ 1 _ _ (0, 0) hrow]; rfl
    have p2 : wc.cell? ⟨w1.heap.size, 2, none⟩ = some (.complex .f32 3221225472 0) := by rw [cell_of_row _ _ 2 _ _ (0, 0) hrow]; rfl
    have p3 : wc.cell? ⟨w1.heap.size, 3, none⟩ = some (.complex .f32 3221225472 3221225472) := by rw [cell_of_row _ _ 3 _ _ (0, 0) hrow]; rfl
    have y0 : wc.cell? ⟨w.heap.size + 1, 0, none⟩ = some (.complex .f32 0 0) := by rw [cell_of_row _ _ 0 _ _ (0, 0) hY]; rfl
    have y1 : wc.cell? ⟨w.heap.size + 1, 1, none⟩ = some (.complex .f32 0 0) := by rw [cell_of_row _ _ 1 _ _ (0, 0) hY]; rfl
    have y2 : wc.cell? ⟨w.heap.size + 1, 2, none⟩ = some (.complex .f32 0 0) := by rw [cell_of_row _ _ 2 _ _ (0, 0) hY]; rfl
    have y3 : wc.cell? ⟨w.heap.size + 1, 3, none⟩ = some (.complex .f32 0 0) := by rw [cell_of_row _ _ 3 _ _ (0, 0) hY]; rfl
    have yf : ∀ j, wc.frozen? ⟨w.heap.size + 1, j, none⟩ = false := fun j => by simp [World.frozen?, hY]
    have yf0 := yf 0
    have yf1 := yf 1
    have yf2 := yf 2
    have yf3 := yf 3
    have HY := Lib.hid hY
    have HBR := Lib.hid hbr
    clear hrow hbr hY yf
    go_wp2_with fail
    have hF := blk_set4u HY.out (.complex .f32 1092616192 0) (.complex .f32 3221225472 1073741824) (.complex .f32 3221225472 0) (.complex .f32 3221225472 3221225472)
    (try simp only [Exit.inBlock, Exit.then])
    refine bodyPost_ret (results_row_tmp rfl _ _ (w.heap.size + 1) 95 _ (0, 0) _ rfl hF Tryz.underlying95 rfl (by kernel_rfl)) rfl ?_
    refine ⟨rfl, ?_⟩
    have h1 : Below w.heap.size w wc := HB1.out.trans (HBR.out.mono (by omega))
    exact (((h1.setCell (p := ⟨w.heap.size + 1, 0, none⟩) (by show w.heap.size ≤ w.heap.size + 1; omega) _).setCell (p := ⟨w.heap.size + 1, 1, none⟩) (by show w.heap.size ≤ w.heap.size + 1; omega) _).setCell (p := ⟨w.heap.size + 1, 2, none⟩) (by show w.heap.size ≤ w.heap.size + 1; omega) _).setCell (p := ⟨w.heap.size + 1, 3, none⟩) (by show w.heap.size ≤ w.heap.size + 1; omega) _
end Go.Proofs.YtfdkmmllemkogaaGreatDoor
