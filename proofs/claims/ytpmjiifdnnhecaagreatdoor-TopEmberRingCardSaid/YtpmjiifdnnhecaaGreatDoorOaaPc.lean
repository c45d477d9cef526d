/-
  Contract of Four for any four right samples: the panel's numbers stand for sums of products with the powers of -i.
-/
import Derived.Test.YtpmjiifdnnhecaaGreatDoorOaaVa
import Derived.Test.YtpmjiifdnnhecaaGreatDoorOaaZr
namespace Go.Proofs.YtpmjiifdnnhecaaGreatDoor
open Go.RowKit
set_option linter.unusedVariables false
set_option linter.unusedSimpArgs false

/-- The sums of Four, of the first m samples. -/
def accR (ks : List Int) (k : Nat) : Nat → Int
  | 0 => 0
  | j + 1 => accR ks k j + ks[j]?.getD 0 * powRe (k * j % 4)
def accI (ks : List Int) (k : Nat) : Nat → Int
  | 0 => 0
  | j + 1 => accI ks k j + ks[j]?.getD 0 * powIm (k * j % 4)
theorem acc_small {ks : List Int} {M : Nat} (h : ∀ j, j < 4 → (ks[j]?.getD 0).natAbs ≤ M) (k : Nat) : ∀ m, m ≤ 4 → (accR ks k m).natAbs ≤ m * M ∧ (accI ks k m).natAbs ≤ m * M
  | 0, _ => by simp [accR, accI]
  | m + 1, hm => by
    have ih := acc_small h k m (by omega)
    have hp := pow_small (n := k * m % 4) (Nat.mod_lt _ (by omega))
    have h1 := mul_small (h m (by omega)) hp.1
    have h2 := mul_small (h m (by omega)) hp.2
    have e : (m + 1) * M = m * M + M := Nat.succ_mul _ _
    unfold accR accI
    rw [e]
    omega
/-- How many samples each number of the panel has had. -/
def stepsOf (k j i : Nat) : Nat := if i < k then 4 else if i = k then j else 0
/-- The panel's cells. -/
def PanelAt (ks : List Int) (s : Nat → Nat) (L : List Value) : Prop := L.length = 4 ∧ ∀ i, i < 4 → ∃ a b, L[i]? = some (.complex .f32 a b) ∧ Smp a (accR ks i (s i)) ∧ Smp b (accI ks i (s i)) ∧ a < 2 ^ 32 ∧ b < 2 ^ 32
theorem smp00 : Smp 0 0 := by
  have h := smpOf_smp 0 (by decide)
  rwa [show smpOf 0 = 0 from by decide +kernel] at h
theorem PanelAt.start (ks : List Int) : PanelAt ks (stepsOf 0 0) [.complex .f32 0 0, .complex .f32 0 0, .complex .f32 0 0, .complex .f32 0 0] := ⟨rfl, fun i hi => by
  have e : stepsOf 0 0 i = 0 := by unfold stepsOf; rw [if_neg (by omega)]; split <;> rfl
  rw [e]
  match i, hi with
  | 0, _ => exact ⟨0, 0, rfl, smp00, smp00, by decide, by decide⟩
  | 1, _ => exact ⟨0, 0, rfl, smp00, smp00, by decide, by decide⟩
  | 2, _ => exact ⟨0, 0, rfl, smp00, smp00, by decide, by decide⟩
  | 3, _ => exact ⟨0, 0, rfl, smp00, smp00, by decide, by decide⟩⟩
theorem PanelAt.next {ks : List Int} {k : Nat} {L : List Value} (h : PanelAt ks (stepsOf k 4) L) : PanelAt ks (stepsOf (k + 1) 0) L := ⟨h.1, fun i hi => by
  have e : stepsOf (k + 1) 0 i = stepsOf k 4 i := by
    unfold stepsOf
    by_cases h1 : i < k
    · rw [if_pos (by omega), if_pos h1]
    · by_cases h2 : i = k
      · rw [if_pos (by omega), if_neg h1, if_pos h2]
      · rw [if_neg (by omega), if_neg h1, if_neg h2]; split <;> rfl
  rw [e]; exact h.2 i hi⟩
theorem PanelAt.step {ks : List Int} {k j : Nat} {L : List Value} (h : PanelAt ks (stepsOf k j) L) (hk : k < 4) {a b : Nat} (ha : Smp a (accR ks k (j + 1))) (hb : Smp b (accI ks k (j + 1))) (wa : a < 2 ^ 32) (wb : b < 2 ^ 32) : PanelAt ks (stepsOf k (j + 1)) (L.set k (.complex .f32 a b)) := by
  refine ⟨by rw [List.length_set]; exact h.1, fun i hi => ?_⟩
  by_cases hik : i = k
  · subst hik
    have e : stepsOf i (j + 1) i = j + 1 := by unfold stepsOf; rw [if_neg (by omega), if_pos rfl]
    rw [e]
    exact ⟨a, b, by rw [List.getElem?_set_self (by rw [h.1]; exact hi)], ha, hb, wa, wb⟩
  · have e : stepsOf k (j + 1) i = stepsOf k j i := by unfold stepsOf; rw [if_neg hik, if_neg hik]
    rw [e, List.getElem?_set_ne (fun e => hik e.symm)]
    exact h.2 i hi
theorem idx_four (x0 x1 x2 x3 : Nat) : ∀ j : Nat, j < 4 → ∀ w : World, (Instr.index 139 (.agg #[.float .f32 x0, .float .f32 x1, .float .f32 x2, .float .f32 x3]) (.int .i64 (j : Int))).run Tryz.prog w = .ok (.float .f32 (([x0, x1, x2, x3] : List Nat)[j]?.getD 0)) w
  | 0, _ => fun w => by kernel_rfl
  | 1, _ => fun w => by kernel_rfl
  | 2, _ => fun w => by kernel_rfl
  | 3, _ => fun w => by kernel_rfl
theorem panel_list {L : List Value} (h : L.length = 4) : ∃ a b c d, L = [a, b, c, d] := by
  match L, h with
  | [a, b, c, d], _ => exact ⟨a, b, c, d, rfl⟩

attribute [local go_sem] store_complex
set_option maxRecDepth 100000 in
set_option maxHeartbeats 3200000 in
theorem four_any (x0 x1 x2 x3 : Nat) (ks : List Int) (hks : ks.length = 4) (HX : ∀ j, j < 4 → ([x0, x1, x2, x3] : List Nat)[j]?.getD 0 < 2 ^ 32 ∧ Smp (([x0, x1, x2, x3] : List Nat)[j]?.getD 0) (ks[j]?.getD 0) ∧ (ks[j]?.getD 0).natAbs ≤ 16384) (w : World) :
    Calls Tryz.prog 72 #[.agg #[.float .f32 x0, .float .f32 x1, .float .f32 x2, .float .f32 x3]] w fun e w' =>
      ∃ L, e = .returned (.tuple #[.agg L.toArray, .int .i64 0]) ∧ PanelAt ks (fun _ => 4) L ∧ Below w.heap.size w w' := by
  obtain ⟨W0, hW0⟩ : ∃ W0, (w.alloc (.cells #[.float .f32 x0, .float .f32 x1, .float .f32 x2, .float .f32 x3] 139)).alloc (.cells #[.complex .f32 0 0, .complex .f32 0 0, .complex .f32 0 0, .complex .f32 0 0] 136) = W0 := ⟨_, rfl⟩
  have hB0 : Below w.heap.size w W0 := by rw [← hW0]; exact ((Below.refl _ w).alloc (Nat.le_refl _) _).alloc (by simp) _
  have hS0 : W0.heap.size = w.heap.size + 2 := by rw [← hW0]; simp
  have bX : W0.heap[w.heap.size]? = some (.cells #[.float .f32 x0, .float .f32 x1, .float .f32 x2, .float .f32 x3] 139 (0, 0)) := by
    rw [← hW0]; exact blk_alloc_other (blk_alloc_new _ _) _
  have bY : W0.heap[w.heap.size + 1]? = some (.cells #[.complex .f32 0 0, .complex .f32 0 0, .complex .f32 0 0, .complex .f32 0 0] 136 (0, 0)) := by
    rw [← hW0, show w.heap.size + 1 = (w.alloc (.cells #[.float .f32 x0, .float .f32 x1, .float .f32 x2, .float .f32 x3] 139)).heap.size by simp]; exact blk_alloc_new _ _
  have cX : ∀ j, j < 4 → W0.cell? ⟨w.heap.size, 0 + j, none⟩ = some (.float .f32 (([x0, x1, x2, x3] : List Nat)[j]?.getD 0)) := fun j hj => by
    rw [Nat.zero_add, cell_of_row _ _ j _ _ (0, 0) bX]
    match j, hj with
    | 0, _ => rfl
    | 1, _ => rfl
    | 2, _ => rfl
    | 3, _ => rfl
  have K1 := Lib.hid (mapped_check w.heap.size 0 4 4 [x0, x1, x2, x3] ks rfl hks (by decide) (by omega) cX HX)
  have HB0 := Lib.hid hB0
  have HS0 := Lib.hid hS0
  have HX0 := Lib.hid bX
  have HY0 := Lib.hid bY
  have HXX := Lib.hid HX
  have HKS := Lib.hid hks
  clear HX cX hB0 bX bY hS0
  go_enter Tryz.func72, Tryz.ntmps72
  go_upto_region 1 with fail
  try rw [hW0]
  clear hW0
  go_upto_region 4 with (first
    | (go_at_call 155; refine K1.out.mono ?_; rintro e w1 ⟨rfl, hown1, hb1⟩)
    | (go_at_call 77; refine (first_zeros _ 0 4 4 (by omega) _ (fun j hj => by rw [Nat.zero_add]; exact owns_cell hown1 (by rw [List.getElem?_map, List.getElem?_eq_getElem (by omega)]; rfl))).mono ?_; rintro e w9 ⟨rfl, rfl⟩))
  have hs1 := hb1.size
  have HX1 : Hid (w1.heap[w.heap.size]? = _) := Lib.hid ((hb1.block _ (lt_of_blk HX0.out)).trans HX0.out)
  have HY1 : Hid (w1.heap[w.heap.size + 1]? = _) := Lib.hid ((hb1.block _ (lt_of_blk HY0.out)).trans HY0.out)
  have HB1 := Lib.hid (HB0.out.trans (hb1.mono (by have := HS0.out; omega)))
  have hl1 : w.heap.size + 2 ≤ w1.heap.size := by have := HS0.out; omega
  obtain ⟨W2, hW2⟩ : ∃ W2, w1.alloc (.cells #[.complex .f32 0 0, .complex .f32 0 0, .complex .f32 0 0, .complex .f32 0 0] 136) = W2 := ⟨_, rfl⟩
  have hP2 : W2.heap[w1.heap.size]? = some (.cells ([.complex .f32 0 0, .complex .f32 0 0, .complex .f32 0 0, .complex .f32 0 0] : List Value).toArray 136 (0, 0)) := by rw [← hW2]; exact blk_alloc_new _ _
  have hB2 : Below w1.heap.size w1 W2 := by rw [← hW2]; exact (Below.refl _ _).alloc (Nat.le_refl _) _
  have HP2 := Lib.hid hP2
  have HB2 := Lib.hid hB2
  clear hown1 hb1 hP2 hB2
  go_upto_block 0 with fail
  clear hW2
  go_cut [16] (fun s16 wr => ∃ L : List Value, wr.heap[w1.heap.size]? = some (.cells L.toArray 136 (0, 0)) ∧ PanelAt ks (stepsOf 4 0) L ∧ Below w1.heap.size w1 wr)
  case first =>
    go_wp2_with fail
    go_loopw [16] (fun s16 wr => ∃ (k : Nat) (L : List Value), k ≤ 4 ∧ s16 = .int .i64 k ∧ wr.heap[w1.heap.size]? = some (.cells L.toArray 136 (0, 0)) ∧ PanelAt ks (stepsOf k 0) L ∧ Below w1.heap.size w1 wr)
      (fun i _ => 4 - (intOf i).toNat)
    case atStart => exact ⟨0, _, by omega, rfl, HP2.out, PanelAt.start ks, HB2.out⟩
    case round =>
      obtain ⟨k, L, hk, rfl, hrow, hpl, hbr⟩ := hrel
      by_cases hlt : k < 4
      · have HRK := Lib.hid hrow
        have HPL := Lib.hid hpl
        have HBK := Lib.hid hbr
        have hX := (hbr.block _ (lt_of_blk HX1.out)).trans HX1.out
        have g0 : wr.cell? ⟨w.heap.size, 0, none⟩ = some (.float .f32 x0) := by rw [cell_of_row _ _ 0 _ _ (0, 0) hX]; rfl
        have g1 : wr.cell? ⟨w.heap.size, 1, none⟩ = some (.float .f32 x1) := by rw [cell_of_row _ _ 1 _ _ (0, 0) hX]; rfl
        have g2 : wr.cell? ⟨w.heap.size, 2, none⟩ = some (.float .f32 x2) := by rw [cell_of_row _ _ 2 _ _ (0, 0) hX]; rfl
        have g3 : wr.cell? ⟨w.heap.size, 3, none⟩ = some (.float .f32 x3) := by rw [cell_of_row _ _ 3 _ _ (0, 0) hX]; rfl
        clear hrow hbr hX hpl
        have hd : decide ((k : Int) < 4) = true := decide_eq_true (by omega)
        go_wp2_with fail
        try simp only [hd]
        clear hd
        go_loopw [20] (fun s20 wr2 => ∃ (j : Nat) (L : List Value), j ≤ 4 ∧ s20 = .int .i64 j ∧ wr2.heap[w1.heap.size]? = some (.cells L.toArray 136 (0, 0)) ∧ PanelAt ks (stepsOf k j) L ∧ Below w1.heap.size w1 wr2)
          (fun i _ => 4 - (intOf i).toNat)
        case atStart => exact ⟨0, L, by omega, rfl, HRK.out, HPL.out, HBK.out⟩
        case round =>
          obtain ⟨j, L2, hj, rfl, hrow, hpl, hbr⟩ := hrel
          by_cases hjl : j < 4
          · obtain ⟨a, b, hat, sa, sb, -⟩ := hpl.2 k hlt
            have es : stepsOf k j k = j := by unfold stepsOf; rw [if_neg (by omega), if_pos rfl]
            rw [es] at sa sb
            obtain ⟨x, hx⟩ : ∃ x, ([x0, x1, x2, x3] : List Nat)[j]?.getD 0 = x := ⟨_, rfl⟩
            have hxj := HXX.out j hjl
            rw [hx] at hxj
            have hp4 : k * j % 4 < 4 := Nat.mod_lt _ (by omega)
            obtain ⟨e1, e2, hmul, se1, se2⟩ := cmul_pow Tryz.prog 135 hxj.2.1 smp00 (by have := hxj.2.2; omega) (by decide) hp4
            have sm := acc_small (fun q hq => (HXX.out q hq).2.2) k j (by omega)
            have sq := mul_small hxj.2.2 (pow_small hp4).1
            have sr := mul_small hxj.2.2 (pow_small hp4).2
            rw [Int.zero_mul, Int.sub_zero] at se1
            rw [Int.zero_mul, Int.add_zero] at se2
            obtain ⟨a', b', hadd, sa', sb', wa', wb'⟩ := cadd_smp Tryz.prog 135 sa sb se1 se2 (Nat.lt_of_le_of_lt (show _ ≤ 81920 by omega) (by decide)) (Nat.lt_of_le_of_lt (show _ ≤ 81920 by omega) (by decide))
            have hset := PanelAt.step hpl hlt (a := a') (b := b') sa' sb' wa' wb'
            have hpw := powL_words hp4
            obtain ⟨c, hc⟩ : ∃ c, powWR (k * j % 4) = c := ⟨_, rfl⟩
            obtain ⟨d, hd⟩ : ∃ d, powWI (k * j % 4) = d := ⟨_, rfl⟩
            rw [hc, hd] at hpw hmul
            have hidx := idx_four x0 x1 x2 x3 j hjl
            rw [hx] at hidx
            have hlen := hpl.1
            clear hx hxj hp4 se1 se2 sm sq sr sa sb sa' sb' es hc hd hpl
            have hl := lt_of_blk hrow
            have hcp : wr.cell? ⟨w1.heap.size, k, none⟩ = some (.complex .f32 a b) := by rw [cell_of_row _ _ k _ _ (0, 0) hrow]; simpa using hat
            obtain ⟨m, hm⟩ : ∃ m : Nat, k * j = m := ⟨_, rfl⟩
            have hm9 : m ≤ 9 := by rw [← hm]; have := Nat.mul_le_mul (show k ≤ 3 by omega) (show j ≤ 3 by omega); omega
            have hmi : (k : Int) * (j : Int) = (m : Int) := by rw [← hm]; simp
            have hwm : IntKind.i64.wrap (m : Int) = (m : Int) := IntWalk.i64_in _ ⟨by omega, by omega⟩
            rw [hm] at hpw
            have KP := Lib.hid (power_any m (m % 4) _ rfl hpw)
            have HR := Lib.hid hrow
            have HBR := Lib.hid hbr
            have HS := Lib.hid hset
            have HLEN := Lib.hid hlen
            clear hrow hbr hset hat hpw hm hlen g0 g1 g2 g3
            have hf2 : wr.frozen? ⟨w1.heap.size, k, none⟩ = false := by simp [World.frozen?, HR.out]
            go_upto_region 11 with fail
            have hcpd : wr.drew.cell? ⟨w1.heap.size, k, none⟩ = some (.complex .f32 a b) := hcp
            have hfd : wr.drew.frozen? ⟨w1.heap.size, k, none⟩ = false := hf2
            go_region_with ((go_at_call 157; with_reducible refine (KP.out _).mono ?_; rintro e w8 ⟨rfl, hb8⟩
                             have hcp8 := (hb8.cell (p := ⟨w1.heap.size, k, none⟩) hl).trans hcp
                             have hf8 : w8.frozen? ⟨w1.heap.size, k, none⟩ = false := by simp [World.frozen?, (hb8.block _ hl).trans HR.out]))
            all_goals (
              have hr8 : (w8.setCell ⟨w1.heap.size, k, none⟩ (.complex .f32 a' b')).heap[w1.heap.size]? = some (.cells (L2.set k (.complex .f32 a' b')).toArray 136 (0, 0)) := by
                exact blk_setL ((hb8.block _ hl).trans HR.out) _ (by rw [HLEN.out]; omega)
              have hbn : Below w1.heap.size w1 (w8.setCell ⟨w1.heap.size, k, none⟩ (.complex .f32 a' b')) := (HBR.out.drew.trans (hb8.mono (Nat.le_of_lt hl))).setCell (p := ⟨w1.heap.size, k, none⟩) (Nat.le_refl _) _
              have HR8 := Lib.hid hr8
              have HBN := Lib.hid hbn
              clear hr8 hbn hb8 hcp8 hf8
              go_wp2_with fail
              go_roundw
              case rel => exact ⟨j + 1, _, by omega, by go_num, HR8.out, HS.out, HBN.out⟩
              case measure => simp [intOf]; omega)
          · obtain rfl : j = 4 := by omega
            go_wp2_with fail
            go_roundw
            case rel => exact ⟨k + 1, L2, by omega, by go_num, hrow, hpl.next, hbr⟩
            case measure => simp [intOf]; omega
      · obtain rfl : k = 4 := by omega
        go_wp2_with fail
        go_meet
        exact ⟨L, hrow, hpl, hbr⟩
  case rest =>
    obtain ⟨L, hrow, hpl, hbr⟩ := hcut
    obtain ⟨v0, v1, v2, v3, rfl⟩ := panel_list hpl.1
    obtain ⟨a0, b0, e0, s0, t0⟩ := hpl.2 0 (by omega)
    obtain ⟨a1, b1, e1, s1, t1⟩ := hpl.2 1 (by omega)
    obtain ⟨a2, b2, e2, s2, t2⟩ := hpl.2 2 (by omega)
    obtain ⟨a3, b3, e3, s3, t3⟩ := hpl.2 3 (by omega)
    obtain rfl := Option.some.inj e0
    obtain rfl := Option.some.inj e1
    obtain rfl := Option.some.inj e2
    obtain rfl := Option.some.inj e3
    have HPLF : Hid (PanelAt ks (fun _ => 4) [.complex .f32 a0 b0, .complex .f32 a1 b1, .complex .f32 a2 b2, .complex .f32 a3 b3]) := Lib.hid ⟨rfl, fun i hi => by
      have h := hpl.2 i hi
      rwa [show stepsOf 4 0 i = 4 by unfold stepsOf; rw [if_pos hi]] at h⟩
    clear hpl s0 s1 s2 s3 t0 t1 t2 t3 e0 e1 e2 e3
    have hY := (hbr.block _ (lt_of_blk HY1.out)).trans HY1.out
    have p0 : wc.cell? ⟨w1.heap.size, 0, none⟩ = some (.complex .f32 a0 b0) := by rw [cell_of_row _ _ 0 _ _ (0, 0) hrow]; rfl
    have p1 : wc.cell? ⟨w1.heap.size, 1, none⟩ = some (.complex .f32 a1 b1) := by rw [cell_of_row _ _ 1 _ _ (0, 0) hrow]; rfl
    have p2 : wc.cell? ⟨w1.heap.size, 2, none⟩ = some (.complex .f32 a2 b2) := by rw [cell_of_row _ _ 2 _ _ (0, 0) hrow]; rfl
    have p3 : wc.cell? ⟨w1.heap.size, 3, none⟩ = some (.complex .f32 a3 b3) := by rw [cell_of_row _ _ 3 _ _ (0, 0) hrow]; rfl
    have y0 : wc.cell? ⟨w.heap.size + 1, 0, none⟩ = some (.complex .f32 0 0) := by rw [cell_of_row _ _ 0 _ _ (0, 0) hY]; rfl
    have y1 : wc.cell? ⟨w.heap.size + 1, 1, none⟩ = some (.complex .f32 0 0) := by rw [cell_of_row _ _ 1 _ _ (0, 0) hY]; rfl
    have y2 : wc.cell? ⟨w.heap.size + 1, 2, none⟩ = some (.complex .f32 0 0) := by rw [cell_of_row _ _ 2 _ _ (0, 0) hY]; rfl
    have y3 : wc.cell? ⟨w.heap.size + 1, 3, none⟩ = some (.complex .f32 0 0) := by rw [cell_of_row _ _ 3 _ _ (0, 0) hY]; rfl
    have yf : ∀ j, wc.frozen? ⟨w.heap.size + 1, j, none⟩ = false := fun j => by simp [World.frozen?, hY]
    have yf0 := yf 0
    have yf1 := yf 1
    have yf2 := yf 2
    have yf3 := yf 3
    have HY := Lib.hid hY
    have HBR := Lib.hid hbr
    clear hrow hbr hY yf
    go_wp2_with fail
    have hF := blk_set4u HY.out (.complex .f32 a0 b0) (.complex .f32 a1 b1) (.complex .f32 a2 b2) (.complex .f32 a3 b3)
    (try simp only [Exit.inBlock, Exit.then])
    refine bodyPost_ret (results_row_tmp rfl _ _ (w.heap.size + 1) 136 _ (0, 0) _ rfl hF Tryz.underlying136 rfl (by kernel_rfl)) rfl ?_
    refine ⟨_, rfl, HPLF.out, ?_⟩
    have h1 : Below w.heap.size w wc := HB1.out.trans (HBR.out.mono (by omega))
    exact (((h1.setCell (p := ⟨w.heap.size + 1, 0, none⟩) (by show w.heap.size ≤ w.heap.size + 1; omega) _).setCell (p := ⟨w.heap.size + 1, 1, none⟩) (by show w.heap.size ≤ w.heap.size + 1; omega) _).setCell (p := ⟨w.heap.size + 1, 2, none⟩) (by show w.heap.size ≤ w.heap.size + 1; omega) _).setCell (p := ⟨w.heap.size + 1, 3, none⟩) (by show w.heap.size ≤ w.heap.size + 1; omega) _
end Go.Proofs.YtpmjiifdnnhecaaGreatDoor
