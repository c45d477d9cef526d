/-
  Contract of Unfour for a panel of right numbers: the samples, or an error of the form.
-/
import Derived.Test.YtfdkmmllemkogaaGreatDoorOdKb
import Derived.Test.YtfdkmmllemkogaaGreatDoorOdPc
namespace Go.Proofs.YtfdkmmllemkogaaGreatDoor
open Go.RowKit
set_option linter.unusedVariables false
set_option linter.unusedSimpArgs false

/-- The sums of Unfour, of the first numbers of the panel. -/
def unR (ks ls : List Int) (n : Nat) : Nat → Int
  | 0 => 0
  | k + 1 => unR ks ls n k + (ks[k]?.getD 0 * powRe (3 * k * n % 4) - ls[k]?.getD 0 * powIm (3 * k * n % 4))
def unI (ks ls : List Int) (n : Nat) : Nat → Int
  | 0 => 0
  | k + 1 => unI ks ls n k + (ks[k]?.getD 0 * powIm (3 * k * n % 4) + ls[k]?.getD 0 * powRe (3 * k * n % 4))
theorem un_small {ks ls : List Int} {M : Nat} (h : ∀ j, j < 4 → (ks[j]?.getD 0).natAbs ≤ M ∧ (ls[j]?.getD 0).natAbs ≤ M) (n : Nat) : ∀ m, m ≤ 4 → (unR ks ls n m).natAbs ≤ 2 * (m * M) ∧ (unI ks ls n m).natAbs ≤ 2 * (m * M)
  | 0, _ => by simp [unR, unI]
  | m + 1, hm => by
    have ih := un_small h n m (by omega)
    have hp := pow_small (n := 3 * m * n % 4) (Nat.mod_lt _ (by omega))
    have hj := h m (by omega)
    have h1 := mul_small hj.1 hp.1
    have h2 := mul_small hj.1 hp.2
    have h3 := mul_small hj.2 hp.1
    have h4 := mul_small hj.2 hp.2
    have e : (m + 1) * M = m * M + M := Nat.succ_mul _ _
    simp only [unR, unI]
    rw [e]
    generalize m * M = q at *
    generalize unR ks ls n m = u at *
    generalize unI ks ls n m = v at *
    generalize ks[m]?.getD 0 * powRe (3 * m * n % 4) = a1 at *
    generalize ks[m]?.getD 0 * powIm (3 * m * n % 4) = a2 at *
    generalize ls[m]?.getD 0 * powRe (3 * m * n % 4) = a3 at *
    generalize ls[m]?.getD 0 * powIm (3 * m * n % 4) = a4 at *
    clear hp hj e
    omega
/-- A number of samples is that of a sample. -/
def unOk (ks ls : List Int) (n : Nat) : Prop := unI ks ls n 4 = 0 ∧ unR ks ls n 4 % 4 = 0 ∧ (unR ks ls n 4 / 4).natAbs ≤ 16384
instance (ks ls : List Int) (n : Nat) : Decidable (unOk ks ls n) := by unfold unOk; infer_instance
/-- What Unfour answers for a panel of right numbers. -/
def UnfourPost (ks ls : List Int) (w : World) (e : Ending) (w' : World) : Prop := Below w.heap.size w w' ∧
  (((∀ i, i < 4 → unOk ks ls i) ∧ ∃ r0 r1 r2 r3 : Nat, e = .returned (.tuple #[.agg #[.float .f32 r0, .float .f32 r1, .float .f32 r2, .float .f32 r3], .int .i64 0]) ∧ ∀ i, i < 4 → Smp (([r0, r1, r2, r3] : List Nat)[i]?.getD 0) (unR ks ls i 4 / 4)) ∨
   ((¬ ∀ i, i < 4 → unOk ks ls i) ∧ e = .returned (.tuple #[.agg #[.float .f32 0, .float .f32 0, .float .f32 0, .float .f32 0], .int .i64 1])))
theorem unfour_bad {ks ls : List Int} {w w' : World} {n : Nat} (hn : n < 4) (h : ¬ unOk ks ls n) (hb : Below w.heap.size w w') : UnfourPost ks ls w (.returned (.tuple #[.agg #[.float .f32 0, .float .f32 0, .float .f32 0, .float .f32 0], .int .i64 1])) w' :=
  ⟨hb, .inr ⟨fun hh => h (hh n hn), rfl⟩⟩
theorem unfour_good {ks ls : List Int} {w w' : World} {r0 r1 r2 r3 : Nat} (h : ∀ i, i < 4 → unOk ks ls i) (hs : ∀ i, i < 4 → Smp (([r0, r1, r2, r3] : List Nat)[i]?.getD 0) (unR ks ls i 4 / 4)) (hb : Below w.heap.size w w') : UnfourPost ks ls w (.returned (.tuple #[.agg #[.float .f32 r0, .float .f32 r1, .float .f32 r2, .float .f32 r3], .int .i64 0])) w' :=
  ⟨hb, .inl ⟨h, r0, r1, r2, r3, rfl, hs⟩⟩
/-- The samples that are made so far. -/
def SampAt (ks ls : List Int) (n : Nat) (R : List Nat) : Prop := R.length = 4 ∧ ∀ i, i < n → unOk ks ls i ∧ Smp (R[i]?.getD 0) (unR ks ls i 4 / 4)
theorem SampAt.step {ks ls : List Int} {n : Nat} {R : List Nat} (h : SampAt ks ls n R) (hn : n < 4) {r : Nat} (ho : unOk ks ls n) (hr : Smp r (unR ks ls n 4 / 4)) : SampAt ks ls (n + 1) (R.set n r) := by
  refine ⟨by rw [List.length_set]; exact h.1, fun i hi => ?_⟩
  by_cases hin : i = n
  · subst hin
    rw [List.getElem?_set_self (by rw [h.1]; exact hn)]
    exact ⟨ho, hr⟩
  · rw [List.getElem?_set_ne (fun e => hin e.symm)]
    exact h.2 i (by omega)
theorem idx_fourC (x0 y0 x1 y1 x2 y2 x3 y3 : Nat) : ∀ j : Nat, j < 4 → ∀ w : World, (Instr.index 95 (.agg #[.complex .f32 x0 y0, .complex .f32 x1 y1, .complex .f32 x2 y2, .complex .f32 x3 y3]) (.int .i64 (j : Int))).run Tryz.prog w = .ok (.complex .f32 (([x0, x1, x2, x3] : List Nat)[j]?.getD 0) (([y0, y1, y2, y3] : List Nat)[j]?.getD 0)) w
  | 0, _ => fun w => by kernel_rfl
  | 1, _ => fun w => by kernel_rfl
  | 2, _ => fun w => by kernel_rfl
  | 3, _ => fun w => by kernel_rfl
theorem list4N {L : List Nat} (h : L.length = 4) : ∃ a b c d, L = [a, b, c, d] := by
  match L, h with
  | [a, b, c, d], _ => exact ⟨a, b, c, d, rfl⟩
theorem num_lt32 {r : Nat} (h : ∃ x, floatBits .quo .f32 x 1082130432 = some r) : r < 2 ^ 32 := by
  obtain ⟨x, hx⟩ := h
  have h1 := floatBits_wf hx
  simpa [Lit.wf] using h1

theorem store_float4 (P : Program) (w : World) (a : Addr) (m : Mode) (k : FloatKind) (x : Nat) : (store a (.float k x) m).run P w = stored P w a (.float k x) m := run_store P w a _ m rfl
attribute [local go_sem] store_float4
set_option maxRecDepth 1000000 in
set_option maxHeartbeats 12800000 in
theorem unfour_any (x0 y0 x1 y1 x2 y2 x3 y3 : Nat) (ks ls : List Int) (HX : ∀ j, j < 4 → Smp (([x0, x1, x2, x3] : List Nat)[j]?.getD 0) (ks[j]?.getD 0) ∧ Smp (([y0, y1, y2, y3] : List Nat)[j]?.getD 0) (ls[j]?.getD 0) ∧ (ks[j]?.getD 0).natAbs ≤ 65536 ∧ (ls[j]?.getD 0).natAbs ≤ 65536)
    (hE : ∀ (w1 : World) (b : Nat), b < w1.heap.size → w1.heap[b]? = some (.cells #[.complex .f32 x0 y0, .complex .f32 x1 y1, .complex .f32 x2 y2, .complex .f32 x3 y3] 95 (0, 0)) → Calls Tryz.prog 157 #[.slice (some ⟨b, 0, none⟩) 4 4, .func (.func 158) #[] #[]] w1 fun e w' =>
      e = .returned (.slice (some ⟨w1.heap.size, 0, none⟩) 4 4) ∧ (∀ j, j < 4 → w'.cell? ⟨w1.heap.size, 0 + j, none⟩ = some (.int .i64 0)) ∧ Below w1.heap.size w1 w') (w : World) :
    Calls Tryz.prog 69 #[.agg #[.complex .f32 x0 y0, .complex .f32 x1 y1, .complex .f32 x2 y2, .complex .f32 x3 y3]] w (UnfourPost ks ls w) := by
  obtain ⟨W0, hW0⟩ : ∃ W0, (w.alloc (.cells #[.complex .f32 x0 y0, .complex .f32 x1 y1, .complex .f32 x2 y2, .complex .f32 x3 y3] 95)).alloc (.cells #[.float .f32 0, .float .f32 0, .float .f32 0, .float .f32 0] 92) = W0 := ⟨_, rfl⟩
  have hB0 : Below w.heap.size w W0 := by rw [← hW0]; exact ((Below.refl _ w).alloc (Nat.le_refl _) _).alloc (by simp) _
  have hS0 : W0.heap.size = w.heap.size + 2 := by rw [← hW0]; simp
  have bX : W0.heap[w.heap.size]? = some (.cells #[.complex .f32 x0 y0, .complex .f32 x1 y1, .complex .f32 x2 y2, .complex .f32 x3 y3] 95 (0, 0)) := by
    rw [← hW0]; exact blk_alloc_other (blk_alloc_new _ _) _
  have bY : W0.heap[w.heap.size + 1]? = some (.cells #[.float .f32 0, .float .f32 0, .float .f32 0, .float .f32 0] 92 (0, 0)) := by
    rw [← hW0]; exact blk_alloc_new1 w _ _
  have K1 := Lib.hid (hE W0 w.heap.size (by omega) bX)
  have HB0 := Lib.hid hB0
  have HS0 := Lib.hid hS0
  have HX0 := Lib.hid bX
  have HY0 := Lib.hid bY
  have HXX := Lib.hid HX
  clear HX hE hB0 bX bY hS0
  go_enter Tryz.func69, Tryz.ntmps69
  go_upto_region 1 with fail
  try rw [hW0]
  clear hW0
  go_upto_region 4 with (first
    | (go_at_call 157; refine K1.out.mono ?_; rintro e w1 ⟨rfl, hz1, hb1⟩)
    | (go_at_call 109; refine (first_zeros _ 0 4 4 (by omega) _ hz1).mono ?_; rintro e w9 ⟨rfl, rfl⟩))
  have hs1 := hb1.size
  have HX1 : Hid (w1.heap[w.heap.size]? = _) := Lib.hid ((hb1.block _ (lt_of_blk HX0.out)).trans HX0.out)
  have HY1 : Hid (w1.heap[w.heap.size + 1]? = _) := Lib.hid ((hb1.block _ (lt_of_blk HY0.out)).trans HY0.out)
  have HB1 := Lib.hid (HB0.out.trans (hb1.mono (by have := HS0.out; omega)))
  have hl1 : w.heap.size + 2 ≤ w1.heap.size := by have := HS0.out; omega
  obtain ⟨W2, hW2⟩ : ∃ W2, w1.alloc (.cells #[.float .f32 0, .float .f32 0, .float .f32 0, .float .f32 0] 92) = W2 := ⟨_, rfl⟩
  have hP2 : W2.heap[w1.heap.size]? = some (.cells (([0, 0, 0, 0] : List Nat).map (Value.float .f32)).toArray 92 (0, 0)) := by rw [← hW2]; exact blk_alloc_new _ _
  have hB2 : Below w1.heap.size w1 W2 := by rw [← hW2]; exact (Below.refl _ _).alloc (Nat.le_refl _) _
  have HP2 := Lib.hid hP2
  have HB2 := Lib.hid hB2
  clear hz1 hb1 hP2 hB2
  go_upto_block 0 with fail
  clear hW2
  go_wp2_with fail
  go_loopw [17] (fun s17 wq => ∃ (n : Nat) (R : List Nat), n ≤ 4 ∧ s17 = .int .i64 n ∧ wq.heap[w1.heap.size]? = some (.cells (R.map (Value.float .f32)).toArray 92 (0, 0)) ∧ SampAt ks ls n R ∧ Below w1.heap.size w1 wq) (fun i _ => 4 - (intOf i).toNat)
  case atStart => exact ⟨0, [0, 0, 0, 0], by omega, rfl, HP2.out, ⟨rfl, fun i hi => by omega⟩, HB2.out⟩
  case round =>
    obtain ⟨n, R, hn, rfl, hrow, hsa, hbr⟩ := hrel
    have HROW := Lib.hid hrow
    have HSA := Lib.hid hsa
    have HBR := Lib.hid hbr
    by_cases hlt : n < 4
    · have hX := (hbr.block _ (lt_of_blk HX1.out)).trans HX1.out
      have g0 : wr.cell? ⟨w.heap.size, 0, none⟩ = some (.complex .f32 x0 y0) := by rw [cell_of_row _ _ 0 _ _ (0, 0) hX]; rfl
      have g1 : wr.cell? ⟨w.heap.size, 1, none⟩ = some (.complex .f32 x1 y1) := by rw [cell_of_row _ _ 1 _ _ (0, 0) hX]; rfl
      have g2 : wr.cell? ⟨w.heap.size, 2, none⟩ = some (.complex .f32 x2 y2) := by rw [cell_of_row _ _ 2 _ _ (0, 0) hX]; rfl
      have g3 : wr.cell? ⟨w.heap.size, 3, none⟩ = some (.complex .f32 x3 y3) := by rw [cell_of_row _ _ 3 _ _ (0, 0) hX]; rfl
      clear hrow hsa hbr hX
      have hd : decide ((n : Int) < 4) = true := decide_eq_true (by omega)
      go_wp2_with fail
      try simp only [hd]
      clear hd g0 g1 g2 g3
      go_loopw [7, 21] (fun s7 s21 wq => ∃ (k a b : Nat), k ≤ 4 ∧ s21 = .int .i64 k ∧ s7 = .complex .f32 a b ∧ Smp a (unR ks ls n k) ∧ Smp b (unI ks ls n k) ∧ wq.heap[w1.heap.size]? = some (.cells (R.map (Value.float .f32)).toArray 92 (0, 0)) ∧ Below w1.heap.size w1 wq) (fun _ i _ => 4 - (intOf i).toNat)
      case atStart => exact ⟨0, 0, 0, by omega, rfl, rfl, smp00, smp00, HROW.out, HBR.out⟩
      case round =>
        obtain ⟨k, a, b, hk, rfl, rfl, sa, sb, hrow, hbr⟩ := hrel
        by_cases hkl : k < 4
        · have hxj := HXX.out k hkl
          have hidx := idx_fourC x0 y0 x1 y1 x2 y2 x3 y3 k hkl
          obtain ⟨x, hx⟩ : ∃ x, ([x0, x1, x2, x3] : List Nat)[k]?.getD 0 = x := ⟨_, rfl⟩
          obtain ⟨y, hy⟩ : ∃ y, ([y0, y1, y2, y3] : List Nat)[k]?.getD 0 = y := ⟨_, rfl⟩
          rw [hx, hy] at hxj hidx
          have hp4 : 3 * k * n % 4 < 4 := Nat.mod_lt _ (by omega)
          obtain ⟨e1, e2, hmul, se1, se2⟩ := cmul_pow Tryz.prog 94 hxj.1 hxj.2.1 (by have := hxj.2.2.1; omega) (by have := hxj.2.2.2; omega) hp4
          have sm := un_small (fun q hq => (HXX.out q hq).2.2) n k (by omega)
          have q1 := mul_small hxj.2.2.1 (pow_small hp4).1
          have q2 := mul_small hxj.2.2.1 (pow_small hp4).2
          have q3 := mul_small hxj.2.2.2 (pow_small hp4).1
          have q4 := mul_small hxj.2.2.2 (pow_small hp4).2
          obtain ⟨a', b', hadd, sa', sb', -⟩ := cadd_smp Tryz.prog 94 sa sb se1 se2 (Nat.lt_of_le_of_lt (show _ ≤ 655360 by omega) (by decide)) (Nat.lt_of_le_of_lt (show _ ≤ 655360 by omega) (by decide))
          have hpw := powL_words hp4
          obtain ⟨c, hc⟩ : ∃ c, powWR (3 * k * n % 4) = c := ⟨_, rfl⟩
          obtain ⟨d, hd⟩ : ∃ d, powWI (3 * k * n % 4) = d := ⟨_, rfl⟩
          rw [hc, hd] at hpw hmul
          obtain ⟨m, hm⟩ : ∃ m : Nat, 3 * k * n = m := ⟨_, rfl⟩
          have hm27 : m ≤ 27 := by rw [← hm]; have := Nat.mul_le_mul (show 3 * k ≤ 9 by omega) (show n ≤ 3 by omega); omega
          have hmi : (3 : Int) * (k : Int) * (n : Int) = (m : Int) := by rw [← hm]; push_cast; rfl
          have hw3 : IntKind.i64.wrap ((3 : Int) * (k : Int)) = (3 : Int) * (k : Int) := IntWalk.i64_in _ ⟨by omega, by omega⟩
          have hwm : IntKind.i64.wrap (m : Int) = (m : Int) := IntWalk.i64_in _ ⟨by omega, by omega⟩
          rw [hm] at hpw
          have KP := Lib.hid (power_any m (m % 4) _ rfl hpw)
          have SA := Lib.hid sa'
          have SB := Lib.hid sb'
          have HR2 := Lib.hid hrow
          have HB2' := Lib.hid hbr
          have hl := lt_of_blk hrow
          clear hxj hp4 se1 se2 sm q1 q2 q3 q4 sa sb sa' sb' hc hd hx hy hpw hm hrow hbr
          go_wp2_with (go_at_call 156; with_reducible refine (KP.out _).mono ?_; rintro e w8 ⟨rfl, hb8⟩)
          go_roundw
          case rel => exact ⟨k + 1, a', b', by omega, by go_num, rfl, SA.out, SB.out, (hb8.block _ hl).trans HR2.out, HB2'.out.trans (hb8.mono (Nat.le_of_lt hl))⟩
          case measure => simp [intOf]; omega
        · obtain rfl : k = 4 := by omega
          have sm := un_small (fun q hq => (HXX.out q hq).2.2) n 4 (by omega)
          obtain ⟨r, hq, hqe, hqs⟩ := quo4_smp sa (Nat.lt_of_le_of_lt (show _ ≤ 524288 by omega) (by decide))
          have hquo := run_quo 23 hq
          have hr32 : r < 2 ^ 32 := num_lt32 ⟨_, hq⟩
          have hord : FloatKind.f32.format.order b 0 = some (compare (unI ks ls n 4) 0) := sb.order smp00
          have hR := HSA.out.1
          have hl := lt_of_blk hrow
          have hcell : wr.cell? ⟨w1.heap.size, n, none⟩ = some (.float .f32 (R[n]?.getD 0)) := by
            rw [cell_of_row _ _ n _ _ (0, 0) hrow]
            simp [List.getElem?_eq_getElem (show n < R.length by omega)]
          have hfz : wr.frozen? ⟨w1.heap.size, n, none⟩ = false := by simp [World.frozen?, hrow]
          have hrow3 : (wr.setCell ⟨w1.heap.size, n, none⟩ (.float .f32 r)).heap[w1.heap.size]? = some (.cells ((R.set n r).map (Value.float .f32)).toArray 92 (0, 0)) := by
            have h := blk_setL hrow (.float .f32 r) (k := n) (by rw [List.length_map]; omega)
            rwa [← List.map_set] at h
          have hc3 : (wr.setCell ⟨w1.heap.size, n, none⟩ (.float .f32 r)).cell? ⟨w1.heap.size, n, none⟩ = some (.float .f32 r) := by
            rw [cell_of_row _ _ n _ _ (0, 0) hrow3]
            show ((R.set n r).map (Value.float .f32)).toArray[n]? = _
            rw [List.getElem?_toArray, List.getElem?_map, List.getElem?_set_self (show n < R.length by omega)]
            rfl
          have hb3 : Below w1.heap.size w1 (wr.setCell ⟨w1.heap.size, n, none⟩ (.float .f32 r)) := hbr.setCell (p := ⟨w1.heap.size, n, none⟩) (Nat.le_refl _) _
          have hY := (hb3.block _ (lt_of_blk HY1.out)).trans HY1.out
          have y0 : (wr.setCell ⟨w1.heap.size, n, none⟩ (.float .f32 r)).cell? ⟨w.heap.size + 1, 0, none⟩ = some (.float .f32 0) := by rw [cell_of_row _ _ 0 _ _ (0, 0) hY]; rfl
          have y1 : (wr.setCell ⟨w1.heap.size, n, none⟩ (.float .f32 r)).cell? ⟨w.heap.size + 1, 1, none⟩ = some (.float .f32 0) := by rw [cell_of_row _ _ 1 _ _ (0, 0) hY]; rfl
          have y2 : (wr.setCell ⟨w1.heap.size, n, none⟩ (.float .f32 r)).cell? ⟨w.heap.size + 1, 2, none⟩ = some (.float .f32 0) := by rw [cell_of_row _ _ 2 _ _ (0, 0) hY]; rfl
          have y3 : (wr.setCell ⟨w1.heap.size, n, none⟩ (.float .f32 r)).cell? ⟨w.heap.size + 1, 3, none⟩ = some (.float .f32 0) := by rw [cell_of_row _ _ 3 _ _ (0, 0) hY]; rfl
          have yf0 : (wr.setCell ⟨w1.heap.size, n, none⟩ (.float .f32 r)).frozen? ⟨w.heap.size + 1, 0, none⟩ = false := by simp [World.frozen?, hY]
          have yf1 : (wr.setCell ⟨w1.heap.size, n, none⟩ (.float .f32 r)).frozen? ⟨w.heap.size + 1, 1, none⟩ = false := by simp [World.frozen?, hY]
          have yf2 : (wr.setCell ⟨w1.heap.size, n, none⟩ (.float .f32 r)).frozen? ⟨w.heap.size + 1, 2, none⟩ = false := by simp [World.frozen?, hY]
          have yf3 : (wr.setCell ⟨w1.heap.size, n, none⟩ (.float .f32 r)).frozen? ⟨w.heap.size + 1, 3, none⟩ = false := by simp [World.frozen?, hY]
          have HYY := Lib.hid hY
          have HR3 := Lib.hid hrow3
          have HB3 := Lib.hid hb3
          have HQE := Lib.hid hqe
          have HQS := Lib.hid hqs
          have hBB : Below w.heap.size w (wr.setCell ⟨w1.heap.size, n, none⟩ (.float .f32 r)) := HB1.out.trans (hb3.mono (by omega))
          have HBB := Lib.hid hBB
          clear sm sa sb hq hqe hqs hrow hbr hrow3 hb3 hY hBB
          by_cases hi0 : unI ks ls n 4 = 0
          · have ho : FloatKind.f32.format.order b 0 = some .eq := by rw [hord, hi0]; rfl
            clear hord
            by_cases hs : smpErr r = 0
            · have KC := Lib.hid (fun w1' => checkSample_all r hr32 w1')
              rw [hs] at KC
              have HOK : Hid (unOk ks ls n) := Lib.hid ⟨hi0, HQE.out.1 hs⟩
              clear hi0 hs y0 y1 y2 y3 yf0 yf1 yf2 yf3
              go_wp2_with (go_at_call 30; refine (KC.out _).mono ?_; rintro e w8 ⟨rfl, rfl | rfl⟩)
              · go_roundw
                case rel => exact ⟨n + 1, R.set n r, by omega, by go_num, HR3.out, HSA.out.step hlt HOK.out (HQS.out HOK.out.2.1), HB3.out⟩
                case measure => simp [intOf]; omega
              · go_roundw
                case rel => exact ⟨n + 1, R.set n r, by omega, by go_num, HR3.out, HSA.out.step hlt HOK.out (HQS.out HOK.out.2.1), HB3.out.drew⟩
                case measure => simp [intOf]; omega
            · have HNO : Hid (¬ unOk ks ls n) := Lib.hid fun h => hs (HQE.out.2 h.2)
              obtain ⟨er, her⟩ : ∃ er, smpErr r = er := ⟨_, rfl⟩
              have KC := Lib.hid (fun w1' => checkSample_all r hr32 w1')
              rw [her] at KC hs
              have hne : (er != 0) = true := by simp [hs]
              clear hi0 hs her
              go_wp2_with (go_at_call 30; refine (KC.out _).mono ?_; rintro e w8 ⟨rfl, rfl | rfl⟩)
              · skip
                (try simp only [Exit.inBlock, Exit.then])
                have hF := blk_set4u HYY.out (.float .f32 0) (.float .f32 0) (.float .f32 0) (.float .f32 0)
                refine bodyPost_ret (results_row_tmp rfl _ _ (w.heap.size + 1) 92 _ (0, 0) _ rfl hF Tryz.underlying92 rfl (by kernel_rfl)) rfl ?_
                exact unfour_bad hlt HNO.out ((((HBB.out.setCell (p := ⟨w.heap.size + 1, 0, none⟩) (by show w.heap.size ≤ w.heap.size + 1; omega) _).setCell (p := ⟨w.heap.size + 1, 1, none⟩) (by show w.heap.size ≤ w.heap.size + 1; omega) _).setCell (p := ⟨w.heap.size + 1, 2, none⟩) (by show w.heap.size ≤ w.heap.size + 1; omega) _).setCell (p := ⟨w.heap.size + 1, 3, none⟩) (by show w.heap.size ≤ w.heap.size + 1; omega) _)
              · skip
                (try simp only [Exit.inBlock, Exit.then])
                have hF := blk_set4u HYY.out (.float .f32 0) (.float .f32 0) (.float .f32 0) (.float .f32 0)
                refine bodyPost_ret (results_row_tmp rfl _ _ (w.heap.size + 1) 92 _ (0, 0) _ rfl hF Tryz.underlying92 rfl (by kernel_rfl)) rfl ?_
                exact unfour_bad hlt HNO.out ((((HBB.out.drew.setCell (p := ⟨w.heap.size + 1, 0, none⟩) (by show w.heap.size ≤ w.heap.size + 1; omega) _).setCell (p := ⟨w.heap.size + 1, 1, none⟩) (by show w.heap.size ≤ w.heap.size + 1; omega) _).setCell (p := ⟨w.heap.size + 1, 2, none⟩) (by show w.heap.size ≤ w.heap.size + 1; omega) _).setCell (p := ⟨w.heap.size + 1, 3, none⟩) (by show w.heap.size ≤ w.heap.size + 1; omega) _)
          · have HNO : Hid (¬ unOk ks ls n) := Lib.hid fun h => hi0 h.1
            rcases Int.lt_trichotomy (unI ks ls n 4) 0 with h | h | h
            · have ho : FloatKind.f32.format.order b 0 = some .lt := by rw [hord, cmp_lt_of h]
              clear hord hi0 h
              go_wp2_with fail
              (try simp only [Exit.inBlock, Exit.then])
              have hF := blk_set4u HYY.out (.float .f32 0) (.float .f32 0) (.float .f32 0) (.float .f32 0)
              refine bodyPost_ret (results_row_tmp rfl _ _ (w.heap.size + 1) 92 _ (0, 0) _ rfl hF Tryz.underlying92 rfl (by kernel_rfl)) rfl ?_
              exact unfour_bad hlt HNO.out ((((HBB.out.setCell (p := ⟨w.heap.size + 1, 0, none⟩) (by show w.heap.size ≤ w.heap.size + 1; omega) _).setCell (p := ⟨w.heap.size + 1, 1, none⟩) (by show w.heap.size ≤ w.heap.size + 1; omega) _).setCell (p := ⟨w.heap.size + 1, 2, none⟩) (by show w.heap.size ≤ w.heap.size + 1; omega) _).setCell (p := ⟨w.heap.size + 1, 3, none⟩) (by show w.heap.size ≤ w.heap.size + 1; omega) _)
            · exact absurd h hi0
            · have ho : FloatKind.f32.format.order b 0 = some .gt := by rw [hord, cmp_gt_of h]
              clear hord hi0 h
              go_wp2_with fail
              (try simp only [Exit.inBlock, Exit.then])
              have hF := blk_set4u HYY.out (.float .f32 0) (.float .f32 0) (.float .f32 0) (.float .f32 0)
              refine bodyPost_ret (results_row_tmp rfl _ _ (w.heap.size + 1) 92 _ (0, 0) _ rfl hF Tryz.underlying92 rfl (by kernel_rfl)) rfl ?_
              exact unfour_bad hlt HNO.out ((((HBB.out.setCell (p := ⟨w.heap.size + 1, 0, none⟩) (by show w.heap.size ≤ w.heap.size + 1; omega) _).setCell (p := ⟨w.heap.size + 1, 1, none⟩) (by show w.heap.size ≤ w.heap.size + 1; omega) _).setCell (p := ⟨w.heap.size + 1, 2, none⟩) (by show w.heap.size ≤ w.heap.size + 1; omega) _).setCell (p := ⟨w.heap.size + 1, 3, none⟩) (by show w.heap.size ≤ w.heap.size + 1; omega) _)
    · obtain rfl : n = 4 := by omega
      obtain ⟨r0, r1, r2, r3, rfl⟩ := list4N hsa.1
      have p0 : wr.cell? ⟨w1.heap.size, 0, none⟩ = some (.float .f32 r0) := by rw [cell_of_row _ _ 0 _ _ (0, 0) hrow]; rfl
      have p1 : wr.cell? ⟨w1.heap.size, 1, none⟩ = some (.float .f32 r1) := by rw [cell_of_row _ _ 1 _ _ (0, 0) hrow]; rfl
      have p2 : wr.cell? ⟨w1.heap.size, 2, none⟩ = some (.float .f32 r2) := by rw [cell_of_row _ _ 2 _ _ (0, 0) hrow]; rfl
      have p3 : wr.cell? ⟨w1.heap.size, 3, none⟩ = some (.float .f32 r3) := by rw [cell_of_row _ _ 3 _ _ (0, 0) hrow]; rfl
      have hY := (hbr.block _ (lt_of_blk HY1.out)).trans HY1.out
      have y0 : wr.cell? ⟨w.heap.size + 1, 0, none⟩ = some (.float .f32 0) := by rw [cell_of_row _ _ 0 _ _ (0, 0) hY]; rfl
      have y1 : wr.cell? ⟨w.heap.size + 1, 1, none⟩ = some (.float .f32 0) := by rw [cell_of_row _ _ 1 _ _ (0, 0) hY]; rfl
      have y2 : wr.cell? ⟨w.heap.size + 1, 2, none⟩ = some (.float .f32 0) := by rw [cell_of_row _ _ 2 _ _ (0, 0) hY]; rfl
      have y3 : wr.cell? ⟨w.heap.size + 1, 3, none⟩ = some (.float .f32 0) := by rw [cell_of_row _ _ 3 _ _ (0, 0) hY]; rfl
      have yf0 : wr.frozen? ⟨w.heap.size + 1, 0, none⟩ = false := by simp [World.frozen?, hY]
      have yf1 : wr.frozen? ⟨w.heap.size + 1, 1, none⟩ = false := by simp [World.frozen?, hY]
      have yf2 : wr.frozen? ⟨w.heap.size + 1, 2, none⟩ = false := by simp [World.frozen?, hY]
      have yf3 : wr.frozen? ⟨w.heap.size + 1, 3, none⟩ = false := by simp [World.frozen?, hY]
      have HYY := Lib.hid hY
      have HBB := Lib.hid (HB1.out.trans (hbr.mono (by omega)))
      clear hrow hsa hbr hY
      go_wp2_with fail
      (try simp only [Exit.inBlock, Exit.then])
      have hF := blk_set4u HYY.out (.float .f32 r0) (.float .f32 r1) (.float .f32 r2) (.float .f32 r3)
      refine bodyPost_ret (results_row_tmp rfl _ _ (w.heap.size + 1) 92 _ (0, 0) _ rfl hF Tryz.underlying92 rfl (by kernel_rfl)) rfl ?_
      exact unfour_good (fun i hi => (HSA.out.2 i hi).1) (fun i hi => (HSA.out.2 i hi).2) ((((HBB.out.setCell (p := ⟨w.heap.size + 1, 0, none⟩) (by show w.heap.size ≤ w.heap.size + 1; omega) _).setCell (p := ⟨w.heap.size + 1, 1, none⟩) (by show w.heap.size ≤ w.heap.size + 1; omega) _).setCell (p := ⟨w.heap.size + 1, 2, none⟩) (by show w.heap.size ≤ w.heap.size + 1; omega) _).setCell (p := ⟨w.heap.size + 1, 3, none⟩) (by show w.heap.size ≤ w.heap.size + 1; omega) _)
end Go.Proofs.YtfdkmmllemkogaaGreatDoor
