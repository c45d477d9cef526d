/-
  The reference's Unfour of a panel of right numbers.
-/
import Derived.Test.YtfdkmmllemkogaaGreatDoorOPk
namespace Go.Proofs.YtfdkmmllemkogaaGreatDoor
open Go.RowKit
set_option linter.unusedVariables false
set_option linter.unusedSimpArgs false

/-- What the reference's Unfour answers for a panel of right numbers. -/
def RefUnfourPost (ks ls : List Int) (w : World) (e : Ending) (w' : World) : Prop := Below w.heap.size w w' ∧
  (((∀ i, i < 4 → unOk ks ls i) ∧ e = .returned (.tuple #[.agg #[.float .f32 (smpOf (unR ks ls 0 4 / 4)), .float .f32 (smpOf (unR ks ls 1 4 / 4)), .float .f32 (smpOf (unR ks ls 2 4 / 4)), .float .f32 (smpOf (unR ks ls 3 4 / 4))], .int .i64 0])) ∨
   ((¬ ∀ i, i < 4 → unOk ks ls i) ∧ e = .returned (.tuple #[.agg #[.float .f32 0, .float .f32 0, .float .f32 0, .float .f32 0], .int .i64 1])))
theorem refUnfour_bad {ks ls : List Int} {w w' : World} {n : Nat} (hn : n < 4) (h : ¬ unOk ks ls n) (hb : Below w.heap.size w w') : RefUnfourPost ks ls w (.returned (.tuple #[.agg #[.float .f32 0, .float .f32 0, .float .f32 0, .float .f32 0], .int .i64 1])) w' :=
  ⟨hb, .inr ⟨fun hh => h (hh n hn), rfl⟩⟩
/-- The samples that are made so far. -/
def RefSamp (ks ls : List Int) (n : Nat) (R : List Nat) : Prop := R.length = 4 ∧ ∀ i, i < n → unOk ks ls i ∧ R[i]?.getD 0 = smpOf (unR ks ls i 4 / 4)
theorem RefSamp.step {ks ls : List Int} {n : Nat} {R : List Nat} (h : RefSamp ks ls n R) (hn : n < 4) (ho : unOk ks ls n) : RefSamp ks ls (n + 1) (R.set n (smpOf (unR ks ls n 4 / 4))) := by
  refine ⟨by rw [List.length_set]; exact h.1, fun i hi => ?_⟩
  by_cases hin : i = n
  · subst hin
    rw [List.getElem?_set_self (by rw [h.1]; exact hn)]
    exact ⟨ho, rfl⟩
  · rw [List.getElem?_set_ne (fun e => hin e.symm)]
    exact h.2 i (by omega)

attribute [local go_sem] store_float4
set_option maxRecDepth 1000000 in
set_option maxHeartbeats 25600000 in
theorem refUnfour_any (x0 y0 x1 y1 x2 y2 x3 y3 : Nat) (ks ls : List Int) (HX : ∀ j, j < 4 → Smp (([x0, x1, x2, x3] : List Nat)[j]?.getD 0) (ks[j]?.getD 0) ∧ Smp (([y0, y1, y2, y3] : List Nat)[j]?.getD 0) (ls[j]?.getD 0) ∧ (ks[j]?.getD 0).natAbs ≤ 65536 ∧ (ls[j]?.getD 0).natAbs ≤ 65536) (w : World) :
    Calls Tryz.prog 73 #[.agg #[.complex .f32 x0 y0, .complex .f32 x1 y1, .complex .f32 x2 y2, .complex .f32 x3 y3]] w (RefUnfourPost ks ls w) := by
  obtain ⟨W0, hW0⟩ : ∃ W0, ((w.alloc (.cells #[.complex .f32 x0 y0, .complex .f32 x1 y1, .complex .f32 x2 y2, .complex .f32 x3 y3] 95)).alloc (.cells #[.float .f32 0, .float .f32 0, .float .f32 0, .float .f32 0] 92)).alloc (.cells #[.float .f32 0, .float .f32 0, .float .f32 0, .float .f32 0] 92) = W0 := ⟨_, rfl⟩
  have hB0 : Below w.heap.size w W0 := by rw [← hW0]; exact (((Below.refl _ w).alloc (Nat.le_refl _) _).alloc (by simp) _).alloc (by simp; omega) _
  have bX : W0.heap[w.heap.size]? = some (.cells #[.complex .f32 x0 y0, .complex .f32 x1 y1, .complex .f32 x2 y2, .complex .f32 x3 y3] 95 (0, 0)) := by rw [← hW0]; exact blk_alloc_other (blk_alloc_other (blk_alloc_new _ _) _) _
  have bY : W0.heap[w.heap.size + 1]? = some (.cells #[.float .f32 0, .float .f32 0, .float .f32 0, .float .f32 0] 92 (0, 0)) := by rw [← hW0]; exact blk_alloc_other (blk_alloc_new1 w _ _) _
  have bO : W0.heap[w.heap.size + 2]? = some (.cells (([0, 0, 0, 0] : List Nat).map (Value.float .f32)).toArray 92 (0, 0)) := by rw [← hW0]; exact blk_alloc_at _ _ (by simp)
  have HB0 := Lib.hid hB0
  have HX0 := Lib.hid bX
  have HY0 := Lib.hid bY
  have HO0 := Lib.hid bO
  have HXX := Lib.hid HX
  clear HX hB0 bX bY bO
  go_enter Tryz.func73, Tryz.ntmps73
  go_upto_region 2 with fail
  try rw [hW0]
  clear hW0
  go_wp2_with fail
  go_loopw [5] (fun s5 wq => ∃ (n : Nat) (R : List Nat), n ≤ 4 ∧ s5 = .int .i64 n ∧ wq.heap[w.heap.size]? = some (.cells #[.complex .f32 x0 y0, .complex .f32 x1 y1, .complex .f32 x2 y2, .complex .f32 x3 y3] 95 (0, 0)) ∧ wq.heap[w.heap.size + 1]? = some (.cells #[.float .f32 0, .float .f32 0, .float .f32 0, .float .f32 0] 92 (0, 0)) ∧ wq.heap[w.heap.size + 2]? = some (.cells (R.map (Value.float .f32)).toArray 92 (0, 0)) ∧ RefSamp ks ls n R ∧ Below w.heap.size w wq) (fun i _ => 4 - (intOf i).toNat)
  case atStart => exact ⟨0, [0, 0, 0, 0], by omega, rfl, HX0.out, HY0.out, HO0.out, ⟨rfl, fun i hi => by omega⟩, HB0.out⟩
  case round =>
    obtain ⟨n, R, hn, rfl, hx, hy, ho, hpl, hbr⟩ := hrel
    have HPL := Lib.hid hpl
    have HBR := Lib.hid hbr
    have HX1 := Lib.hid hx
    have HY1 := Lib.hid hy
    have HO1 := Lib.hid ho
    by_cases hlt : n < 4
    · have hltI : (n : Int) < 4 := by omega
      have hlo := lt_of_blk ho
      clear hx hy ho hpl hbr
      go_upto_region 6 with fail
      obtain ⟨W5, hW5⟩ : ∃ W5, wr.alloc (.cells #[.int .i64 0, .int .i64 0] 159) = W5 := ⟨_, rfl⟩
      obtain ⟨B6, hB6⟩ : ∃ B6, wr.heap.size = B6 := ⟨_, rfl⟩
      have c5 : W5.heap[B6]? = some (.cells #[.int .i64 (unR ks ls n 0), .int .i64 (unI ks ls n 0)] 159 (0, 0)) := by rw [← hW5, ← hB6]; exact blk_alloc_new _ _
      have x5 : W5.heap[w.heap.size]? = some (.cells #[.complex .f32 x0 y0, .complex .f32 x1 y1, .complex .f32 x2 y2, .complex .f32 x3 y3] 95 (0, 0)) := by rw [← hW5]; exact blk_alloc_other HX1.out _
      have y5 : W5.heap[w.heap.size + 1]? = some (.cells #[.float .f32 0, .float .f32 0, .float .f32 0, .float .f32 0] 92 (0, 0)) := by rw [← hW5]; exact blk_alloc_other HY1.out _
      have o5 : W5.heap[w.heap.size + 2]? = some (.cells (R.map (Value.float .f32)).toArray 92 (0, 0)) := by rw [← hW5]; exact blk_alloc_other HO1.out _
      have b5 : Below w.heap.size w W5 := by rw [← hW5]; exact HBR.out.alloc HBR.out.size _
      rw [hB6] at hlo
      rw [hB6, hW5]
      have C5 := Lib.hid c5
      have X5 := Lib.hid x5
      have Y5 := Lib.hid y5
      have O5 := Lib.hid o5
      have D5 := Lib.hid b5
      clear hW5 hB6 c5 x5 y5 o5 b5 HX1 HY1 HO1 HBR
      go_wp2_with fail
      go_loopw [7] (fun s7 wq => ∃ k : Nat, k ≤ 4 ∧ s7 = .int .i64 k ∧ wq.heap[B6]? = some (.cells #[.int .i64 (unR ks ls n k), .int .i64 (unI ks ls n k)] 159 (0, 0)) ∧ wq.heap[w.heap.size]? = some (.cells #[.complex .f32 x0 y0, .complex .f32 x1 y1, .complex .f32 x2 y2, .complex .f32 x3 y3] 95 (0, 0)) ∧ wq.heap[w.heap.size + 1]? = some (.cells #[.float .f32 0, .float .f32 0, .float .f32 0, .float .f32 0] 92 (0, 0)) ∧
          wq.heap[w.heap.size + 2]? = some (.cells (R.map (Value.float .f32)).toArray 92 (0, 0)) ∧ Below w.heap.size w wq) (fun i _ => 4 - (intOf i).toNat)
      case atStart => exact ⟨0, by omega, rfl, C5.out, X5.out, Y5.out, O5.out, D5.out⟩
      case round =>
        obtain ⟨k, hk, rfl, hc, hx, hy, ho, hbr⟩ := hrel
        have HC := Lib.hid hc
        have HX2 := Lib.hid hx
        have HY2 := Lib.hid hy
        have HO2 := Lib.hid ho
        have HBR := Lib.hid hbr
        by_cases hlk : k < 4
        · have hlkI : (k : Int) < 4 := by omega
          have hxj := HXX.out k hlk
          obtain ⟨x, hxv⟩ : ∃ x, ([x0, x1, x2, x3] : List Nat)[k]?.getD 0 = x := ⟨_, rfl⟩
          obtain ⟨y, hyv⟩ : ∃ y, ([y0, y1, y2, y3] : List Nat)[k]?.getD 0 = y := ⟨_, rfl⟩
          have gx : wr.cell? ⟨w.heap.size, k, none⟩ = some (.complex .f32 x y) := by
            rw [cell_of_row _ _ k _ _ (0, 0) hx, ← hxv, ← hyv]
            match k, hlk with
            | 0, _ => rfl
            | 1, _ => rfl
            | 2, _ => rfl
            | 3, _ => rfl
          rw [hxv, hyv] at hxj
          obtain ⟨kj, hkj⟩ : ∃ kj, ks[k]?.getD 0 = kj := ⟨_, rfl⟩
          obtain ⟨lj, hlj⟩ : ∃ lj, ls[k]?.getD 0 = lj := ⟨_, rfl⟩
          rw [hkj, hlj] at hxj
          have lx := lt_of_blk hx
          have K6 : Hid (∀ w1 : World, Calls Tryz.prog 99 #[.float .f32 x] w1 fun e w' => e = .returned (.int .i64 kj) ∧ w1 = w') := Lib.hid fun w1 => sixteenths_any x kj hxj.1 (Nat.lt_of_le_of_lt hxj.2.2.1 (by decide)) w1
          have K7 : Hid (∀ w1 : World, Calls Tryz.prog 99 #[.float .f32 y] w1 fun e w' => e = .returned (.int .i64 lj) ∧ w1 = w') := Lib.hid fun w1 => sixteenths_any y lj hxj.2.1 (Nat.lt_of_le_of_lt hxj.2.2.2 (by decide)) w1
          have HXJ := Lib.hid hxj
          have HKJ := Lib.hid (And.intro hkj hlj)
          clear hxv hyv hxj hkj hlj hc hx hy ho hbr
          go_upto_region 9 with fail
          go_cut [8] (fun s8 wq => s8 = .pointer (some ⟨wr.heap.size, 0, none⟩) ∧ wq.heap[wr.heap.size]? = some (.cells #[.int .i64 kj, .int .i64 lj] 159 (0, 0)) ∧ Below wr.heap.size wr wq)
          case first =>
            have hqq : w.heap.size ≠ wr.heap.size := by omega
            go_region_held3 (fun w' => w'.cell? ⟨w.heap.size, k, none⟩ = some (.complex .f32 x y))
              (first | (go_keep; done) | (with_reducible assumption) | (simp [go_sem, *]; done))
              (first
                | (go_at_call_of 99 (Value.float .f32 x); refine (K6.out _).mono ?_; rintro e w6 ⟨rfl, rfl⟩)
                | (go_at_call_of 99 (Value.float .f32 y); refine (K7.out _).mono ?_; rintro e w7 ⟨rfl, rfl⟩))
            all_goals go_wp2_with fail
            all_goals go_meet
            all_goals first
              | exact ⟨rfl, blk_alloc_new _ _, ((Below.refl wr.heap.size wr).drew).alloc (Nat.le_refl _) _⟩
              | exact ⟨rfl, blk_drew (blk_alloc_new _ _), ((Below.refl wr.heap.size wr).alloc (Nat.le_refl _) _).drew⟩
              | exact ⟨rfl, blk_set2 (blk_alloc_new _ _) _ _, ((((Below.refl wr.heap.size wr).alloc (Nat.le_refl _) _).drew).setCell (p := ⟨wr.heap.size, 0, none⟩) (Nat.le_refl _) _).setCell (p := ⟨wr.heap.size, 1, none⟩) (Nat.le_refl _) _⟩
          case rest =>
            rename_i hKK
            obtain ⟨rfl, hz8, hb8⟩ := hcut
            refine hKK _ _ ?_
            clear hKK
            obtain ⟨B8, hB8⟩ : ∃ B8, wr.heap.size = B8 := ⟨_, rfl⟩
            have hlc : B6 < wr.heap.size := lt_of_blk HC.out
            have hc := (hb8.block _ hlc).trans HC.out
            have hx := (hb8.block _ (lt_of_blk HX2.out)).trans HX2.out
            have hy := (hb8.block _ (lt_of_blk HY2.out)).trans HY2.out
            have ho := (hb8.block _ (lt_of_blk HO2.out)).trans HO2.out
            have hbr := HBR.out.trans (hb8.mono HBR.out.size)
            rw [hB8] at hz8 hlc
            have hne6 : B6 ≠ B8 := by omega
            obtain ⟨c0, c1⟩ := cells2g hc
            obtain ⟨z0, z1⟩ := cells2g hz8
            have f0 : wc.frozen? ⟨B6, 0, none⟩ = false := by simp [World.frozen?, hc]
            have f1 : wc.frozen? ⟨B6, 1, none⟩ = false := by simp [World.frozen?, hc]
            have lc := lt_of_blk hc
            have lz := lt_of_blk hz8
            obtain ⟨q, hq⟩ : ∃ q : Nat, k * n = q := ⟨_, rfl⟩
            have hq9 : q ≤ 9 := by rw [← hq]; have := Nat.mul_le_mul (show k ≤ 3 by omega) (show n ≤ 3 by omega); omega
            have hqi : (k : Int) * (n : Int) = (q : Int) := by rw [← hq]; push_cast; rfl
            have hwq : IntKind.i64.wrap (q : Int) = (q : Int) := IntWalk.i64_in _ ⟨by omega, by omega⟩
            have ep := pow_three' (k * n)
            rw [← Nat.mul_assoc] at ep
            have hp4 : 3 * k * n % 4 < 4 := Nat.mod_lt _ (by omega)
            have ps := pow_small hp4
            have sm := un_small (fun j hj => (HXX.out j hj).2.2) n k (by omega)
            obtain ⟨pr, hpr⟩ : ∃ pr, powRe (3 * k * n % 4) = pr := ⟨_, rfl⟩
            obtain ⟨pi, hpi⟩ : ∃ pi, powIm (3 * k * n % 4) = pi := ⟨_, rfl⟩
            rw [hpr, hpi, hq] at ep
            rw [hpr, hpi] at ps
            have q1 := mul_small HXJ.out.2.2.1 ps.1
            have q2 := mul_small HXJ.out.2.2.1 ps.2
            have q3 := mul_small HXJ.out.2.2.2 ps.1
            have q4 := mul_small HXJ.out.2.2.2 ps.2
            have ea : unR ks ls n (k + 1) = unR ks ls n k + (kj * pr - lj * pi) := by
              show unR ks ls n k + (ks[k]?.getD 0 * powRe (3 * k * n % 4) - ls[k]?.getD 0 * powIm (3 * k * n % 4)) = _
              rw [HKJ.out.1, HKJ.out.2, hpr, hpi]
            have eb : unI ks ls n (k + 1) = unI ks ls n k + (kj * pi + lj * pr) := by
              show unI ks ls n k + (ks[k]?.getD 0 * powIm (3 * k * n % 4) + ls[k]?.getD 0 * powRe (3 * k * n % 4)) = _
              rw [HKJ.out.1, HKJ.out.2, hpr, hpi]
            obtain ⟨ar, har⟩ : ∃ ar, unR ks ls n k = ar := ⟨_, rfl⟩
            obtain ⟨ai, hai⟩ : ∃ ai, unI ks ls n k = ai := ⟨_, rfl⟩
            rw [har] at ea c0 sm
            rw [hai] at eb c1 sm
            have KP : Hid (∀ w1 : World, Blw wc.heap.size wc w1 → Calls Tryz.prog 155 #[.int .i64 q] w1 fun e w' => e = .returned (.agg #[.int .i64 pr, .int .i64 pi]) ∧ Blw wc.heap.size wc w') := Lib.hid fun w1 h => by
              have k1 := gPower_any q w1
              rw [ep.1, ep.2] at k1
              exact k1.mono fun e w' ⟨h1, h2⟩ => ⟨h1, Below.trans h (h2.mono (Below.size h))⟩
            have KM : Hid (∀ w1 : World, Blw wc.heap.size wc w1 → Calls Tryz.prog 160 #[.agg #[.int .i64 kj, .int .i64 lj], .agg #[.int .i64 pr, .int .i64 pi]] w1 fun e w' => e = .returned (.agg #[.int .i64 (kj * pr - lj * pi), .int .i64 (kj * pi + lj * pr)]) ∧ Blw wc.heap.size wc w') := Lib.hid fun w1 h =>
              (gTimes_any kj lj pr pi (far_small (by omega)) (far_small (by omega)) (far_small (by omega)) (far_small (by omega)) w1).mono fun e w' ⟨h1, h2⟩ => ⟨h1, Below.trans h (h2.mono (Below.size h))⟩
            obtain ⟨tr, htr⟩ : ∃ tr, kj * pr - lj * pi = tr := ⟨_, rfl⟩
            obtain ⟨ti, hti⟩ : ∃ ti, kj * pi + lj * pr = ti := ⟨_, rfl⟩
            have ft : tr.natAbs ≤ 131072 := by rw [← htr]; omega
            have fi : ti.natAbs ≤ 131072 := by rw [← hti]; omega
            rw [htr, hti] at KM
            rw [htr] at ea
            rw [hti] at eb
            have KL : Hid (∀ w1 : World, Blw wc.heap.size wc w1 → Calls Tryz.prog 159 #[.agg #[.int .i64 ar, .int .i64 ai], .agg #[.int .i64 tr, .int .i64 ti]] w1 fun e w' => e = .returned (.agg #[.int .i64 (ar + tr), .int .i64 (ai + ti)]) ∧ Blw wc.heap.size wc w') := Lib.hid fun w1 h =>
              (gPlus_any ar ai tr ti (far_small (by omega)) (far_small (by omega)) (far_small (by omega)) (far_small (by omega)) w1).mono fun e w' ⟨h1, h2⟩ => ⟨h1, Below.trans h (h2.mono (Below.size h))⟩
            have EA := Lib.hid ea
            have EB := Lib.hid eb
            have hB : Blw wc.heap.size wc wc := show Below _ _ _ from Below.refl _ _
            have hB' : Blw wc.heap.size wc wc.drew := show Below _ _ _ from (Below.refl wc.heap.size wc).drew
            have HCC := Lib.hid hc
            have HXC := Lib.hid hx
            have HYC := Lib.hid hy
            have HOC := Lib.hid ho
            have HBC := Lib.hid hbr
            rw [hB8]
            clear K6 K7 HXJ HKJ hb8 hz8 hlc hc hx hy ho hbr hq ep hp4 ps sm hpr hpi q1 q2 q3 q4 ea eb har hai htr hti ft fi hB8 HC HX2 HY2 HO2 HBR gx
            go_upto_region 10 with fail
            have d0 : wc.drew.cell? ⟨B6, 0, none⟩ = some (.int .i64 ar) := c0
            have d1 : wc.drew.cell? ⟨B6, 1, none⟩ = some (.int .i64 ai) := c1
            have d2 : wc.drew.frozen? ⟨B6, 0, none⟩ = false := f0
            have d3 : wc.drew.frozen? ⟨B6, 1, none⟩ = false := f1
            have d4 : wc.drew.cell? ⟨B8, 0, none⟩ = some (.int .i64 kj) := z0
            have d5 : wc.drew.cell? ⟨B8, 1, none⟩ = some (.int .i64 lj) := z1
            go_region_with (first
              | (go_at_call 155; refine (KP.out _ ?_).mono ?_; focus assumption
                 rintro e w7 ⟨rfl, hb7⟩; (have u0w7 : w7.cell? ⟨B6, 0, none⟩ = some (.int .i64 ar) := by rw [Below.cell (w := wc) (hb7 : Blw wc.heap.size wc w7) lc]; assumption); (have u1w7 : w7.cell? ⟨B6, 1, none⟩ = some (.int .i64 ai) := by rw [Below.cell (w := wc) (hb7 : Blw wc.heap.size wc w7) lc]; assumption); (have u2w7 : w7.frozen? ⟨B6, 0, none⟩ = false := by rw [Below.frozen (w := wc) (hb7 : Blw wc.heap.size wc w7) lc]; assumption); (have u3w7 : w7.frozen? ⟨B6, 1, none⟩ = false := by rw [Below.frozen (w := wc) (hb7 : Blw wc.heap.size wc w7) lc]; assumption); (have u4w7 : w7.cell? ⟨B8, 0, none⟩ = some (.int .i64 kj) := by rw [Below.cell (w := wc) (hb7 : Blw wc.heap.size wc w7) lz]; assumption); (have u5w7 : w7.cell? ⟨B8, 1, none⟩ = some (.int .i64 lj) := by rw [Below.cell (w := wc) (hb7 : Blw wc.heap.size wc w7) lz]; assumption))
              | (go_at_call 160; refine (KM.out _ ?_).mono ?_; focus assumption
                 rintro e w8 ⟨rfl, hb8⟩; (have u0w8 : w8.cell? ⟨B6, 0, none⟩ = some (.int .i64 ar) := by rw [Below.cell (w := wc) (hb8 : Blw wc.heap.size wc w8) lc]; assumption); (have u1w8 : w8.cell? ⟨B6, 1, none⟩ = some (.int .i64 ai) := by rw [Below.cell (w := wc) (hb8 : Blw wc.heap.size wc w8) lc]; assumption); (have u2w8 : w8.frozen? ⟨B6, 0, none⟩ = false := by rw [Below.frozen (w := wc) (hb8 : Blw wc.heap.size wc w8) lc]; assumption); (have u3w8 : w8.frozen? ⟨B6, 1, none⟩ = false := by rw [Below.frozen (w := wc) (hb8 : Blw wc.heap.size wc w8) lc]; assumption); (have u4w8 : w8.cell? ⟨B8, 0, none⟩ = some (.int .i64 kj) := by rw [Below.cell (w := wc) (hb8 : Blw wc.heap.size wc w8) lz]; assumption); (have u5w8 : w8.cell? ⟨B8, 1, none⟩ = some (.int .i64 lj) := by rw [Below.cell (w := wc) (hb8 : Blw wc.heap.size wc w8) lz]; assumption))
              | (go_at_call 159; refine (KL.out _ ?_).mono ?_; focus assumption
                 rintro e w9 ⟨rfl, hb9⟩; (have u0w9 : w9.cell? ⟨B6, 0, none⟩ = some (.int .i64 ar) := by rw [Below.cell (w := wc) (hb9 : Blw wc.heap.size wc w9) lc]; assumption); (have u1w9 : w9.cell? ⟨B6, 1, none⟩ = some (.int .i64 ai) := by rw [Below.cell (w := wc) (hb9 : Blw wc.heap.size wc w9) lc]; assumption); (have u2w9 : w9.frozen? ⟨B6, 0, none⟩ = false := by rw [Below.frozen (w := wc) (hb9 : Blw wc.heap.size wc w9) lc]; assumption); (have u3w9 : w9.frozen? ⟨B6, 1, none⟩ = false := by rw [Below.frozen (w := wc) (hb9 : Blw wc.heap.size wc w9) lc]; assumption); (have u4w9 : w9.cell? ⟨B8, 0, none⟩ = some (.int .i64 kj) := by rw [Below.cell (w := wc) (hb9 : Blw wc.heap.size wc w9) lz]; assumption); (have u5w9 : w9.cell? ⟨B8, 1, none⟩ = some (.int .i64 lj) := by rw [Below.cell (w := wc) (hb9 : Blw wc.heap.size wc w9) lz]; assumption)))
            all_goals
              have c9 : ((w9.setCell ⟨B6, 0, none⟩ (.int .i64 (ar + tr))).setCell ⟨B6, 1, none⟩ (.int .i64 (ai + ti))).heap[B6]? = some (.cells #[.int .i64 (unR ks ls n (k + 1)), .int .i64 (unI ks ls n (k + 1))] 159 (0, 0)) := by
                rw [EA.out, EB.out]
                exact blk_set2 ((Below.block hb9 _ lc).trans HCC.out) _ _
              have x9 : ((w9.setCell ⟨B6, 0, none⟩ (.int .i64 (ar + tr))).setCell ⟨B6, 1, none⟩ (.int .i64 (ai + ti))).heap[w.heap.size]? = some (.cells #[.complex .f32 x0 y0, .complex .f32 x1 y1, .complex .f32 x2 y2, .complex .f32 x3 y3] 95 (0, 0)) := by
                rw [Below.heap_setCell _ _ _ _ (by show w.heap.size ≠ B6; omega), Below.heap_setCell _ _ _ _ (by show w.heap.size ≠ B6; omega)]
                exact (Below.block hb9 _ (lt_of_blk HXC.out)).trans HXC.out
              have y9 : ((w9.setCell ⟨B6, 0, none⟩ (.int .i64 (ar + tr))).setCell ⟨B6, 1, none⟩ (.int .i64 (ai + ti))).heap[w.heap.size + 1]? = some (.cells #[.float .f32 0, .float .f32 0, .float .f32 0, .float .f32 0] 92 (0, 0)) := by
                rw [Below.heap_setCell _ _ _ _ (by show w.heap.size + 1 ≠ B6; omega), Below.heap_setCell _ _ _ _ (by show w.heap.size + 1 ≠ B6; omega)]
                exact (Below.block hb9 _ (lt_of_blk HYC.out)).trans HYC.out
              have o9 : ((w9.setCell ⟨B6, 0, none⟩ (.int .i64 (ar + tr))).setCell ⟨B6, 1, none⟩ (.int .i64 (ai + ti))).heap[w.heap.size + 2]? = some (.cells (R.map (Value.float .f32)).toArray 92 (0, 0)) := by
                rw [Below.heap_setCell _ _ _ _ (by show w.heap.size + 2 ≠ B6; omega), Below.heap_setCell _ _ _ _ (by show w.heap.size + 2 ≠ B6; omega)]
                exact (Below.block hb9 _ (lt_of_blk HOC.out)).trans HOC.out
              have d9 : Below w.heap.size w ((w9.setCell ⟨B6, 0, none⟩ (.int .i64 (ar + tr))).setCell ⟨B6, 1, none⟩ (.int .i64 (ai + ti))) := ((HBC.out.trans (Below.mono hb9 HBC.out.size)).setCell (p := ⟨B6, 0, none⟩) (by show w.heap.size ≤ B6; omega) _).setCell (p := ⟨B6, 1, none⟩) (by show w.heap.size ≤ B6; omega) _
              have C9 := Lib.hid c9
              have X9 := Lib.hid x9
              have Y9 := Lib.hid y9
              have O9 := Lib.hid o9
              have D9 := Lib.hid d9
              clear c9 x9 y9 o9 d9
              go_wp2_with fail
              go_roundw
              case rel => exact ⟨k + 1, by omega, by go_num, C9.out, X9.out, Y9.out, O9.out, D9.out⟩
              case measure => simp [intOf]; omega
        · obtain rfl : k = 4 := by omega
          have sm := un_small (fun j hj => (HXX.out j hj).2.2) n 4 (by omega)
          obtain ⟨c0, c1⟩ := cells2g hc
          obtain ⟨ar, har⟩ : ∃ ar, unR ks ls n 4 = ar := ⟨_, rfl⟩
          obtain ⟨ai, hai⟩ : ∃ ai, unI ks ls n 4 = ai := ⟨_, rfl⟩
          rw [har] at c0 sm
          rw [hai] at c1 sm
          have HAR := Lib.hid har
          have HAI := Lib.hid hai
          have hR := HPL.out.1
          have lo := lt_of_blk ho
          have lc := lt_of_blk hc
          have o1 : wr.cell? ⟨w.heap.size + 2, n, none⟩ = some (.float .f32 (R[n]?.getD 0)) := by
            rw [cell_of_row _ _ n _ _ (0, 0) ho]
            simp [List.getElem?_eq_getElem (show n < R.length by omega)]
          have o2 : wr.frozen? ⟨w.heap.size + 2, n, none⟩ = false := by simp [World.frozen?, ho]
          have y0' : wr.cell? ⟨w.heap.size + 1, 0, none⟩ = some (.float .f32 0) := by rw [cell_of_row _ _ 0 _ _ (0, 0) hy]; rfl
          have y1' : wr.cell? ⟨w.heap.size + 1, 1, none⟩ = some (.float .f32 0) := by rw [cell_of_row _ _ 1 _ _ (0, 0) hy]; rfl
          have y2' : wr.cell? ⟨w.heap.size + 1, 2, none⟩ = some (.float .f32 0) := by rw [cell_of_row _ _ 2 _ _ (0, 0) hy]; rfl
          have y3' : wr.cell? ⟨w.heap.size + 1, 3, none⟩ = some (.float .f32 0) := by rw [cell_of_row _ _ 3 _ _ (0, 0) hy]; rfl
          have yf0 : wr.frozen? ⟨w.heap.size + 1, 0, none⟩ = false := by simp [World.frozen?, hy]
          have yf1 : wr.frozen? ⟨w.heap.size + 1, 1, none⟩ = false := by simp [World.frozen?, hy]
          have yf2 : wr.frozen? ⟨w.heap.size + 1, 2, none⟩ = false := by simp [World.frozen?, hy]
          have yf3 : wr.frozen? ⟨w.heap.size + 1, 3, none⟩ = false := by simp [World.frozen?, hy]
          have hne1 : B6 ≠ w.heap.size + 2 := by omega
          have hne2 : w.heap.size + 2 ≠ B6 := by omega
          have hne3 : B6 ≠ w.heap.size + 1 + 1 := by omega
          have hne4 : w.heap.size + 1 + 1 ≠ B6 := by omega
          have i4 : ¬ ((4 : Int) = 0) := by decide
          clear har hai hc hx hy ho hbr
          by_cases hi0 : ai = 0
          · subst hi0
            by_cases hm : ar % 4 = 0
            · obtain ⟨v, hv⟩ : ∃ v, ar / 4 = v := ⟨_, rfl⟩
              have ev : ar = v * 4 := by omega
              have htm : ar.tmod 4 = 0 := by rw [Int.tmod_eq_emod]; split <;> omega
              have htd : ar.tdiv 4 = v := by rw [ev]; exact Int.mul_tdiv_cancel _ (by decide)
              have hwv : IntKind.i64.wrap v = v := IntWalk.i64_in _ ⟨by omega, by omega⟩
              by_cases hL : v.natAbs ≤ 16384
              · have HOK : Hid (unOk ks ls n) := Lib.hid ⟨HAI.out, by rw [HAR.out]; exact hm, by rw [HAR.out, hv]; exact hL⟩
                have HES : Hid (RefSamp ks ls (n + 1) (R.set n (smpOf v))) := Lib.hid (by
                  have h := HPL.out.step hlt HOK.out
                  rw [HAR.out, hv] at h
                  exact h)
                have KL := Lib.hid (fun w1 => isLarge_no v hL w1)
                have KS := Lib.hid (fun w1 => refSample_any v (Nat.lt_of_le_of_lt hL (by decide)) w1)
                have o3 : (wr.setCell ⟨w.heap.size + 2, n, none⟩ (.float .f32 (smpOf v))).heap[w.heap.size + 2]? = some (.cells ((R.set n (smpOf v)).map (Value.float .f32)).toArray 92 (0, 0)) := by
                  have h := blk_setL HO2.out (.float .f32 (smpOf v)) (k := n) (by rw [List.length_map]; omega)
                  rwa [← List.map_set] at h
                have O3 := Lib.hid o3
                clear o3 sm ev hm hv hL y0' y1' y2' y3' yf0 yf1 yf2 yf3
                have x9 : (wr.setCell ⟨w.heap.size + 2, n, none⟩ (.float .f32 (smpOf v))).heap[w.heap.size]? = some (.cells #[.complex .f32 x0 y0, .complex .f32 x1 y1, .complex .f32 x2 y2, .complex .f32 x3 y3] 95 (0, 0)) := by
                  rw [Below.heap_setCell _ _ _ _ (by show w.heap.size ≠ w.heap.size + 2; omega)]; exact HX2.out
                have y9 : (wr.setCell ⟨w.heap.size + 2, n, none⟩ (.float .f32 (smpOf v))).heap[w.heap.size + 1]? = some (.cells #[.float .f32 0, .float .f32 0, .float .f32 0, .float .f32 0] 92 (0, 0)) := by
                  rw [Below.heap_setCell _ _ _ _ (by show w.heap.size + 1 ≠ w.heap.size + 2; omega)]; exact HY2.out
                have d9 : Below w.heap.size w (wr.setCell ⟨w.heap.size + 2, n, none⟩ (.float .f32 (smpOf v))) := HBR.out.setCell (p := ⟨w.heap.size + 2, n, none⟩) (by show w.heap.size ≤ w.heap.size + 2; omega) _
                have X9 := Lib.hid x9
                have Y9 := Lib.hid y9
                have D9 := Lib.hid d9
                clear x9 y9 d9
                go_wp2_with (first
                  | (go_at_call 161; refine (KL.out _).mono ?_; rintro e w6 ⟨rfl, rfl⟩)
                  | (go_at_call 45; refine (KS.out _).mono ?_; rintro e w7 ⟨rfl, rfl⟩))
                go_roundw
                case rel => exact ⟨n + 1, _, by omega, by go_num, X9.out, Y9.out, O3.out, HES.out, D9.out⟩
                case measure => simp [intOf]; omega
              · have HNO : Hid (¬ unOk ks ls n) := Lib.hid fun h => hL (by have := h.2.2; rw [HAR.out, hv] at this; exact this)
                have KL := Lib.hid (fun w1 => isLarge_yes v (by omega) w1)
                clear sm ev hm hv hL o1 o2
                go_wp2_with (go_at_call 161; refine (KL.out _).mono ?_; rintro e w6 ⟨rfl, rfl⟩)
                (try simp only [Exit.inBlock, Exit.then])
                have hF := blk_set4u HY2.out (.float .f32 0) (.float .f32 0) (.float .f32 0) (.float .f32 0)
                refine bodyPost_ret (results_row_tmp rfl _ _ (w.heap.size + 1) 92 _ (0, 0) _ rfl hF Tryz.underlying92 rfl (by kernel_rfl)) rfl ?_
                exact refUnfour_bad hlt HNO.out ((((HBR.out.setCell (p := ⟨w.heap.size + 1, 0, none⟩) (by show w.heap.size ≤ w.heap.size + 1; omega) _).setCell (p := ⟨w.heap.size + 1, 1, none⟩) (by show w.heap.size ≤ w.heap.size + 1; omega) _).setCell (p := ⟨w.heap.size + 1, 2, none⟩) (by show w.heap.size ≤ w.heap.size + 1; omega) _).setCell (p := ⟨w.heap.size + 1, 3, none⟩) (by show w.heap.size ≤ w.heap.size + 1; omega) _)
            · have HNO : Hid (¬ unOk ks ls n) := Lib.hid fun h => hm (by have := h.2.1; rw [HAR.out] at this; exact this)
              obtain ⟨tm, htm⟩ : ∃ tm, ar.tmod 4 = tm := ⟨_, rfl⟩
              have ht0 : tm ≠ 0 := by
                rw [← htm, Int.tmod_eq_emod]
                split <;> omega
              have hwt : IntKind.i64.wrap tm = tm := IntWalk.i64_in _ ⟨by rw [← htm, Int.tmod_eq_emod]; split <;> omega, by rw [← htm, Int.tmod_eq_emod]; split <;> omega⟩
              have hne : (tm != 0) = true := by simp [ht0]
              clear sm hm ht0 o1 o2
              go_wp2_with fail
              (try simp only [Exit.inBlock, Exit.then])
              have hF := blk_set4u HY2.out (.float .f32 0) (.float .f32 0) (.float .f32 0) (.float .f32 0)
              refine bodyPost_ret (results_row_tmp rfl _ _ (w.heap.size + 1) 92 _ (0, 0) _ rfl hF Tryz.underlying92 rfl (by kernel_rfl)) rfl ?_
              exact refUnfour_bad hlt HNO.out ((((HBR.out.setCell (p := ⟨w.heap.size + 1, 0, none⟩) (by show w.heap.size ≤ w.heap.size + 1; omega) _).setCell (p := ⟨w.heap.size + 1, 1, none⟩) (by show w.heap.size ≤ w.heap.size + 1; omega) _).setCell (p := ⟨w.heap.size + 1, 2, none⟩) (by show w.heap.size ≤ w.heap.size + 1; omega) _).setCell (p := ⟨w.heap.size + 1, 3, none⟩) (by show w.heap.size ≤ w.heap.size + 1; omega) _)
          · have HNO : Hid (¬ unOk ks ls n) := Lib.hid fun h => hi0 (by have := h.1; rw [HAI.out] at this; exact this)
            have hne : (ai != 0) = true := by simp [hi0]
            clear sm hi0 o1 o2
            go_wp2_with fail
            (try simp only [Exit.inBlock, Exit.then])
            have hF := blk_set4u HY2.out (.float .f32 0) (.float .f32 0) (.float .f32 0) (.float .f32 0)
            refine bodyPost_ret (results_row_tmp rfl _ _ (w.heap.size + 1) 92 _ (0, 0) _ rfl hF Tryz.underlying92 rfl (by kernel_rfl)) rfl ?_
            exact refUnfour_bad hlt HNO.out ((((HBR.out.setCell (p := ⟨w.heap.size + 1, 0, none⟩) (by show w.heap.size ≤ w.heap.size + 1; omega) _).setCell (p := ⟨w.heap.size + 1, 1, none⟩) (by show w.heap.size ≤ w.heap.size + 1; omega) _).setCell (p := ⟨w.heap.size + 1, 2, none⟩) (by show w.heap.size ≤ w.heap.size + 1; omega) _).setCell (p := ⟨w.heap.size + 1, 3, none⟩) (by show w.heap.size ≤ w.heap.size + 1; omega) _)
    · obtain rfl : n = 4 := by omega
      obtain ⟨r0, r1, r2, r3, rfl⟩ := list4N hpl.1
      have e0 := (hpl.2 0 (by omega)).2
      have e1 := (hpl.2 1 (by omega)).2
      have e2 := (hpl.2 2 (by omega)).2
      have e3 := (hpl.2 3 (by omega)).2
      have p0 : wr.cell? ⟨w.heap.size + 2, 0, none⟩ = some (.float .f32 r0) := by rw [cell_of_row _ _ 0 _ _ (0, 0) ho]; rfl
      have p1 : wr.cell? ⟨w.heap.size + 2, 1, none⟩ = some (.float .f32 r1) := by rw [cell_of_row _ _ 1 _ _ (0, 0) ho]; rfl
      have p2 : wr.cell? ⟨w.heap.size + 2, 2, none⟩ = some (.float .f32 r2) := by rw [cell_of_row _ _ 2 _ _ (0, 0) ho]; rfl
      have p3 : wr.cell? ⟨w.heap.size + 2, 3, none⟩ = some (.float .f32 r3) := by rw [cell_of_row _ _ 3 _ _ (0, 0) ho]; rfl
      have y0' : wr.cell? ⟨w.heap.size + 1, 0, none⟩ = some (.float .f32 0) := by rw [cell_of_row _ _ 0 _ _ (0, 0) hy]; rfl
      have y1' : wr.cell? ⟨w.heap.size + 1, 1, none⟩ = some (.float .f32 0) := by rw [cell_of_row _ _ 1 _ _ (0, 0) hy]; rfl
      have y2' : wr.cell? ⟨w.heap.size + 1, 2, none⟩ = some (.float .f32 0) := by rw [cell_of_row _ _ 2 _ _ (0, 0) hy]; rfl
      have y3' : wr.cell? ⟨w.heap.size + 1, 3, none⟩ = some (.float .f32 0) := by rw [cell_of_row _ _ 3 _ _ (0, 0) hy]; rfl
      have yf0 : wr.frozen? ⟨w.heap.size + 1, 0, none⟩ = false := by simp [World.frozen?, hy]
      have yf1 : wr.frozen? ⟨w.heap.size + 1, 1, none⟩ = false := by simp [World.frozen?, hy]
      have yf2 : wr.frozen? ⟨w.heap.size + 1, 2, none⟩ = false := by simp [World.frozen?, hy]
      have yf3 : wr.frozen? ⟨w.heap.size + 1, 3, none⟩ = false := by simp [World.frozen?, hy]
      have HY2 := HY1
      have E0 := Lib.hid (And.intro e0 (And.intro e1 (And.intro e2 e3)))
      clear e0 e1 e2 e3 hx hy ho hpl hbr
      go_wp2_with fail
      (try simp only [Exit.inBlock, Exit.then])
      have hF := blk_set4u HY1.out (.float .f32 r0) (.float .f32 r1) (.float .f32 r2) (.float .f32 r3)
      refine bodyPost_ret (results_row_tmp rfl _ _ (w.heap.size + 1) 92 _ (0, 0) _ rfl hF Tryz.underlying92 rfl (by kernel_rfl)) rfl ?_
      obtain ⟨e0, e1, e2, e3⟩ := E0.out
      refine ⟨(((HBR.out.setCell (p := ⟨w.heap.size + 1, 0, none⟩) (by show w.heap.size ≤ w.heap.size + 1; omega) _).setCell (p := ⟨w.heap.size + 1, 1, none⟩) (by show w.heap.size ≤ w.heap.size + 1; omega) _).setCell (p := ⟨w.heap.size + 1, 2, none⟩) (by show w.heap.size ≤ w.heap.size + 1; omega) _).setCell (p := ⟨w.heap.size + 1, 3, none⟩) (by show w.heap.size ≤ w.heap.size + 1; omega) _, .inl ⟨fun i hi => (HPL.out.2 i hi).1, ?_⟩⟩
      rw [← e0, ← e1, ← e2, ← e3]
      rfl
end Go.Proofs.YtfdkmmllemkogaaGreatDoor
