/-
  The reference's Four of four right samples.
-/
import Derived.Test.YtfdkmmllemkogaaGreatDoorOPg
namespace Go.Proofs.YtfdkmmllemkogaaGreatDoor
open Go.RowKit
set_option linter.unusedVariables false
set_option linter.unusedSimpArgs false

/-- The reference's panel: the samples of the sums. -/
def panelL (ks : List Int) : List Value := (List.range 4).map fun i => .complex .f32 (smpOf (accR ks i 4)) (smpOf (accI ks i 4))
/-- The panel's cells that are made so far. -/
def PanelTo (ks : List Int) (k : Nat) (L : List Value) : Prop := L.length = 4 ∧ ∀ i, i < 4 → ∃ a b, L[i]? = some (.complex .f32 a b) ∧ (i < k → a = smpOf (accR ks i 4) ∧ b = smpOf (accI ks i 4))
theorem PanelTo.start (ks : List Int) : PanelTo ks 0 [.complex .f32 0 0, .complex .f32 0 0, .complex .f32 0 0, .complex .f32 0 0] := ⟨rfl, fun i hi => by
  match i, hi with
  | 0, _ => exact ⟨0, 0, rfl, fun h => by omega⟩
  | 1, _ => exact ⟨0, 0, rfl, fun h => by omega⟩
  | 2, _ => exact ⟨0, 0, rfl, fun h => by omega⟩
  | 3, _ => exact ⟨0, 0, rfl, fun h => by omega⟩⟩
theorem PanelTo.step {ks : List Int} {k : Nat} {L : List Value} (h : PanelTo ks k L) (hk : k < 4) : PanelTo ks (k + 1) (L.set k (.complex .f32 (smpOf (accR ks k 4)) (smpOf (accI ks k 4)))) := by
  refine ⟨by rw [List.length_set]; exact h.1, fun i hi => ?_⟩
  by_cases hik : i = k
  · subst hik
    exact ⟨_, _, List.getElem?_set_self (by rw [h.1]; exact hi), fun _ => ⟨rfl, rfl⟩⟩
  · obtain ⟨a, b, h1, h2⟩ := h.2 i hi
    exact ⟨a, b, by rw [List.getElem?_set_ne (fun e => hik e.symm)]; exact h1, fun h3 => h2 (by omega)⟩
theorem PanelTo.done {ks : List Int} {L : List Value} (h : PanelTo ks 4 L) : L = panelL ks := by
  refine List.ext_getElem? fun i => ?_
  by_cases hi : i < 4
  · obtain ⟨a, b, h1, h2⟩ := h.2 i hi
    obtain ⟨rfl, rfl⟩ := h2 hi
    rw [h1]
    unfold panelL
    rw [List.getElem?_map, List.getElem?_range hi]
    rfl
  · rw [List.getElem?_eq_none (by rw [h.1]; omega), List.getElem?_eq_none (by simp [panelL]; omega)]
theorem cells2g {w : World} {B : Nat} {T : TypeId} {x y : Value} (h : w.heap[B]? = some (.cells #[x, y] T (0, 0))) :
    w.cell? ⟨B, 0, none⟩ = some x ∧ w.cell? ⟨B, 1, none⟩ = some y :=
  ⟨by rw [cell_of_row w _ 0 _ _ (0, 0) h]; rfl, by rw [cell_of_row w _ 1 _ _ (0, 0) h]; rfl⟩
theorem results_row1 {P : Program} {fn : Func} {p : Tmp} {ty : TypeId} (h : fn.results = #[.cell p ty]) (tmps : Array Value) (w : World) (g : Nat) (t : TypeId) (cs : Array Value) (fr : Nat × Nat) (d : TypeDesc)
    (hp : tmps.getD p undef = .pointer (some ⟨g, 0, none⟩)) (hg : w.heap[g]? = some (.cells cs t fr))
    (hu : P.underlying ty = some d) (hd : (match d with | .struct _ | .array _ _ => true | _ => false) = true) (hi : (P.info? ty).map (·.size) = some cs.size) :
    (results fn tmps).run P w = .ok (.agg cs) w := by
  have hp' : tmps[p]?.getD undef = .pointer (some ⟨g, 0, none⟩) := by simpa using hp
  simp [results, h, hp', asAddr, Sem.run_bind, Result.andThen, run_loadVar_row w g t ty cs fr d hg hu hd hi]
theorem far_small {a : Int} (h : a.natAbs ≤ 1048576) : Far a := by unfold Far; omega

attribute [local go_sem] store_complex
set_option maxRecDepth 1000000 in
set_option maxHeartbeats 12800000 in
theorem refFour_any (x0 x1 x2 x3 : Nat) (ks : List Int) (HX : ∀ j, j < 4 → Smp (([x0, x1, x2, x3] : List Nat)[j]?.getD 0) (ks[j]?.getD 0) ∧ (ks[j]?.getD 0).natAbs ≤ 16384) (w : World) :
    Calls Tryz.prog 72 #[.agg #[.float .f32 x0, .float .f32 x1, .float .f32 x2, .float .f32 x3]] w fun e w' => e = .returned (.agg (panelL ks).toArray) ∧ Below w.heap.size w w' := by
  obtain ⟨W0, hW0⟩ : ∃ W0, ((w.alloc (.cells #[.float .f32 x0, .float .f32 x1, .float .f32 x2, .float .f32 x3] 92)).alloc (.cells #[.complex .f32 0 0, .complex .f32 0 0, .complex .f32 0 0, .complex .f32 0 0] 95)).alloc (.cells #[.complex .f32 0 0, .complex .f32 0 0, .complex .f32 0 0, .complex .f32 0 0] 95) = W0 := ⟨_, rfl⟩
  have hB0 : Below w.heap.size w W0 := by rw [← hW0]; exact (((Below.refl _ w).alloc (Nat.le_refl _) _).alloc (by simp) _).alloc (by simp; omega) _
  have hS0 : W0.heap.size = w.heap.size + 3 := by rw [← hW0]; simp
  have bX : W0.heap[w.heap.size]? = some (.cells #[.float .f32 x0, .float .f32 x1, .float .f32 x2, .float .f32 x3] 92 (0, 0)) := by
    rw [← hW0]; exact blk_alloc_other (blk_alloc_other (blk_alloc_new _ _) _) _
  have bY : W0.heap[w.heap.size + 1]? = some (.cells #[.complex .f32 0 0, .complex .f32 0 0, .complex .f32 0 0, .complex .f32 0 0] 95 (0, 0)) := by
    rw [← hW0]; exact blk_alloc_other (blk_alloc_new1 w _ _) _
  have bO : W0.heap[w.heap.size + 2]? = some (.cells ([.complex .f32 0 0, .complex .f32 0 0, .complex .f32 0 0, .complex .f32 0 0] : List Value).toArray 95 (0, 0)) := by
    rw [← hW0]; exact blk_alloc_at _ _ (by simp)
  have HB0 := Lib.hid hB0
  have HS0 := Lib.hid hS0
  have HX0 := Lib.hid bX
  have HY0 := Lib.hid bY
  have HO0 := Lib.hid bO
  have HXX := Lib.hid HX
  clear HX hB0 bX bY bO hS0
  go_enter Tryz.func72, Tryz.ntmps72
  go_upto_region 2 with fail
  try rw [hW0]
  clear hW0
  go_wp2_with fail
  go_loopw [4] (fun s4 wq => ∃ (k : Nat) (L : List Value), k ≤ 4 ∧ s4 = .int .i64 k ∧ wq.heap[w.heap.size]? = some (.cells #[.float .f32 x0, .float .f32 x1, .float .f32 x2, .float .f32 x3] 92 (0, 0)) ∧ wq.heap[w.heap.size + 1]? = some (.cells #[.complex .f32 0 0, .complex .f32 0 0, .complex .f32 0 0, .complex .f32 0 0] 95 (0, 0)) ∧
      wq.heap[w.heap.size + 2]? = some (.cells L.toArray 95 (0, 0)) ∧ PanelTo ks k L ∧ Below w.heap.size w wq) (fun i _ => 4 - (intOf i).toNat)
  case atStart => exact ⟨0, _, by omega, rfl, HX0.out, HY0.out, HO0.out, PanelTo.start ks, HB0.out⟩
  case round =>
    obtain ⟨k, L, hk, rfl, hx, hy, ho, hpl, hbr⟩ := hrel
    have HPL := Lib.hid hpl
    have HBR := Lib.hid hbr
    have HX1 := Lib.hid hx
    have HY1 := Lib.hid hy
    have HO1 := Lib.hid ho
    by_cases hlt : k < 4
    · have hltI : (k : Int) < 4 := by omega
      have hlo := lt_of_blk ho
      clear hx hy ho hpl hbr
      go_upto_region 6 with fail
      obtain ⟨W5, hW5⟩ : ∃ W5, wr.alloc (.cells #[.int .i64 0, .int .i64 0] 159) = W5 := ⟨_, rfl⟩
      obtain ⟨B5, hB5⟩ : ∃ B5, wr.heap.size = B5 := ⟨_, rfl⟩
      have c5 : W5.heap[B5]? = some (.cells #[.int .i64 (accR ks k 0), .int .i64 (accI ks k 0)] 159 (0, 0)) := by rw [← hW5, ← hB5]; exact blk_alloc_new _ _
      have x5 : W5.heap[w.heap.size]? = some (.cells #[.float .f32 x0, .float .f32 x1, .float .f32 x2, .float .f32 x3] 92 (0, 0)) := by rw [← hW5]; exact blk_alloc_other HX1.out _
      have y5 : W5.heap[w.heap.size + 1]? = some (.cells #[.complex .f32 0 0, .complex .f32 0 0, .complex .f32 0 0, .complex .f32 0 0] 95 (0, 0)) := by rw [← hW5]; exact blk_alloc_other HY1.out _
      have o5 : W5.heap[w.heap.size + 2]? = some (.cells L.toArray 95 (0, 0)) := by rw [← hW5]; exact blk_alloc_other HO1.out _
      have b5 : Below w.heap.size w W5 := by rw [← hW5]; exact HBR.out.alloc HBR.out.size _
      rw [hB5] at hlo
      rw [hB5, hW5]
      have C5 := Lib.hid c5
      have X5 := Lib.hid x5
      have Y5 := Lib.hid y5
      have O5 := Lib.hid o5
      have D5 := Lib.hid b5
      clear hW5 hB5 c5 x5 y5 o5 b5 HX1 HY1 HO1 HBR
      go_wp2_with fail
      go_loopw [6] (fun s6 wq => ∃ m : Nat, m ≤ 4 ∧ s6 = .int .i64 m ∧ wq.heap[B5]? = some (.cells #[.int .i64 (accR ks k m), .int .i64 (accI ks k m)] 159 (0, 0)) ∧ wq.heap[w.heap.size]? = some (.cells #[.float .f32 x0, .float .f32 x1, .float .f32 x2, .float .f32 x3] 92 (0, 0)) ∧ wq.heap[w.heap.size + 1]? = some (.cells #[.complex .f32 0 0, .complex .f32 0 0, .complex .f32 0 0, .complex .f32 0 0] 95 (0, 0)) ∧
          wq.heap[w.heap.size + 2]? = some (.cells L.toArray 95 (0, 0)) ∧ Below w.heap.size w wq) (fun i _ => 4 - (intOf i).toNat)
      case atStart => exact ⟨0, by omega, rfl, C5.out, X5.out, Y5.out, O5.out, D5.out⟩
      case round =>
        obtain ⟨m, hm, rfl, hc, hx, hy, ho, hbr⟩ := hrel
        have HC := Lib.hid hc
        have HX2 := Lib.hid hx
        have HY2 := Lib.hid hy
        have HO2 := Lib.hid ho
        have HBR := Lib.hid hbr
        by_cases hlm : m < 4
        · have hlmI : (m : Int) < 4 := by omega
          have hxj := HXX.out m hlm
          obtain ⟨x, hxv⟩ : ∃ x, ([x0, x1, x2, x3] : List Nat)[m]?.getD 0 = x := ⟨_, rfl⟩
          have gx : wr.cell? ⟨w.heap.size, m, none⟩ = some (.float .f32 x) := by
            rw [cell_of_row _ _ m _ _ (0, 0) hx, ← hxv]
            match m, hlm with
            | 0, _ => rfl
            | 1, _ => rfl
            | 2, _ => rfl
            | 3, _ => rfl
          rw [hxv] at hxj
          obtain ⟨kj, hkj⟩ : ∃ kj, ks[m]?.getD 0 = kj := ⟨_, rfl⟩
          rw [hkj] at hxj
          obtain ⟨c0, c1⟩ := cells2g hc
          have z0 : wr.frozen? ⟨B5, 0, none⟩ = false := by simp [World.frozen?, hc]
          have z1 : wr.frozen? ⟨B5, 1, none⟩ = false := by simp [World.frozen?, hc]
          have lx := lt_of_blk hx
          have lc := lt_of_blk hc
          obtain ⟨q, hq⟩ : ∃ q : Nat, 3 * k * m = q := ⟨_, rfl⟩
          have hq27 : q ≤ 27 := by rw [← hq]; have := Nat.mul_le_mul (show 3 * k ≤ 9 by omega) (show m ≤ 3 by omega); omega
          have hqi : (3 : Int) * (k : Int) * (m : Int) = (q : Int) := by rw [← hq]; push_cast; rfl
          have hw3 : IntKind.i64.wrap ((3 : Int) * (k : Int)) = (3 : Int) * (k : Int) := IntWalk.i64_in _ ⟨by omega, by omega⟩
          have hwq : IntKind.i64.wrap (q : Int) = (q : Int) := IntWalk.i64_in _ ⟨by omega, by omega⟩
          have ep := pow_three (k * m)
          rw [← Nat.mul_assoc, hq] at ep
          have hp4 : q % 4 < 4 := Nat.mod_lt _ (by omega)
          have ps := pow_small hp4
          have sm := acc_small (fun j hj => (HXX.out j hj).2) k m (by omega)
          obtain ⟨pr, hpr⟩ : ∃ pr, powRe (q % 4) = pr := ⟨_, rfl⟩
          obtain ⟨pi, hpi⟩ : ∃ pi, -powIm (q % 4) = pi := ⟨_, rfl⟩
          have q1 := mul_small hxj.2 (q := pr) (by rw [← hpr]; exact ps.1)
          have q2 := mul_small hxj.2 (q := pi) (by rw [← hpi]; rcases ps.2 with h | h | h <;> rw [h] <;> decide)
          have ea : accR ks k (m + 1) = accR ks k m + (kj * pr - 0 * pi) := by
            show accR ks k m + ks[m]?.getD 0 * powRe (k * m % 4) = _
            rw [hkj, ← ep.1, hpr, Int.zero_mul, Int.sub_zero]
          have eb : accI ks k (m + 1) = accI ks k m + (kj * pi + 0 * pr) := by
            show accI ks k m + ks[m]?.getD 0 * powIm (k * m % 4) = _
            rw [hkj, ← ep.2, hpi, Int.zero_mul, Int.add_zero]
          obtain ⟨ar, har⟩ : ∃ ar, accR ks k m = ar := ⟨_, rfl⟩
          obtain ⟨ai, hai⟩ : ∃ ai, accI ks k m = ai := ⟨_, rfl⟩
          rw [har] at ea c0 sm
          rw [hai] at eb c1 sm
          have K6 : Hid (∀ w1 : World, Blw wr.heap.size wr w1 → Calls Tryz.prog 99 #[.float .f32 x] w1 fun e w' => e = .returned (.int .i64 kj) ∧ Blw wr.heap.size wr w') := Lib.hid fun w1 h =>
            (sixteenths_any x kj hxj.1 (Nat.lt_of_le_of_lt hxj.2 (by decide)) w1).mono fun e w' ⟨h1, h2⟩ => ⟨h1, by rw [← h2]; exact h⟩
          have KP : Hid (∀ w1 : World, Blw wr.heap.size wr w1 → Calls Tryz.prog 155 #[.int .i64 q] w1 fun e w' => e = .returned (.agg #[.int .i64 pr, .int .i64 pi]) ∧ Blw wr.heap.size wr w') := Lib.hid fun w1 h => by
            have k1 := gPower_any q w1
            rw [hpr, hpi] at k1
            exact k1.mono fun e w' ⟨h1, h2⟩ => ⟨h1, Below.trans h (h2.mono (Below.size h))⟩
          have KM : Hid (∀ w1 : World, Blw wr.heap.size wr w1 → Calls Tryz.prog 160 #[.agg #[.int .i64 kj, .int .i64 0], .agg #[.int .i64 pr, .int .i64 pi]] w1 fun e w' => e = .returned (.agg #[.int .i64 (kj * pr - 0 * pi), .int .i64 (kj * pi + 0 * pr)]) ∧ Blw wr.heap.size wr w') := Lib.hid fun w1 h =>
            (gTimes_any kj 0 pr pi (far_small (by omega)) (by rw [Int.zero_mul]; exact far_small (by decide)) (far_small (by omega)) (by rw [Int.zero_mul]; exact far_small (by decide)) w1).mono fun e w' ⟨h1, h2⟩ => ⟨h1, Below.trans h (h2.mono (Below.size h))⟩
          obtain ⟨tr, htr⟩ : ∃ tr, kj * pr - 0 * pi = tr := ⟨_, rfl⟩
          obtain ⟨ti, hti⟩ : ∃ ti, kj * pi + 0 * pr = ti := ⟨_, rfl⟩
          rw [htr, hti] at KM
          rw [htr] at ea
          rw [hti] at eb
          have ft : tr.natAbs ≤ 16384 := by rw [← htr, Int.zero_mul, Int.sub_zero]; exact q1
          have fi : ti.natAbs ≤ 16384 := by rw [← hti, Int.zero_mul, Int.add_zero]; exact q2
          have KL : Hid (∀ w1 : World, Blw wr.heap.size wr w1 → Calls Tryz.prog 159 #[.agg #[.int .i64 ar, .int .i64 ai], .agg #[.int .i64 tr, .int .i64 ti]] w1 fun e w' => e = .returned (.agg #[.int .i64 (ar + tr), .int .i64 (ai + ti)]) ∧ Blw wr.heap.size wr w') := Lib.hid fun w1 h =>
            (gPlus_any ar ai tr ti (far_small (by omega)) (far_small (by omega)) (far_small (by omega)) (far_small (by omega)) w1).mono fun e w' ⟨h1, h2⟩ => ⟨h1, Below.trans h (h2.mono (Below.size h))⟩
          have EA := Lib.hid ea
          have EB := Lib.hid eb
          have hB : Blw wr.heap.size wr wr := show Below _ _ _ from Below.refl _ _
          have hB' : Blw wr.heap.size wr wr.drew := show Below _ _ _ from (Below.refl wr.heap.size wr).drew
          clear hxj hxv hkj hq ep hp4 ps sm hpr hpi q1 q2 ea eb har hai htr hti ft fi hc hx hy ho hbr
          go_upto_region 9 with fail
          have d0 : wr.drew.cell? ⟨B5, 0, none⟩ = some (.int .i64 ar) := c0
          have d1 : wr.drew.cell? ⟨B5, 1, none⟩ = some (.int .i64 ai) := c1
          have d2 : wr.drew.frozen? ⟨B5, 0, none⟩ = false := z0
          have d3 : wr.drew.frozen? ⟨B5, 1, none⟩ = false := z1
          have d4 : wr.drew.cell? ⟨w.heap.size, m, none⟩ = some (.float .f32 x) := gx
          go_region_with (first
            | (go_at_call 99; refine (K6.out _ ?_).mono ?_; focus assumption
               rintro e w6 ⟨rfl, hb6⟩; (have u0w6 : w6.cell? ⟨B5, 0, none⟩ = some (.int .i64 ar) := by rw [Below.cell (w := wr) (hb6 : Blw wr.heap.size wr w6) lc]; assumption); (have u1w6 : w6.cell? ⟨B5, 1, none⟩ = some (.int .i64 ai) := by rw [Below.cell (w := wr) (hb6 : Blw wr.heap.size wr w6) lc]; assumption); (have u2w6 : w6.frozen? ⟨B5, 0, none⟩ = false := by rw [Below.frozen (w := wr) (hb6 : Blw wr.heap.size wr w6) lc]; assumption); (have u3w6 : w6.frozen? ⟨B5, 1, none⟩ = false := by rw [Below.frozen (w := wr) (hb6 : Blw wr.heap.size wr w6) lc]; assumption); (have u4w6 : w6.cell? ⟨w.heap.size, m, none⟩ = some (.float .f32 x) := by rw [Below.cell (w := wr) (hb6 : Blw wr.heap.size wr w6) lx]; assumption))
            | (go_at_call 155; refine (KP.out _ ?_).mono ?_; focus assumption
               rintro e w7 ⟨rfl, hb7⟩; (have u0w7 : w7.cell? ⟨B5, 0, none⟩ = some (.int .i64 ar) := by rw [Below.cell (w := wr) (hb7 : Blw wr.heap.size wr w7) lc]; assumption); (have u1w7 : w7.cell? ⟨B5, 1, none⟩ = some (.int .i64 ai) := by rw [Below.cell (w := wr) (hb7 : Blw wr.heap.size wr w7) lc]; assumption); (have u2w7 : w7.frozen? ⟨B5, 0, none⟩ = false := by rw [Below.frozen (w := wr) (hb7 : Blw wr.heap.size wr w7) lc]; assumption); (have u3w7 : w7.frozen? ⟨B5, 1, none⟩ = false := by rw [Below.frozen (w := wr) (hb7 : Blw wr.heap.size wr w7) lc]; assumption); (have u4w7 : w7.cell? ⟨w.heap.size, m, none⟩ = some (.float .f32 x) := by rw [Below.cell (w := wr) (hb7 : Blw wr.heap.size wr w7) lx]; assumption))
            | (go_at_call 160; refine (KM.out _ ?_).mono ?_; focus assumption
               rintro e w8 ⟨rfl, hb8⟩; (have u0w8 : w8.cell? ⟨B5, 0, none⟩ = some (.int .i64 ar) := by rw [Below.cell (w := wr) (hb8 : Blw wr.heap.size wr w8) lc]; assumption); (have u1w8 : w8.cell? ⟨B5, 1, none⟩ = some (.int .i64 ai) := by rw [Below.cell (w := wr) (hb8 : Blw wr.heap.size wr w8) lc]; assumption); (have u2w8 : w8.frozen? ⟨B5, 0, none⟩ = false := by rw [Below.frozen (w := wr) (hb8 : Blw wr.heap.size wr w8) lc]; assumption); (have u3w8 : w8.frozen? ⟨B5, 1, none⟩ = false := by rw [Below.frozen (w := wr) (hb8 : Blw wr.heap.size wr w8) lc]; assumption); (have u4w8 : w8.cell? ⟨w.heap.size, m, none⟩ = some (.float .f32 x) := by rw [Below.cell (w := wr) (hb8 : Blw wr.heap.size wr w8) lx]; assumption))
            | (go_at_call 159; refine (KL.out _ ?_).mono ?_; focus assumption
               rintro e w9 ⟨rfl, hb9⟩; (have u0w9 : w9.cell? ⟨B5, 0, none⟩ = some (.int .i64 ar) := by rw [Below.cell (w := wr) (hb9 : Blw wr.heap.size wr w9) lc]; assumption); (have u1w9 : w9.cell? ⟨B5, 1, none⟩ = some (.int .i64 ai) := by rw [Below.cell (w := wr) (hb9 : Blw wr.heap.size wr w9) lc]; assumption); (have u2w9 : w9.frozen? ⟨B5, 0, none⟩ = false := by rw [Below.frozen (w := wr) (hb9 : Blw wr.heap.size wr w9) lc]; assumption); (have u3w9 : w9.frozen? ⟨B5, 1, none⟩ = false := by rw [Below.frozen (w := wr) (hb9 : Blw wr.heap.size wr w9) lc]; assumption); (have u4w9 : w9.cell? ⟨w.heap.size, m, none⟩ = some (.float .f32 x) := by rw [Below.cell (w := wr) (hb9 : Blw wr.heap.size wr w9) lx]; assumption)))
          all_goals
            have c9 : ((w9.setCell ⟨B5, 0, none⟩ (.int .i64 (ar + tr))).setCell ⟨B5, 1, none⟩ (.int .i64 (ai + ti))).heap[B5]? = some (.cells #[.int .i64 (accR ks k (m + 1)), .int .i64 (accI ks k (m + 1))] 159 (0, 0)) := by
              rw [EA.out, EB.out]
              exact blk_set2 ((Below.block hb9 _ lc).trans HC.out) _ _
            have x9 : ((w9.setCell ⟨B5, 0, none⟩ (.int .i64 (ar + tr))).setCell ⟨B5, 1, none⟩ (.int .i64 (ai + ti))).heap[w.heap.size]? = some (.cells #[.float .f32 x0, .float .f32 x1, .float .f32 x2, .float .f32 x3] 92 (0, 0)) := by
              rw [Below.heap_setCell _ _ _ _ (by show w.heap.size ≠ B5; omega), Below.heap_setCell _ _ _ _ (by show w.heap.size ≠ B5; omega)]
              exact (Below.block hb9 _ (by omega)).trans HX2.out
            have y9 : ((w9.setCell ⟨B5, 0, none⟩ (.int .i64 (ar + tr))).setCell ⟨B5, 1, none⟩ (.int .i64 (ai + ti))).heap[w.heap.size + 1]? = some (.cells #[.complex .f32 0 0, .complex .f32 0 0, .complex .f32 0 0, .complex .f32 0 0] 95 (0, 0)) := by
              rw [Below.heap_setCell _ _ _ _ (by show w.heap.size + 1 ≠ B5; omega), Below.heap_setCell _ _ _ _ (by show w.heap.size + 1 ≠ B5; omega)]
              exact (Below.block hb9 _ (by omega)).trans HY2.out
            have o9 : ((w9.setCell ⟨B5, 0, none⟩ (.int .i64 (ar + tr))).setCell ⟨B5, 1, none⟩ (.int .i64 (ai + ti))).heap[w.heap.size + 2]? = some (.cells L.toArray 95 (0, 0)) := by
              rw [Below.heap_setCell _ _ _ _ (by show w.heap.size + 2 ≠ B5; omega), Below.heap_setCell _ _ _ _ (by show w.heap.size + 2 ≠ B5; omega)]
              exact (Below.block hb9 _ (by omega)).trans HO2.out
            have d9 : Below w.heap.size w ((w9.setCell ⟨B5, 0, none⟩ (.int .i64 (ar + tr))).setCell ⟨B5, 1, none⟩ (.int .i64 (ai + ti))) := ((HBR.out.trans (Below.mono hb9 HBR.out.size)).setCell (p := ⟨B5, 0, none⟩) (by show w.heap.size ≤ B5; omega) _).setCell (p := ⟨B5, 1, none⟩) (by show w.heap.size ≤ B5; omega) _
            have C9 := Lib.hid c9
            have X9 := Lib.hid x9
            have Y9 := Lib.hid y9
            have O9 := Lib.hid o9
            have D9 := Lib.hid d9
            clear c9 x9 y9 o9 d9
            go_wp2_with fail
            go_roundw
            case rel => exact ⟨m + 1, by omega, by go_num, C9.out, X9.out, Y9.out, O9.out, D9.out⟩
            case measure => simp [intOf]; omega
        · obtain rfl : m = 4 := by omega
          have sm := acc_small (fun j hj => (HXX.out j hj).2) k 4 (by omega)
          obtain ⟨c0, c1⟩ := cells2g hc
          have es := HPL.out.step hlt
          obtain ⟨va, vb, hat, -⟩ := HPL.out.2 k hlt
          have hlen := HPL.out.1
          have lo := lt_of_blk ho
          have o1 : wr.cell? ⟨w.heap.size + 2, k, none⟩ = some (.complex .f32 va vb) := by
            rw [cell_of_row _ _ k _ _ (0, 0) ho]
            simpa using hat
          have o2 : wr.frozen? ⟨w.heap.size + 2, k, none⟩ = false := by simp [World.frozen?, ho]
          obtain ⟨ar, har⟩ : ∃ ar, accR ks k 4 = ar := ⟨_, rfl⟩
          obtain ⟨ai, hai⟩ : ∃ ai, accI ks k 4 = ai := ⟨_, rfl⟩
          rw [har, hai] at es sm
          rw [har] at c0
          rw [hai] at c1
          have KR : Hid (∀ w1 : World, Calls Tryz.prog 45 #[.int .i64 ar] w1 fun e w' => e = .returned (.float .f32 (smpOf ar)) ∧ w1 = w') := Lib.hid fun w1 => refSample_any ar (Nat.lt_of_le_of_lt (show _ ≤ 65536 by omega) (by decide)) w1
          have KI : Hid (∀ w1 : World, Calls Tryz.prog 45 #[.int .i64 ai] w1 fun e w' => e = .returned (.float .f32 (smpOf ai)) ∧ w1 = w') := Lib.hid fun w1 => refSample_any ai (Nat.lt_of_le_of_lt (show _ ≤ 65536 by omega) (by decide)) w1
          have ES := Lib.hid es
          have HLEN := Lib.hid hlen
          clear sm es hat har hai hc hx hy ho hbr hlen
          go_upto_region 10 with fail
          have hne1 : B5 ≠ w.heap.size + 2 := by omega
          have hne2 : w.heap.size + 2 ≠ B5 := by omega
          have hne3 : B5 ≠ w.heap.size + 1 + 1 := by omega
          have hne4 : w.heap.size + 1 + 1 ≠ B5 := by omega
          go_region_held3 (fun w' => w'.cell? ⟨B5, 0, none⟩ = some (.int .i64 ar) ∧ w'.cell? ⟨B5, 1, none⟩ = some (.int .i64 ai))
            (first | (go_keep; done) | (go_split_ands; refine ⟨?_, ?_⟩ <;> first | (with_reducible assumption) | (simp [go_sem, *]; done)))
            (first
              | (go_at_call_of 45 (Value.int .i64 ar); refine (KR.out _).mono ?_; rintro e w6 ⟨rfl, rfl⟩)
              | (go_at_call_of 45 (Value.int .i64 ai); refine (KI.out _).mono ?_; rintro e w7 ⟨rfl, rfl⟩))
          all_goals
            have c9 : (wr.setCell ⟨w.heap.size + 2, k, none⟩ (.complex .f32 (smpOf ar) (smpOf ai))).heap[w.heap.size + 2]? = some (.cells (L.set k (.complex .f32 (smpOf ar) (smpOf ai))).toArray 95 (0, 0)) := blk_setL HO2.out _ (by rw [HLEN.out]; exact hlt)
            have x9 : (wr.setCell ⟨w.heap.size + 2, k, none⟩ (.complex .f32 (smpOf ar) (smpOf ai))).heap[w.heap.size]? = some (.cells #[.float .f32 x0, .float .f32 x1, .float .f32 x2, .float .f32 x3] 92 (0, 0)) := by
              rw [Below.heap_setCell _ _ _ _ (by show w.heap.size ≠ w.heap.size + 2; omega)]; exact HX2.out
            have y9 : (wr.setCell ⟨w.heap.size + 2, k, none⟩ (.complex .f32 (smpOf ar) (smpOf ai))).heap[w.heap.size + 1]? = some (.cells #[.complex .f32 0 0, .complex .f32 0 0, .complex .f32 0 0, .complex .f32 0 0] 95 (0, 0)) := by
              rw [Below.heap_setCell _ _ _ _ (by show w.heap.size + 1 ≠ w.heap.size + 2; omega)]; exact HY2.out
            have d9 : Below w.heap.size w (wr.setCell ⟨w.heap.size + 2, k, none⟩ (.complex .f32 (smpOf ar) (smpOf ai))) := HBR.out.setCell (p := ⟨w.heap.size + 2, k, none⟩) (by show w.heap.size ≤ w.heap.size + 2; omega) _
            have C9 := Lib.hid c9
            have X9 := Lib.hid x9
            have Y9 := Lib.hid y9
            have D9 := Lib.hid d9
            clear c9 x9 y9 d9
            go_wp2_with fail
            go_roundw
            case rel => first
              | exact ⟨k + 1, _, by omega, by go_num, X9.out, Y9.out, C9.out, ES.out, D9.out⟩
              | exact ⟨k + 1, _, by omega, by go_num, X9.out, Y9.out, C9.out, ES.out, D9.out.drew⟩
            case measure => simp [intOf]; omega
    · obtain rfl : k = 4 := by omega
      obtain rfl := hpl.done
      have e : panelL ks = [.complex .f32 (smpOf (accR ks 0 4)) (smpOf (accI ks 0 4)), .complex .f32 (smpOf (accR ks 1 4)) (smpOf (accI ks 1 4)), .complex .f32 (smpOf (accR ks 2 4)) (smpOf (accI ks 2 4)), .complex .f32 (smpOf (accR ks 3 4)) (smpOf (accI ks 3 4))] := rfl
      rw [e] at ho
      have EP := Lib.hid e
      have p0 : wr.cell? ⟨w.heap.size + 2, 0, none⟩ = some (.complex .f32 (smpOf (accR ks 0 4)) (smpOf (accI ks 0 4))) := by rw [cell_of_row _ _ 0 _ _ (0, 0) ho]; rfl
      have p1 : wr.cell? ⟨w.heap.size + 2, 1, none⟩ = some (.complex .f32 (smpOf (accR ks 1 4)) (smpOf (accI ks 1 4))) := by rw [cell_of_row _ _ 1 _ _ (0, 0) ho]; rfl
      have p2 : wr.cell? ⟨w.heap.size + 2, 2, none⟩ = some (.complex .f32 (smpOf (accR ks 2 4)) (smpOf (accI ks 2 4))) := by rw [cell_of_row _ _ 2 _ _ (0, 0) ho]; rfl
      have p3 : wr.cell? ⟨w.heap.size + 2, 3, none⟩ = some (.complex .f32 (smpOf (accR ks 3 4)) (smpOf (accI ks 3 4))) := by rw [cell_of_row _ _ 3 _ _ (0, 0) ho]; rfl
      have y0 : wr.cell? ⟨w.heap.size + 1, 0, none⟩ = some (.complex .f32 0 0) := by rw [cell_of_row _ _ 0 _ _ (0, 0) hy]; rfl
      have y1 : wr.cell? ⟨w.heap.size + 1, 1, none⟩ = some (.complex .f32 0 0) := by rw [cell_of_row _ _ 1 _ _ (0, 0) hy]; rfl
      have y2 : wr.cell? ⟨w.heap.size + 1, 2, none⟩ = some (.complex .f32 0 0) := by rw [cell_of_row _ _ 2 _ _ (0, 0) hy]; rfl
      have y3 : wr.cell? ⟨w.heap.size + 1, 3, none⟩ = some (.complex .f32 0 0) := by rw [cell_of_row _ _ 3 _ _ (0, 0) hy]; rfl
      have yf0 : wr.frozen? ⟨w.heap.size + 1, 0, none⟩ = false := by simp [World.frozen?, hy]
      have yf1 : wr.frozen? ⟨w.heap.size + 1, 1, none⟩ = false := by simp [World.frozen?, hy]
      have yf2 : wr.frozen? ⟨w.heap.size + 1, 2, none⟩ = false := by simp [World.frozen?, hy]
      have yf3 : wr.frozen? ⟨w.heap.size + 1, 3, none⟩ = false := by simp [World.frozen?, hy]
      clear e hx hy ho hpl hbr
      go_wp2_with fail
      (try simp only [Exit.inBlock, Exit.then])
      have hF := blk_set4u HY1.out (.complex .f32 (smpOf (accR ks 0 4)) (smpOf (accI ks 0 4))) (.complex .f32 (smpOf (accR ks 1 4)) (smpOf (accI ks 1 4))) (.complex .f32 (smpOf (accR ks 2 4)) (smpOf (accI ks 2 4))) (.complex .f32 (smpOf (accR ks 3 4)) (smpOf (accI ks 3 4)))
      refine bodyPost_ret (results_row1 rfl _ _ (w.heap.size + 1) 95 _ (0, 0) _ rfl hF Tryz.underlying95 rfl (by kernel_rfl)) rfl ?_
      rw [EP.out]
      exact ⟨rfl, (((HBR.out.setCell (p := ⟨w.heap.size + 1, 0, none⟩) (by show w.heap.size ≤ w.heap.size + 1; omega) _).setCell (p := ⟨w.heap.size + 1, 1, none⟩) (by show w.heap.size ≤ w.heap.size + 1; omega) _).setCell (p := ⟨w.heap.size + 1, 2, none⟩) (by show w.heap.size ≤ w.heap.size + 1; omega) _).setCell (p := ⟨w.heap.size + 1, 3, none⟩) (by show w.heap.size ≤ w.heap.size + 1; omega) _⟩
end Go.Proofs.YtfdkmmllemkogaaGreatDoor
