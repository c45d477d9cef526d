/-
  Texts: the reference's Parse of every text of a map.
-/
import Derived.Test.YtfdkmmllemkogaaGreatDoorOcSu
import Derived.Test.YtfdkmmllemkogaaGreatDoorOcSw
import Derived.Test.YtfdkmmllemkogaaGreatDoorOcBp
namespace Go.Proofs.YtfdkmmllemkogaaGreatDoor
open Go.RowKit
set_option linter.unusedVariables false
set_option linter.unusedSimpArgs false

theorem Tryz.infoIntsY : (Tryz.prog.info? 3).map (fun i => (i.zero, i.size, i.bytes)) = some (some (.int .i64 0), 1, 8) := by kernel_rfl
/-- The rows have the width so far. -/
def evenTo (L : List ByteArray) (k : Nat) : Prop := ∀ r ∈ (rowsR L).take (k - 1), (r.length : Int) = widR L
theorem out_set {w3 : World} {B : Nat} {x y a b : Int} {z : Value} (h : w3.heap[B]? = some (.cells #[.int .i64 x, .int .i64 y, z] 48 (0, 0))) :
    ((w3.setCell ⟨B, 0, none⟩ (.int .i64 a)).setCell ⟨B, 1, none⟩ (.int .i64 b)).heap[B]? = some (.cells #[.int .i64 a, .int .i64 b, z] 48 (0, 0)) := by
  simp only [World.setCell, Array.getElem?_modify, if_true, h, Option.map_some]
  simp
theorem out_grown (w3 : World) (B : Nat) (a b : Value) : w3.grownBy ((w3.setCell ⟨B, 0, none⟩ a).setCell ⟨B, 1, none⟩ b) (some B) := (grown_set w3 B 0 a).trans (grown_set _ B 1 b)
theorem boxed_row {w : World} {B e sz n k : Nat} {v : Value} {xs : List Value} {cs : Array Value} (h : w.ownsRow B e sz v n xs) (hk : w.heap[k]? = some (.cells cs 48 (0, 0))) (he : e = 3 := by rfl) : some k ≠ v.ownBlock :=
  own_apart h hk (fun cs' e' => by subst he; injection e' with _ e2; exact absurd e2 (by decide))
theorem asm_endR {w w2 : World} {x y z x' y' z' : Value} (hk : w2.heap[w.heap.size]? = some (.cells #[x, y, z] 48 (0, 0))) (hb : Below w.heap.size w w2) (o : Obj) :
    ((((w2.setCell ⟨w.heap.size, 0, none⟩ x').setCell ⟨w.heap.size, 1, none⟩ y').setCell ⟨w.heap.size, 2, none⟩ z').alloc o).heap[w.heap.size]? = some (.cells #[x', y', z'] 48 (0, 0)) ∧
    Below w.heap.size w ((((w2.setCell ⟨w.heap.size, 0, none⟩ x').setCell ⟨w.heap.size, 1, none⟩ y').setCell ⟨w.heap.size, 2, none⟩ z').alloc o) := by
  have r := blk_set3 hk x' y' z'
  have b := ((hb.setCell (p := ⟨w.heap.size, 0, none⟩) (Nat.le_refl _) x').setCell (p := ⟨w.heap.size, 1, none⟩) (Nat.le_refl _) y').setCell (p := ⟨w.heap.size, 2, none⟩) (Nat.le_refl _) z'
  have l := (Array.getElem?_eq_some_iff.1 r).1
  exact ⟨(Below.heap_alloc _ _ _ l).trans r, b.alloc (by omega) _⟩
theorem rowsR_at {L : List ByteArray} {k : Nat} {x : ByteArray} (hk : 1 ≤ k) (hx : L[k]? = some x) : (rowsR L)[k - 1]? = some (intsV (tailL x)) := by
  unfold rowsR
  rw [List.getElem?_map, List.getElem?_drop, show 1 + (k - 1) = k by omega, hx]; rfl
theorem rows_step {L : List ByteArray} {k : Nat} {x : ByteArray} (hk : 1 ≤ k) (hx : L[k]? = some x) : ((rowsR L).take k).flatten = ((rowsR L).take (k - 1)).flatten ++ intsV (tailL x) := by
  have h := flat_step (rowsR_at hk hx)
  rw [show k - 1 + 1 = k by omega] at h; exact h
theorem even_step {L : List ByteArray} {k : Nat} {x : ByteArray} (hk : 1 ≤ k) (hx : L[k]? = some x) : evenTo L (k + 1) ↔ evenTo L k ∧ ((tailL x).length : Int) = widR L := by
  unfold evenTo
  rw [show k + 1 - 1 = k - 1 + 1 by omega, List.take_add_one, rowsR_at hk hx]
  simp only [Option.toList_some, List.mem_append, List.mem_singleton]
  have hl : (intsV (tailL x)).length = (tailL x).length := by unfold intsV; rw [List.length_map]
  constructor
  · intro h
    exact ⟨fun r hr => h r (.inl hr), by rw [← hl]; exact h _ (.inr rfl)⟩
  · rintro ⟨h1, h2⟩ r (hr | hr)
    · exact h1 r hr
    · rw [hr, hl]; exact h2

theorem made_v (W H : Int) (all : Value) (B : Nat) (ls : List Int) (hm : ls.length ≤ 4096) (w : World) (ho : w.ownsRow B 3 1 all ls.length (ls.map (Value.int .i64))) :
    Calls Tryz.prog 141 #[.int .i64 W, .int .i64 H, all] w (ToMapV w W H ls) := by
  obtain ⟨a, c, rfl⟩ := owns_shape ho
  by_cases h : 1 ≤ ls.length
  · refine (made_all W H a ls.length c B ls rfl h hm w ho).mono ?_
    rintro e w' ⟨X, Y, a', n', c', rfl, hr, hb⟩
    refine ⟨X, Y, a', n', c', rfl, fun h0 => ?_, hb⟩
    rw [h0] at hr
    obtain ⟨h1, h2, h3, h4⟩ := hr.ok rfl
    exact ⟨h1, h2, h3.symm, hr.any, fun _ => hr⟩
  · have hl : ls = [] := List.eq_nil_of_length_eq_zero (by omega)
    subst hl
    have h := made_any W H a 0 c [] rfl (by omega) (fun j hj => by omega) w (fun j hj => by omega)
    refine h.mono ?_
    rintro e w' ⟨v, rfl, hv, hb⟩
    have hl0 : largeErr ([] : List Int).length [] = 0 := if_pos (fun j hj => by cases hj)
    rcases hv.2 with ⟨rfl, _⟩ | ⟨g, cap, cur, rfl, _⟩
    · exact ⟨W, H, none, 0, 0, by rw [hl0], fun _ => ⟨rfl, rfl, rfl, ⟨rfl, fun j hj => (by omega), .inl ⟨rfl, rfl, rfl⟩, fun j hj => (by omega)⟩, fun h => by cases h⟩, hb⟩
    · exact ⟨W, H, _, 0, cap, by rw [hl0], fun _ => ⟨rfl, rfl, rfl, ⟨rfl, fun j hj => (by omega), .inr ⟨_, rfl⟩, fun j hj => (by omega)⟩, fun h => by cases h⟩, hb⟩

set_option maxRecDepth 100000 in
set_option maxHeartbeats 12800000 in
theorem refParse_any (s : ByteArray) (w : World) (hs : s.size ≤ 4096) :
    Calls Tryz.prog 95 #[.string s] w (ParseV w (linesL s)) := by
  obtain ⟨i0, hi, hz0, hz1, hz2⟩ := info_parts Tryz.infoIntsY
  have KS : Hid (∀ W, Calls Tryz.prog 102 #[.string s, .int .u8 10] W fun e w' => ∃ u, e = .returned u ∧ w'.ownsRow W.heap.size 9 1 u (refL s).length ((refL s).map Value.string) ∧ Below W.heap.size W w') := Lib.hid fun W => refSplit_any s 10 W (by omega) (by decide) (by decide)
  have hsm : ∀ x ∈ refL s, x.size ≤ 4096 := fun x hx => Nat.le_trans (splitL_size hx) hs
  have KP : Hid (∀ (x : ByteArray) (j : Nat) (W : World), x.size ≤ 4096 → j ≤ 4096 → Calls Tryz.prog 192 #[.string x, .int .i64 j] W fun e w' => LinePost W j (splitL x 32) e w') := Lib.hid fun x j W h1 h2 => refParsed_any x j W (by omega) (by omega)
  have hlenR := refL_len s
  have hlenH := headP_len s
  have hbnd := rows_le s
  obtain ⟨m, hm⟩ : ∃ m, (headP s).length = m := ⟨_, rfl⟩
  rw [hm] at hlenR hlenH
  have HM := Lib.hid hm
  have HLR := Lib.hid hlenR
  have HSM := Lib.hid hsm
  obtain ⟨Wa, hWa⟩ : ∃ Wa, w.alloc (.cells #[.int .i64 0, .int .i64 0, .slice none 0 0] 48) = Wa := ⟨_, rfl⟩
  have hBa : Below w.heap.size w Wa := by rw [← hWa]; exact (Below.refl _ w).alloc (Nat.le_refl _) _
  have hka : Wa.heap[w.heap.size]? = some (.cells #[.int .i64 0, .int .i64 0, .slice none 0 0] 48 (0, 0)) := by rw [← hWa]; exact heap_alloc_new w _
  have HBA := Lib.hid hBa
  have HKA := Lib.hid hka
  have HWA := Lib.hid hWa
  rw [hlenR] at KS
  clear hlenR hm hsm hBa hka hWa
  go_enter Tryz.func95, Tryz.ntmps95
  go_wp2_with fail
  rw [HWA.out]
  refine (KS.out _).mono ?_
  rintro e w1 ⟨u, rfl, hu, hb1⟩
  obtain ⟨g, c, rfl, hg1, hg2⟩ := owns_some hu (by omega)
  have hlt0 : w.heap.size < Wa.heap.size := (Array.getElem?_eq_some_iff.1 HKA.out).1
  have hk1 := (hb1.block w.heap.size hlt0).trans HKA.out
  have hs1 := hb1.size
  have HU := Lib.hid hu
  have HB1 := Lib.hid hb1
  have HK1 := Lib.hid hk1
  clear hu hb1 hk1
  go_wp2
  obtain ⟨W2, hW2⟩ : ∃ W2, w1.alloc (.cells #[.int .i64 0, .int .i64 0, .slice none 0 0] 48) = W2 := ⟨_, rfl⟩
  have hko : W2.heap[w1.heap.size]? = some (.cells #[.int .i64 0, .int .i64 0, .slice none 0 0] 48 (0, 0)) := by rw [← hW2]; exact heap_alloc_new w1 _
  have hB2 : Below w1.heap.size w1 W2 := by rw [← hW2]; exact (Below.refl _ w1).alloc (Nat.le_refl _) _
  try rw [hW2]
  have HKO := Lib.hid hko
  have HB2 := Lib.hid hB2
  clear hW2 hko hB2
  obtain ⟨L, hL⟩ : ∃ L, linesL s = L := ⟨_, rfl⟩
  rw [hL] at hbnd ⊢
  have HL := Lib.hid hL
  clear hL
  go_loopw [8, 9, 10] (fun all ev i wr => ∃ (k : Nat) (b : Bool), k ≤ m ∧ i = .int .i64 k ∧ ev = .bool b ∧ Hid (okTo L k) ∧ Hid (b = true ↔ evenTo L k) ∧
      Hid (wr.heap[w1.heap.size]? = some (.cells #[.int .i64 (if k = 0 then 0 else widR L), .int .i64 (if k = 0 then 0 else heiR L), .slice none 0 0] 48 (0, 0))) ∧
      wr.ownsRow (w1.heap.size + 1) 3 1 all (((rowsR L).take (k - 1)).flatten).length ((((rowsR L).take (k - 1)).flatten).map (Value.int .i64)) ∧ Below w1.heap.size w1 wr)
    (fun _ _ i _ => m - (intOf i).toNat)
  case atStart =>
    exact ⟨0, true, Nat.zero_le _, rfl, rfl, Lib.hid (fun j x h => by omega), Lib.hid ⟨fun _ r hr => (by simp at hr), fun _ => rfl⟩, HKO, World.ownsRow_nil _ _ _ _, HB2.out⟩
  case round =>
    obtain ⟨k, b, hk, rfl, rfl, hok, hev, hob, hown, hnx⟩ := hrel
    have hsz := hnx.size
    have hkw : wr.heap[w.heap.size]? = some (.cells #[.int .i64 0, .int .i64 0, .slice none 0 0] 48 (0, 0)) := (hnx.block _ (Array.getElem?_eq_some_iff.1 HK1.out).1).trans HK1.out
    have lkw := (Array.getElem?_eq_some_iff.1 HK1.out).1
    have hbw : Below w.heap.size w wr := HBA.out.trans ((HB1.out.mono (by omega)).trans (hnx.mono (by omega)))
    have HBW := Lib.hid hbw
    have HKW := Lib.hid hkw
    clear hbw hkw
    by_cases hlt : k < m
    · obtain ⟨x, hx⟩ : ∃ x, (refL s)[k]? = some x := ⟨(refL s)[k]'(by rw [HLR.out]; omega), List.getElem?_eq_getElem _⟩
      have hy : L[k]? = some (lineOf x) := by rw [← HL.out]; exact refL_at (by rw [HM.out]; exact hlt) hx
      have hcell : wr.cell? ⟨g, k, none⟩ = some (.string x) := by
        rw [hnx.cell (by exact hg1)]
        exact owns_cell HU.out (by rw [List.getElem?_map, hx]; rfl)
      have K := Lib.hid (KP.out x k wr (HSM.out x (List.mem_of_getElem? hx)) (by omega))
      have hls := line_same k x
      have HIS := Lib.hid (ints_same x)
      have HLS := Lib.hid (len_same x)
      have HY := Lib.hid hy
      clear hx hy
      cases hb : okL k (lineOf x)
      · have HP := Lib.hid (show ParseR L (k : Int) 25 0 0 [] from .inl ⟨k, _, HY.out, hok.out, hb, rfl, rfl⟩)
        rw [hb] at hls
        have hnp : ¬ lineP k (splitL x 32) := fun h => by rw [lineB_yes h] at hls; cases hls
        have HNP := Lib.hid hnp
        have HLB := Lib.hid hls
        clear hls hnp hb hown
        go_wp2_with fail
        refine K.out.mono ?_
        rintro e w3 ⟨u, rfl, -, hu0, hb3⟩
        rw [hu0 HNP.out, HLB.out]
        have hk3 := (hb3.block _ (Array.getElem?_eq_some_iff.1 HKW.out).1).trans HKW.out
        have HBF := Lib.hid (HBW.out.trans (hb3.mono (by omega)))
        have t0 : w3.cell? ⟨w.heap.size, 0, none⟩ = some (.int .i64 0) := by rw [cell_of_row w3 _ 0 _ _ (0, 0) hk3]; rfl
        have t1 : w3.cell? ⟨w.heap.size, 1, none⟩ = some (.int .i64 0) := by rw [cell_of_row w3 _ 1 _ _ (0, 0) hk3]; rfl
        have t2 : w3.cell? ⟨w.heap.size, 2, none⟩ = some (.slice none 0 0) := by rw [cell_of_row w3 _ 2 _ _ (0, 0) hk3]; rfl
        have f0 : w3.frozen? ⟨w.heap.size, 0, none⟩ = false := frozen_of_row w3 _ 0 _ _ hk3
        have f1 : w3.frozen? ⟨w.heap.size, 1, none⟩ = false := frozen_of_row w3 _ 1 _ _ hk3
        have f2 : w3.frozen? ⟨w.heap.size, 2, none⟩ = false := frozen_of_row w3 _ 2 _ _ hk3
        have HK3 := Lib.hid hk3
        clear hu0 hb3 hk3
        go_wp2
        have rF := blk_set3 HK3.out (.int .i64 0) (.int .i64 0) (.slice none 0 0)
        have bF := below_set3 HBF.out (Nat.le_refl _) (.int .i64 0) (.int .i64 0) (.slice none 0 0)
        exact bodyPost_ret (v := .tuple #[.agg #[.int .i64 0, .int .i64 0, .slice none 0 0], .int .i64 k, .int .i64 25]) (results_row_tmp2 Tryz.results95 _ _ w.heap.size 48 _ (0, 0) _ rfl rF Tryz.underlying48 rfl (by kernel_rfl)) rfl (by first | exact parse_bad HP.out (by decide) bF | (rw [HL.out]; exact parse_bad HP.out (by decide) bF))
      · have HOKY := Lib.hid hb
        rw [hb] at hls
        have hlp : lineP k (splitL x 32) := Classical.byContradiction fun h => by rw [lineB_no h] at hls; cases hls
        have HLP := Lib.hid hlp
        have HLB := Lib.hid hls
        have HOK1 := Lib.hid (show okTo L (k + 1) from fun j z hj hz => by
          by_cases e : j = k
          · subst e; have := HY.out; rw [this] at hz; cases hz; exact hb
          · exact hok.out j z (by omega) hz)
        clear hls hlp hb
        by_cases hk0 : k = 0
        · have ek : ((k : Int) == 0) = true := by simp [hk0]
          have hl2 : (tailL (lineOf x)).length = 2 := fits_zero (by have := okL_fits HOKY.out; rwa [hk0] at this)
          have hy0 : L[0]? = some (lineOf x) := by have := HY.out; rwa [hk0] at this
          have hli : (intsV (tailL (lineOf x))).length = 2 := by unfold intsV; rw [List.length_map]; exact hl2
          have hw : (intsV (tailL (lineOf x)))[0]? = some (widR L) := by
            unfold widR; rw [hy0]; show _ = some ((intsV (tailL (lineOf x)))[0]?.getD 0); rw [List.getElem?_eq_getElem (by omega)]; rfl
          have hh : (intsV (tailL (lineOf x)))[1]? = some (heiR L) := by
            unfold heiR; rw [hy0]; show _ = some ((intsV (tailL (lineOf x)))[1]?.getD 0); rw [List.getElem?_eq_getElem (by omega)]; rfl
          have HW := Lib.hid hw
          have HH := Lib.hid hh
          have HL2 := Lib.hid hl2
          have HK0 := Lib.hid hk0
          have hob0 := hob.out
          rw [if_pos hk0, if_pos hk0] at hob0
          have HOB0 := Lib.hid hob0
          clear hl2 hy0 hli hw hh hk0 hob0
          obtain ⟨a, ha⟩ : ∃ a, widR L = a := ⟨_, rfl⟩
          obtain ⟨b', hb'⟩ : ∃ b', heiR L = b' := ⟨_, rfl⟩
          rw [ha] at HW
          rw [hb'] at HH
          have HAB := Lib.hid (And.intro ha hb')
          clear ha hb'
          go_wp2_with fail
          refine K.out.mono ?_
          rintro e w3 ⟨u, rfl, hu1, -, hb3⟩
          rw [HLB.out]
          have ho := hu1 HLP.out
          rw [HLS.out, HIS.out, HL2.out] at ho
          obtain ⟨g0, c0, rfl, hg0, hg1'⟩ := owns_some ho (by omega)
          have l0 : w3.cell? ⟨g0, 0, none⟩ = some (.int .i64 a) := owns_cell ho (by rw [List.getElem?_map, HW.out]; rfl)
          have l1 : w3.cell? ⟨g0, 1, none⟩ = some (.int .i64 b') := owns_cell ho (by rw [List.getElem?_map, HH.out]; rfl)
          have lob := (Array.getElem?_eq_some_iff.1 HOB0.out).1
          have ho3 := (hb3.block _ lob).trans HOB0.out
          have o0 : w3.cell? ⟨w1.heap.size, 0, none⟩ = some (.int .i64 0) := by rw [cell_of_row w3 _ 0 _ _ (0, 0) ho3]; rfl
          have o1 : w3.cell? ⟨w1.heap.size, 1, none⟩ = some (.int .i64 0) := by rw [cell_of_row w3 _ 1 _ _ (0, 0) ho3]; rfl
          have p0 : w3.frozen? ⟨w1.heap.size, 0, none⟩ = false := frozen_of_row w3 _ 0 _ _ ho3
          have p1 : w3.frozen? ⟨w1.heap.size, 1, none⟩ = false := frozen_of_row w3 _ 1 _ _ ho3
          have hown3 := owns_on hown hb3
          have HO3 := Lib.hid ho3
          have hnx3 : Below w1.heap.size w1 w3 := hnx.trans (hb3.mono (by omega))
          have HNX3 := Lib.hid hnx3
          have HOWN3 := Lib.hid hown3
          have ne1 : ¬ (w1.heap.size = g0) := by omega
          have ne2 : ¬ (g0 = w1.heap.size) := by omega
          clear hu1 ho ho3 hown3 hnx3 hb3 hown
          go_wp2_with fail
          go_region_held3 (fun w' => w'.cell? ⟨g0, 0, none⟩ = some (.int .i64 a) ∧ w'.cell? ⟨g0, 1, none⟩ = some (.int .i64 b')) (go_keep) (fail)
          go_wp2
          go_roundw
          case rel =>
            have hg := out_grown w3 w1.heap.size (.int .i64 a) (.int .i64 b')
            have ho := HOWN3.out.kept hg (by
              cases hq : u8.ownBlock with
              | none => exact .inl rfl
              | some q => exact .inr (fun e => by have h1 := (HOWN3.out.lt q hq).1; have := Option.some.inj e; omega))
            have hbf : Below w1.heap.size w1 ((w3.setCell ⟨w1.heap.size, 0, none⟩ (.int .i64 a)).setCell ⟨w1.heap.size, 1, none⟩ (.int .i64 b')) := (HNX3.out.setCell (p := ⟨w1.heap.size, 0, none⟩) (Nat.le_refl _) _).setCell (p := ⟨w1.heap.size, 1, none⟩) (Nat.le_refl _) _
            have hev2 := hev.out
            rw [HK0.out] at hev2 ho
            refine ⟨k + 1, b, by omega, by go_num, rfl, HOK1, Lib.hid (by rw [HK0.out]; exact hev2), Lib.hid ?_, by rw [HK0.out]; exact ho, by first | exact hbf | exact hbf.drew⟩
            rw [if_neg (by omega), if_neg (by omega), HAB.out.1, HAB.out.2]
            exact out_set HO3.out
          case measure => first | (simp [intOf]; done) | (simp [intOf]; omega)
        · have hk1 : 1 ≤ k := by omega
          have ek : ((k : Int) == 0) = false := by simp; omega
          have hob0 := hob.out
          rw [if_neg hk0, if_neg hk0] at hob0
          have HOB0 := Lib.hid hob0
          have hft := fits_pos (j := k - 1) (by have := okL_fits HOKY.out; rwa [show k - 1 + 1 = k by omega])
          have HST := Lib.hid (rows_step hk1 HY.out)
          have HES := Lib.hid (even_step hk1 HY.out)
          have hbt : (((rowsR L).take k).flatten).length ≤ (rowsR L).flatten.length := flat_le _ _
          have hbt2 := hbt
          rw [HST.out, List.length_append] at hbt2
          have hil : (intsV (tailL (lineOf x))).length = (tailL (lineOf x)).length := by unfold intsV; rw [List.length_map]
          rw [hil] at hbt2
          obtain ⟨F, hF⟩ : ∃ F, ((rowsR L).take (k - 1)).flatten = F := ⟨_, rfl⟩
          rw [hF] at hown hbt2 HST
          obtain ⟨t, ht⟩ : ∃ t, (tailL (lineOf x)).length = t := ⟨_, rfl⟩
          obtain ⟨V, hV⟩ : ∃ V, intsV (tailL (lineOf x)) = V := ⟨_, rfl⟩
          rw [ht] at hft hbt2 HLS HES hil
          rw [hV] at HST HIS hil
          have HVL := Lib.hid hil
          clear hob0 hk0 hbt hF ht hV hil
          obtain ⟨a, ha⟩ : ∃ a, widR L = a := ⟨_, rfl⟩
          obtain ⟨b', hb'⟩ : ∃ b', heiR L = b' := ⟨_, rfl⟩
          rw [ha, hb'] at HOB0
          rw [ha] at HES
          have HAB := Lib.hid (And.intro ha hb')
          clear ha hb'
          have hcase : ∃ b2 : Bool, (b2 = true ↔ evenTo L (k + 1)) ∧ ((b = true ∧ ((t : Int) == a) = b2) ∨ (b = false ∧ b2 = false)) := by
            cases hb2 : b
            · exact ⟨false, ⟨(fun h => by cases h), fun h => by have := hev.out.2 (HES.out.1 h).1; rw [hb2] at this; cases this⟩, .inr ⟨rfl, rfl⟩⟩
            · refine ⟨((t : Int) == a), ⟨fun h => HES.out.2 ⟨hev.out.1 hb2, by simpa using h⟩, fun h => by simpa using (HES.out.1 h).2⟩, .inl ⟨rfl, rfl⟩⟩
          obtain ⟨b2, hb2, hbc⟩ := hcase
          have HEV2 := Lib.hid hb2
          clear hb2
          rcases hbc with ⟨rfl, ebt⟩ | ⟨rfl, rfl⟩
          all_goals
            go_wp2_with fail
            refine K.out.mono ?_
            rintro e w3 ⟨u, rfl, hu1, -, hb3⟩
            rw [HLB.out]
            have ho := hu1 HLP.out
            rw [HLS.out, HIS.out] at ho
            obtain ⟨g0, c0, rfl, hg0, hg1'⟩ := owns_some ho (by omega)
            have lob := (Array.getElem?_eq_some_iff.1 HOB0.out).1
            have ho3 := (hb3.block _ lob).trans HOB0.out
            have o0 : w3.cell? ⟨w1.heap.size, 0, none⟩ = some (.int .i64 a) := by rw [cell_of_row w3 _ 0 _ _ (0, 0) ho3]; rfl
            have hown3 := owns_on hown hb3
            have HO3 := Lib.hid ho3
            have hnx3 : Below w1.heap.size w1 w3 := hnx.trans (hb3.mono (by omega))
            have HNX3 := Lib.hid hnx3
            have HOX := Lib.hid (fun (j : Nat) (v : Value) (h : (V.map (Value.int .i64))[j]? = some v) => owns_cell ho h)
            have hs3 : w1.heap.size + 1 ≤ w3.heap.size := by omega
            clear hu1 ho ho3 hnx3 hb3 hown
            go_wp2_with (at_builtin; refine wpList_append_own _ rfl (.tmp 61) (.tmp 62) 25 rfl (w1.heap.size + 1) 3 i0 (.int .i64 0) 1 8 Tryz.underlying25 hi hz0 hz1 hz2 rfl (by decide) _ F.length _ rfl hown3 ⟨g0, 0, none⟩ t c0 (V.map (Value.int .i64)) rfl (by rw [List.length_map, HVL.out, Nat.mul_one]) (fun j v h => by
              have hadd : (⟨g0, 0, none⟩ : Addr).add j = ⟨g0, j, none⟩ := by unfold Addr.add; split <;> simp_all
              rw [hadd]; exact HOX.out j v h) (by intro u hu; obtain ⟨x, _, rfl⟩ := List.mem_map.1 hu; rfl) (by unfold maxLen; omega) (by omega) (by omega) ?_; intro v' w4 hown4 hgrow4 _)
            go_roundw
            case rel =>
              have hl : (((rowsR L).take (k + 1 - 1)).flatten).length = F.length + t := by rw [show k + 1 - 1 = k by omega, HST.out, List.length_append, HVL.out]
              have hm : (((rowsR L).take (k + 1 - 1)).flatten).map (Value.int .i64) = F.map (Value.int .i64) ++ V.map (Value.int .i64) := by rw [show k + 1 - 1 = k by omega, HST.out, List.map_append]
              refine ⟨k + 1, _, by omega, by go_num, rfl, HOK1, HEV2, Lib.hid ?_, by rw [hl, hm]; exact hown4, HNX3.out.grown hgrow4 (by omega) (fun p hp => by have := (hown3.lt p hp).1; omega)⟩
              rw [if_neg (by omega), if_neg (by omega), HAB.out.1, HAB.out.2]
              exact (hgrow4.block _ (by omega) (boxed_row hown3 HO3.out)).trans HO3.out
            case measure => first | (simp [intOf]; done) | (simp [intOf]; omega)
    · obtain rfl : m = k := by omega
      have hcell : wr.cell? ⟨g, m, none⟩ = some (.string (strB (lastP s))) := by
        rw [hnx.cell (by exact hg1)]
        obtain ⟨x, hx⟩ : ∃ x, (refL s)[m]? = some x := ⟨(refL s)[m]'(by rw [HLR.out]; omega), List.getElem?_eq_getElem _⟩
        have hxl : x = strB (lastP s) := by
          have h := HM.out
          rw [← h] at hx
          exact refL_last hx
        exact owns_cell HU.out (by rw [List.getElem?_map, hx, hxl]; rfl)
      have hemp := empty_list (strB (lastP s))
      rw [strB_size] at hemp
      have t0 : wr.cell? ⟨w.heap.size, 0, none⟩ = some (.int .i64 0) := by rw [cell_of_row wr _ 0 _ _ (0, 0) HKW.out]; rfl
      have t1 : wr.cell? ⟨w.heap.size, 1, none⟩ = some (.int .i64 0) := by rw [cell_of_row wr _ 1 _ _ (0, 0) HKW.out]; rfl
      have t2 : wr.cell? ⟨w.heap.size, 2, none⟩ = some (.slice none 0 0) := by rw [cell_of_row wr _ 2 _ _ (0, 0) HKW.out]; rfl
      have f0 : wr.frozen? ⟨w.heap.size, 0, none⟩ = false := frozen_of_row wr _ 0 _ _ HKW.out
      have f1 : wr.frozen? ⟨w.heap.size, 1, none⟩ = false := frozen_of_row wr _ 1 _ _ HKW.out
      have f2 : wr.frozen? ⟨w.heap.size, 2, none⟩ = false := frozen_of_row wr _ 2 _ _ HKW.out
      by_cases hle : lastP s = []
      · have he : (strB (lastP s)).toList.isEmpty = true := by rw [hle] at hemp ⊢; simpa using hemp
        have hLl : L.length = m := by rw [← HL.out, linesL_full hle, HM.out]
        have HLL := Lib.hid hLl
        obtain ⟨q, hq⟩ : ∃ q, strB (lastP s) = q := ⟨_, rfl⟩
        rw [hq] at hcell he
        clear hemp hle hq hLl
        by_cases hm0 : m = 0
        · have HP := Lib.hid (show ParseR L (m : Int) 25 0 0 [] from .inr (.inl ⟨HLL.out.trans hm0, by rw [hm0]; rfl, rfl⟩))
          have em : ((m : Int) == 0) = true := by simp [hm0]
          clear hm0
          go_wp2
          have rF := blk_set3 HKW.out (.int .i64 0) (.int .i64 0) (.slice none 0 0)
          have bF := below_set3 HBW.out (Nat.le_refl _) (.int .i64 0) (.int .i64 0) (.slice none 0 0)
          exact bodyPost_ret (v := .tuple #[.agg #[.int .i64 0, .int .i64 0, .slice none 0 0], .int .i64 m, .int .i64 25]) (results_row_tmp2 Tryz.results95 _ _ w.heap.size 48 _ (0, 0) _ rfl rF Tryz.underlying48 rfl (by kernel_rfl)) rfl (by first | exact parse_bad HP.out (by decide) bF | (rw [HL.out]; exact parse_bad HP.out (by decide) bF))
        · have em : ((m : Int) == 0) = false := by simp [hm0]
          have hob0 := hob.out
          rw [if_neg hm0, if_neg hm0] at hob0
          obtain ⟨a, ha⟩ : ∃ a, widR L = a := ⟨_, rfl⟩
          obtain ⟨b', hb'⟩ : ∃ b', heiR L = b' := ⟨_, rfl⟩
          rw [ha, hb'] at hob0
          obtain ⟨er, her⟩ : ∃ er, asmErr a b' (rowsR L) = er := ⟨_, rfl⟩
          have hpr : ParseR L (if er = 0 then 0 else (m : Int)) er a b' (rowsR L).flatten := by
            have he : asmErr (widR L) (heiR L) (rowsR L) = er := by rw [ha, hb']; exact her
            exact .inr (.inr ⟨by have := HLL.out; omega, by rw [HLL.out]; exact hok.out, ha.symm, hb'.symm, rfl, he.symm, by rw [he, HLL.out]⟩)
          have HPR := Lib.hid hpr
          have hrl : (rowsR L).length = m - 1 := by unfold rowsR; rw [List.length_map, List.length_drop, HLL.out]
          have hev2 : b = true ↔ ∀ r ∈ rowsR L, (r.length : Int) = a := by
            have h := hev.out
            unfold evenTo at h
            rw [List.take_of_length_le (by omega), ha] at h
            exact h
          have o0 : wr.cell? ⟨w1.heap.size, 0, none⟩ = some (.int .i64 a) := by rw [cell_of_row wr _ 0 _ _ (0, 0) hob0]; rfl
          have o1 : wr.cell? ⟨w1.heap.size, 1, none⟩ = some (.int .i64 b') := by rw [cell_of_row wr _ 1 _ _ (0, 0) hob0]; rfl
          rw [List.take_of_length_le (l := rowsR L) (i := m - 1) (by omega)] at hown
          have KM := Lib.hid (made_v a b' _ (w1.heap.size + 1) (rowsR L).flatten (by omega) wr hown)
          have hm63 : (m : Int) - 1 = ((m - 1 : Nat) : Int) := by omega
          have HER := Lib.hid her
          have HRL := Lib.hid hrl
          clear hob0 ha hb' hpr hrl hown
          have hcase : (b = false ∧ er = 2) ∨ (b = true ∧ (b' != ((m : Int) - 1)) = true ∧ er = 2) ∨ (b = true ∧ (b' != ((m : Int) - 1)) = false ∧ er = cellErr a b' (rowsR L).flatten) := by
            have h := HER.out
            unfold asmErr at h
            cases hb : b
            · refine .inl ⟨rfl, ?_⟩
              rw [if_neg (fun hh => by have := hev2.2 hh.2; rw [hb] at this; cases this)] at h
              exact h.symm
            · by_cases hq : b' = (m : Int) - 1
              · refine .inr (.inr ⟨rfl, by simp [hq], ?_⟩)
                rw [if_pos ⟨by rw [HRL.out, hq, hm63], hev2.1 hb⟩] at h
                exact h.symm
              · refine .inr (.inl ⟨rfl, by simp [hq], ?_⟩)
                rw [if_neg (fun hh => by have := hh.1; rw [HRL.out] at this; omega)] at h
                exact h.symm
          clear hm63 hev2 hm0
          rcases hcase with ⟨rfl, rfl⟩ | ⟨rfl, eb, rfl⟩ | ⟨rfl, eb, he2⟩
          · go_wp2
            have hp0 := HPR.out
            rw [if_neg (by decide)] at hp0
            have rF := blk_set3 HKW.out (.int .i64 0) (.int .i64 0) (.slice none 0 0)
            have bF := below_set3 HBW.out (Nat.le_refl _) (.int .i64 0) (.int .i64 0) (.slice none 0 0)
            exact bodyPost_ret (v := .tuple #[.agg #[.int .i64 0, .int .i64 0, .slice none 0 0], .int .i64 m, .int .i64 2]) (results_row_tmp2 Tryz.results95 _ _ w.heap.size 48 _ (0, 0) _ rfl rF Tryz.underlying48 rfl (by kernel_rfl)) rfl (by first | exact ⟨0, 0, none, 0, 0, m, 2, a, b', _, rfl, hp0, ResV.none _ _ _ _ _ (by decide), bF⟩ | (rw [HL.out]; exact ⟨0, 0, none, 0, 0, m, 2, a, b', _, rfl, hp0, ResV.none _ _ _ _ _ (by decide), bF⟩))
          · go_wp2
            have hp0 := HPR.out
            rw [if_neg (by decide)] at hp0
            have rF := blk_set3 HKW.out (.int .i64 0) (.int .i64 0) (.slice none 0 0)
            have bF := below_set3 HBW.out (Nat.le_refl _) (.int .i64 0) (.int .i64 0) (.slice none 0 0)
            exact bodyPost_ret (v := .tuple #[.agg #[.int .i64 0, .int .i64 0, .slice none 0 0], .int .i64 m, .int .i64 2]) (results_row_tmp2 Tryz.results95 _ _ w.heap.size 48 _ (0, 0) _ rfl rF Tryz.underlying48 rfl (by kernel_rfl)) rfl (by first | exact ⟨0, 0, none, 0, 0, m, 2, a, b', _, rfl, hp0, ResV.none _ _ _ _ _ (by decide), bF⟩ | (rw [HL.out]; exact ⟨0, 0, none, 0, 0, m, 2, a, b', _, rfl, hp0, ResV.none _ _ _ _ _ (by decide), bF⟩))
          · have HE2 := Lib.hid he2
            clear he2
            obtain ⟨qq, hq⟩ : ∃ q, largeErr (rowsR L).flatten.length (rowsR L).flatten = q := ⟨_, rfl⟩
            obtain ⟨mm, hmm⟩ : ∃ q, mapErr a b' (rowsR L).flatten.length ((rowsR L).flatten.map smpOf) = q := ⟨_, rfl⟩
            have he := HE2.out
            unfold cellErr at he
            rw [hq, hmm] at he
            have HQ := Lib.hid hq
            have HMM := Lib.hid hmm
            have HM1 := Lib.hid (show mm = 0 → 1 ≤ (rowsR L).flatten.length from fun h0 => mapErr_pos (by rw [List.length_map]) (hmm.trans h0))
            clear hq hmm
            have hcase : (qq = 0 ∧ mm = 0 ∧ er = 0) ∨ (qq = 0 ∧ mm ≠ 0 ∧ er = mm) ∨ (qq ≠ 0 ∧ er = qq) := by
              by_cases h0 : qq = 0
              · rw [if_pos h0] at he
                by_cases h1 : mm = 0
                · exact .inl ⟨h0, h1, by rw [he, h1]⟩
                · exact .inr (.inl ⟨h0, h1, he⟩)
              · rw [if_neg h0] at he
                exact .inr (.inr ⟨h0, he⟩)
            clear he
            rcases hcase with ⟨rfl, rfl, rfl⟩ | ⟨rfl, h1, rfl⟩ | ⟨h0, rfl⟩
            · have H1 := Lib.hid (HM1.out rfl)
              go_wp2_with fail
              refine KM.out.mono ?_
              rintro e w2 ⟨X, Y, a2, n2, c2, rfl, hok2, hb2⟩
              obtain ⟨hX, hY, hn2', hany, hres⟩ := hok2 HQ.out
              subst hX
              subst hY
              have HRES := Lib.hid (hres H1.out)
              rw [HQ.out]
              have hk2 := (hb2.block _ (Array.getElem?_eq_some_iff.1 HKW.out).1).trans HKW.out
              have HBF := Lib.hid (HBW.out.trans (hb2.mono (by omega)))
              clear t0 t1 t2 f0 f1 f2
              have t0 : w2.cell? ⟨w.heap.size, 0, none⟩ = some (.int .i64 0) := by rw [cell_of_row w2 _ 0 _ _ (0, 0) hk2]; rfl
              have t1 : w2.cell? ⟨w.heap.size, 1, none⟩ = some (.int .i64 0) := by rw [cell_of_row w2 _ 1 _ _ (0, 0) hk2]; rfl
              have t2 : w2.cell? ⟨w.heap.size, 2, none⟩ = some (.slice none 0 0) := by rw [cell_of_row w2 _ 2 _ _ (0, 0) hk2]; rfl
              have f0 : w2.frozen? ⟨w.heap.size, 0, none⟩ = false := frozen_of_row w2 _ 0 _ _ hk2
              have f1 : w2.frozen? ⟨w.heap.size, 1, none⟩ = false := frozen_of_row w2 _ 1 _ _ hk2
              have f2 : w2.frozen? ⟨w.heap.size, 2, none⟩ = false := frozen_of_row w2 _ 2 _ _ hk2
              have hs2 : w.heap.size < w2.heap.size := (Array.getElem?_eq_some_iff.1 hk2).1
              have HK2 := Lib.hid hk2
              clear hk2 hb2 hok2
              have KK : Hid (∀ w3, Below w2.heap.size w2 w3 → Calls Tryz.prog 41 #[.agg #[.int .i64 X, .int .i64 Y, .slice a2 n2 c2]] w3 fun e w' => e = .returned (.int .i64 0) ∧ Below w3.heap.size w3 w') := Lib.hid fun w3 hb3 => by
                have h := refCheckMap_map X Y a2 n2 c2 _ w3 (hany.below hb3 (Nat.le_refl _))
                have hh := HMM.out
                rw [← hn2'] at hh
                rw [hh] at h
                exact h
              clear hn2' hany hres
              go_wp2_with fail
              refine (KK.out _ ((Below.refl _ w2).alloc (Nat.le_refl _) _)).mono ?_
              rintro e w3 ⟨rfl, hb3⟩
              have hk3 : w3.heap[w.heap.size]? = some (.cells #[.int .i64 0, .int .i64 0, .slice none 0 0] 48 (0, 0)) := by
                have e1 := (Below.heap_alloc w2 (.cells #[.int .i64 X, .int .i64 Y, .slice a2 n2 c2] 48) w.heap.size hs2).trans HK2.out
                exact (hb3.block w.heap.size (Array.getElem?_eq_some_iff.1 e1).1).trans e1
              have hm3 : w3.heap[w2.heap.size]? = some (.cells #[.int .i64 X, .int .i64 Y, .slice a2 n2 c2] 48 (0, 0)) := (hb3.block _ (by simp)).trans (heap_alloc_new w2 _)
              have HBF3 := Lib.hid ((HBF.out.alloc (by omega) _).trans (hb3.mono (by simp; omega)))
              have HB23 : Hid (Below w2.heap.size w2 w3) := Lib.hid (((Below.refl _ w2).alloc (Nat.le_refl _) _).trans (hb3.mono (by simp)))
              clear t0 t1 t2 f0 f1 f2 hb3
              have t0 : w3.cell? ⟨w.heap.size, 0, none⟩ = some (.int .i64 0) := by rw [cell_of_row w3 _ 0 _ _ (0, 0) hk3]; rfl
              have t1 : w3.cell? ⟨w.heap.size, 1, none⟩ = some (.int .i64 0) := by rw [cell_of_row w3 _ 1 _ _ (0, 0) hk3]; rfl
              have t2 : w3.cell? ⟨w.heap.size, 2, none⟩ = some (.slice none 0 0) := by rw [cell_of_row w3 _ 2 _ _ (0, 0) hk3]; rfl
              have f0 : w3.frozen? ⟨w.heap.size, 0, none⟩ = false := frozen_of_row w3 _ 0 _ _ hk3
              have f1 : w3.frozen? ⟨w.heap.size, 1, none⟩ = false := frozen_of_row w3 _ 1 _ _ hk3
              have f2 : w3.frozen? ⟨w.heap.size, 2, none⟩ = false := frozen_of_row w3 _ 2 _ _ hk3
              have r0 : w3.cell? ⟨w2.heap.size, 0, none⟩ = some (.int .i64 X) := by rw [cell_of_row w3 _ 0 _ _ (0, 0) hm3]; rfl
              have r1 : w3.cell? ⟨w2.heap.size, 1, none⟩ = some (.int .i64 Y) := by rw [cell_of_row w3 _ 1 _ _ (0, 0) hm3]; rfl
              have r2 : w3.cell? ⟨w2.heap.size, 2, none⟩ = some (.slice a2 n2 c2) := by rw [cell_of_row w3 _ 2 _ _ (0, 0) hm3]; rfl
              have HK3 := Lib.hid hk3
              clear hk3 hm3
              go_wp2
              have rR := ResV.stored HK3.out (OneBlk.set3 _ _ (.int .i64 X) (.int .i64 Y) (.slice a2 n2 c2)) (HRES.out.kept HB23.out)
              have hp0 := HPR.out
              first | rw [if_pos rfl] at hp0 | rw [if_pos trivial] at hp0
              have rF := blk_set3 HK3.out (.int .i64 X) (.int .i64 Y) (.slice a2 n2 c2)
              have bF := below_set3 HBF3.out (Nat.le_refl _) (.int .i64 X) (.int .i64 Y) (.slice a2 n2 c2)
              exact bodyPost_ret (v := .tuple #[.agg #[.int .i64 X, .int .i64 Y, .slice a2 n2 c2], .int .i64 0, .int .i64 0]) (results_row_tmp2 Tryz.results95 _ _ w.heap.size 48 _ (0, 0) _ rfl rF Tryz.underlying48 rfl (by kernel_rfl)) rfl (by first | exact ⟨X, Y, a2, n2, c2, 0, 0, X, Y, _, rfl, hp0, rR, bF⟩ | (rw [HL.out]; exact ⟨X, Y, a2, n2, c2, 0, 0, X, Y, _, rfl, hp0, rR, bF⟩))
            · have ev : (er == 0) = false := by simp [h1]
              have ev2 : (er != 0) = true := by simp [h1]
              have H0 := Lib.hid h1
              clear h1
              go_wp2_with fail
              refine KM.out.mono ?_
              rintro e w2 ⟨X, Y, a2, n2, c2, rfl, hok2, hb2⟩
              obtain ⟨hX, hY, hn2', hany, -⟩ := hok2 HQ.out
              subst hX
              subst hY
              rw [HQ.out]
              have hk2 := (hb2.block _ (Array.getElem?_eq_some_iff.1 HKW.out).1).trans HKW.out
              have HBF := Lib.hid (HBW.out.trans (hb2.mono (by omega)))
              clear t0 t1 t2 f0 f1 f2
              have t0 : w2.cell? ⟨w.heap.size, 0, none⟩ = some (.int .i64 0) := by rw [cell_of_row w2 _ 0 _ _ (0, 0) hk2]; rfl
              have t1 : w2.cell? ⟨w.heap.size, 1, none⟩ = some (.int .i64 0) := by rw [cell_of_row w2 _ 1 _ _ (0, 0) hk2]; rfl
              have t2 : w2.cell? ⟨w.heap.size, 2, none⟩ = some (.slice none 0 0) := by rw [cell_of_row w2 _ 2 _ _ (0, 0) hk2]; rfl
              have f0 : w2.frozen? ⟨w.heap.size, 0, none⟩ = false := frozen_of_row w2 _ 0 _ _ hk2
              have f1 : w2.frozen? ⟨w.heap.size, 1, none⟩ = false := frozen_of_row w2 _ 1 _ _ hk2
              have f2 : w2.frozen? ⟨w.heap.size, 2, none⟩ = false := frozen_of_row w2 _ 2 _ _ hk2
              have hs2 : w.heap.size < w2.heap.size := (Array.getElem?_eq_some_iff.1 hk2).1
              have HK2 := Lib.hid hk2
              clear hk2 hb2 hok2
              have KK : Hid (∀ w3, Below w2.heap.size w2 w3 → Calls Tryz.prog 41 #[.agg #[.int .i64 X, .int .i64 Y, .slice a2 n2 c2]] w3 fun e w' => e = .returned (.int .i64 er) ∧ Below w3.heap.size w3 w') := Lib.hid fun w3 hb3 => by
                have h := refCheckMap_map X Y a2 n2 c2 _ w3 (hany.below hb3 (Nat.le_refl _))
                have hh := HMM.out
                rw [← hn2'] at hh
                rw [hh] at h
                exact h
              clear hn2' hany
              go_wp2_with fail
              refine (KK.out _ ((Below.refl _ w2).alloc (Nat.le_refl _) _)).mono ?_
              rintro e w3 ⟨rfl, hb3⟩
              have hk3 : w3.heap[w.heap.size]? = some (.cells #[.int .i64 0, .int .i64 0, .slice none 0 0] 48 (0, 0)) := by
                have e1 := (Below.heap_alloc w2 (.cells #[.int .i64 X, .int .i64 Y, .slice a2 n2 c2] 48) w.heap.size hs2).trans HK2.out
                exact (hb3.block w.heap.size (Array.getElem?_eq_some_iff.1 e1).1).trans e1
              have hm3 : w3.heap[w2.heap.size]? = some (.cells #[.int .i64 X, .int .i64 Y, .slice a2 n2 c2] 48 (0, 0)) := (hb3.block _ (by simp)).trans (heap_alloc_new w2 _)
              have HBF3 := Lib.hid ((HBF.out.alloc (by omega) _).trans (hb3.mono (by simp; omega)))
              have HB23 : Hid (Below w2.heap.size w2 w3) := Lib.hid (((Below.refl _ w2).alloc (Nat.le_refl _) _).trans (hb3.mono (by simp)))
              clear t0 t1 t2 f0 f1 f2 hb3
              have t0 : w3.cell? ⟨w.heap.size, 0, none⟩ = some (.int .i64 0) := by rw [cell_of_row w3 _ 0 _ _ (0, 0) hk3]; rfl
              have t1 : w3.cell? ⟨w.heap.size, 1, none⟩ = some (.int .i64 0) := by rw [cell_of_row w3 _ 1 _ _ (0, 0) hk3]; rfl
              have t2 : w3.cell? ⟨w.heap.size, 2, none⟩ = some (.slice none 0 0) := by rw [cell_of_row w3 _ 2 _ _ (0, 0) hk3]; rfl
              have f0 : w3.frozen? ⟨w.heap.size, 0, none⟩ = false := frozen_of_row w3 _ 0 _ _ hk3
              have f1 : w3.frozen? ⟨w.heap.size, 1, none⟩ = false := frozen_of_row w3 _ 1 _ _ hk3
              have f2 : w3.frozen? ⟨w.heap.size, 2, none⟩ = false := frozen_of_row w3 _ 2 _ _ hk3
              have r0 : w3.cell? ⟨w2.heap.size, 0, none⟩ = some (.int .i64 X) := by rw [cell_of_row w3 _ 0 _ _ (0, 0) hm3]; rfl
              have r1 : w3.cell? ⟨w2.heap.size, 1, none⟩ = some (.int .i64 Y) := by rw [cell_of_row w3 _ 1 _ _ (0, 0) hm3]; rfl
              have r2 : w3.cell? ⟨w2.heap.size, 2, none⟩ = some (.slice a2 n2 c2) := by rw [cell_of_row w3 _ 2 _ _ (0, 0) hm3]; rfl
              have HK3 := Lib.hid hk3
              clear hk3 hm3
              go_wp2
              have hp0 := HPR.out
              rw [if_neg H0.out] at hp0
              have rF := blk_set3 HK3.out (.int .i64 0) (.int .i64 0) (.slice none 0 0)
              have bF := below_set3 HBF3.out (Nat.le_refl _) (.int .i64 0) (.int .i64 0) (.slice none 0 0)
              exact bodyPost_ret (v := .tuple #[.agg #[.int .i64 0, .int .i64 0, .slice none 0 0], .int .i64 m, .int .i64 er]) (results_row_tmp2 Tryz.results95 _ _ w.heap.size 48 _ (0, 0) _ rfl rF Tryz.underlying48 rfl (by kernel_rfl)) rfl (by first | exact ⟨0, 0, none, 0, 0, m, er, X, Y, _, rfl, hp0, ResV.none _ _ _ _ _ H0.out, bF⟩ | (rw [HL.out]; exact ⟨0, 0, none, 0, 0, m, er, X, Y, _, rfl, hp0, ResV.none _ _ _ _ _ H0.out, bF⟩))
            · have ev : (er == 0) = false := by simp [h0]
              have ev2 : (er != 0) = true := by simp [h0]
              have H0 := Lib.hid h0
              clear h0
              go_wp2_with fail
              refine KM.out.mono ?_
              rintro e w2 ⟨X, Y, a2, n2, c2, rfl, hok2, hb2⟩
              skip
              rw [HQ.out]
              have hk2 := (hb2.block _ (Array.getElem?_eq_some_iff.1 HKW.out).1).trans HKW.out
              have HBF := Lib.hid (HBW.out.trans (hb2.mono (by omega)))
              clear t0 t1 t2 f0 f1 f2
              have t0 : w2.cell? ⟨w.heap.size, 0, none⟩ = some (.int .i64 0) := by rw [cell_of_row w2 _ 0 _ _ (0, 0) hk2]; rfl
              have t1 : w2.cell? ⟨w.heap.size, 1, none⟩ = some (.int .i64 0) := by rw [cell_of_row w2 _ 1 _ _ (0, 0) hk2]; rfl
              have t2 : w2.cell? ⟨w.heap.size, 2, none⟩ = some (.slice none 0 0) := by rw [cell_of_row w2 _ 2 _ _ (0, 0) hk2]; rfl
              have f0 : w2.frozen? ⟨w.heap.size, 0, none⟩ = false := frozen_of_row w2 _ 0 _ _ hk2
              have f1 : w2.frozen? ⟨w.heap.size, 1, none⟩ = false := frozen_of_row w2 _ 1 _ _ hk2
              have f2 : w2.frozen? ⟨w.heap.size, 2, none⟩ = false := frozen_of_row w2 _ 2 _ _ hk2
              have hs2 : w.heap.size < w2.heap.size := (Array.getElem?_eq_some_iff.1 hk2).1
              have HK2 := Lib.hid hk2
              clear hk2 hb2 hok2
              go_wp2
              have hp0 := HPR.out
              rw [if_neg H0.out] at hp0
              obtain ⟨rF, bF⟩ := asm_endR (x' := (.int .i64 0)) (y' := (.int .i64 0)) (z' := (.slice none 0 0)) HK2.out HBF.out (.cells #[.int .i64 X, .int .i64 Y, .slice a2 n2 c2] 48)
              obtain ⟨WF, hWF⟩ : ∃ WF, ((((w2.setCell ⟨w.heap.size, 0, none⟩ (.int .i64 0)).setCell ⟨w.heap.size, 1, none⟩ (.int .i64 0)).setCell ⟨w.heap.size, 2, none⟩ (.slice none 0 0)).alloc (.cells #[.int .i64 X, .int .i64 Y, .slice a2 n2 c2] 48)) = WF := ⟨_, rfl⟩
              rw [hWF] at rF bF ⊢
              exact bodyPost_ret (v := .tuple #[.agg #[.int .i64 0, .int .i64 0, .slice none 0 0], .int .i64 m, .int .i64 er]) (results_row_tmp2 Tryz.results95 _ _ w.heap.size 48 _ (0, 0) _ rfl rF Tryz.underlying48 rfl (by kernel_rfl)) rfl (by first | exact ⟨0, 0, none, 0, 0, m, er, a, b', _, rfl, hp0, ResV.none _ _ _ _ _ H0.out, bF⟩ | (rw [HL.out]; exact ⟨0, 0, none, 0, 0, m, er, a, b', _, rfl, hp0, ResV.none _ _ _ _ _ H0.out, bF⟩))
      · have he : (strB (lastP s)).toList.isEmpty = false := by
          rw [hemp]; apply decide_eq_false; intro h; exact hle (List.eq_nil_of_length_eq_zero h)
        have HP := Lib.hid (show ParseR L (m : Int) 25 0 0 [] from .inl ⟨m, _, (by rw [← HL.out]; have := linesL_more hle; rwa [HM.out] at this), hok.out, last_bad m s, rfl, rfl⟩)
        obtain ⟨q, hq⟩ : ∃ q, strB (lastP s) = q := ⟨_, rfl⟩
        rw [hq] at hcell he
        clear hemp hle hq
        go_wp2
        have rF := blk_set3 HKW.out (.int .i64 0) (.int .i64 0) (.slice none 0 0)
        have bF := below_set3 HBW.out (Nat.le_refl _) (.int .i64 0) (.int .i64 0) (.slice none 0 0)
        exact bodyPost_ret (v := .tuple #[.agg #[.int .i64 0, .int .i64 0, .slice none 0 0], .int .i64 m, .int .i64 25]) (results_row_tmp2 Tryz.results95 _ _ w.heap.size 48 _ (0, 0) _ rfl rF Tryz.underlying48 rfl (by kernel_rfl)) rfl (by first | exact parse_bad HP.out (by decide) bF | (rw [HL.out]; exact parse_bad HP.out (by decide) bF))
end Go.Proofs.YtfdkmmllemkogaaGreatDoor
