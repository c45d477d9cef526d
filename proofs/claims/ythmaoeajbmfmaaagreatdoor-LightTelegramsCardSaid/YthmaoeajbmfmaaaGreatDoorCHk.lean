/-
  Contract of the reference's Received for any stream.
-/
import Derived.Test.YthmaoeajbmfmaaaGreatDoorCHj
import Derived.Test.YthmaoeajbmfmaaaGreatDoorCHd
import Derived.Test.YthmaoeajbmfmaaaGreatDoorCGa
import Derived.Test.YthmaoeajbmfmaaaGreatDoorCWr
import Derived.Test.YthmaoeajbmfmaaaGreatDoorCXe
namespace Go.Proofs.YthmaoeajbmfmaaaGreatDoor
open Go.RowKit
set_option linter.unusedVariables false
set_option linter.unusedSimpArgs false

/-- A frame while its first bytes are copied. -/
def cpy (F : List Int) (j : Nat) : List Int := F.take j ++ List.replicate (24 - j) 0
theorem cpy_len {F : List Int} (h : F.length = 24) {j : Nat} (hj : j ≤ 24) : (cpy F j).length = 24 := by simp [cpy, h]; omega
theorem cpy_set {F : List Int} (h : F.length = 24) {j : Nat} (hj : j < 24) : (cpy F j).set j (byteAt F j) = cpy F (j + 1) := by
  have hl : (F.take j).length = j := by rw [List.length_take, h]; omega
  unfold cpy
  obtain ⟨d, hd⟩ : ∃ d, 24 - j = d + 1 := ⟨24 - j - 1, by omega⟩
  rw [hd, List.replicate_succ, List.set_append_right _ _ (by omega), hl, Nat.sub_self, List.set_cons_zero, show 24 - (j + 1) = d by omega]
  unfold byteAt
  rw [List.getElem?_eq_getElem (by omega), List.take_succ_eq_append_getElem (show j < F.length by omega), List.append_assoc]
  rfl
theorem cpy_24 {F : List Int} (h : F.length = 24) : cpy F 24 = F := by simp [cpy, List.take_of_length_le, h]
theorem Tryz.infoRefTel : (Tryz.prog.info? 43).map (fun i => (i.zero, i.size, i.bytes)) = some (some (.agg #[.int .i64 0, .int .i64 0, .int .i64 0, .int .i64 0, .int .i64 0, .int .i64 0]), 6, 48) := by kernel_rfl

set_option maxRecDepth 100000 in
set_option maxHeartbeats 12800000 in
theorem refReceived_all (S : List Int) (a : Option Addr) (n cp : Nat) (hm : n ≤ 12288) (w : World) (hA : AnyBytes w a n S) :
    Calls Tryz.prog 25 #[.slice a n cp] w fun e w' =>
      ∃ v1 v2, e = .returned (.tuple #[v1, v2, .int .i64 0]) ∧ w'.ownsRow w.heap.size 43 6 v1 (rcvL S n).length ((rcvL S n).flatMap Tel.val) ∧ w'.ownsRow w.heap.size 92 2 v2 (rcvP S n).length ((rcvP S n).flatMap qval) ∧ Below w.heap.size w w' := by
  obtain ⟨i0, hi, hz0, hz1, hz2⟩ := info_parts Tryz.infoRefTel
  obtain ⟨j0, hj, hy0, hy1, hy2⟩ := info_parts Tryz.infoSpan
  have HA := Lib.hid hA
  have i1 : ((n : Int) ≤ 12288) := by omega
  have hi36 : (Tryz.prog.info? 44).map (·.size) = some 24 := size24
  clear hA
  go_enter Tryz.func25, Tryz.ntmps25
  go_wp2
  go_loopw [5, 6, 7] (fun out sk i wr => ∃ (k : Nat) (ts : List Tel) (sp : List (Int × Int)), i = .int .i64 k ∧ k ≤ n + 23 ∧ ts.length ≤ k ∧ sp.length ≤ k ∧ Hid (rcv S n n k ts sp = rcv S n n 0 [] []) ∧
      wr.ownsRow w.heap.size 43 6 out ts.length (ts.flatMap Tel.val) ∧ wr.ownsRow w.heap.size 92 2 sk sp.length (sp.flatMap qval) ∧ Below w.heap.size w wr)
    (fun _ _ i _ => n - (intOf i).toNat)
  case atStart => exact ⟨0, [], [], rfl, by omega, by simp, by simp, Lib.hid rfl, World.ownsRow_nil _ _ _ _, World.ownsRow_nil _ _ _ _, Below.refl _ _⟩
  case round =>
    obtain ⟨k, ts, sp, rfl, hk, hts, hsp, hr, hown, hsk, hnx⟩ := hrel
    have hsz : w.heap.size ≤ wr.heap.size := hnx.size
    by_cases hlt : k < n
    · have h4 : (k : Int) < (n : Int) := by omega
      have h5 : k ≤ 12311 := by omega
      have h6 : (k : Int) ≤ 12311 := by omega
      obtain ⟨b, q, rfl, hb, hc⟩ := HA.out.2 k hlt
      have hS := HA.out.1
      have hb2 : b < wr.heap.size := by omega
      have hc2 : wr.rangeAt b q (S.map (Value.int .u8)) := fun i v hv => by rw [hnx.cell (by exact hb)]; exact hc i v hv
      by_cases ho : okAt S n k = true
      · have h24 : k + 24 ≤ n := by
          unfold okAt at ho
          split at ho
          · assumption
          · cases ho
        have hF := streamAt_bytes hS h24
        have hE : decErr (streamAt S k) = 0 := by
          unfold okAt at ho
          rw [if_pos h24] at ho
          simpa using ho
        have ht : telAt S n k = decTel (streamAt S k) := by unfold telAt; rw [if_pos h24]
        have hstep := rcv_hit (ts := ts) (sp := sp) hlt ho
        have KD := Lib.hid (fun w1 => refDecode_all (streamAt S k) hF w1)
        obtain ⟨t, ht2⟩ : ∃ t, decTel (streamAt S k) = t := ⟨_, rfl⟩
        rw [ht, ht2] at hstep
        rw [hE, ht2] at KD
        unfold Tel.agg at KD
        have hcell : ∀ j, j < 24 → wr.cell? ⟨b, q + (k + j), none⟩ = some (.int .u8 (byteAt (streamAt S k) j)) := fun j hj => by
          refine hc2 (k + j) _ ?_
          have hj2 : k + j < S.length := by rw [hS.1]; omega
          unfold byteAt streamAt
          rw [List.getElem?_map, List.getElem?_take_of_lt hj, List.getElem?_drop, List.getElem?_eq_getElem hj2]; rfl
        obtain ⟨F, hFF⟩ : ∃ F, streamAt S k = F := ⟨_, rfl⟩
        rw [hFF] at hF hcell KD
        have hl := hF.1
        have HST : Hid (rcv S n n (k + 24) (ts ++ [t]) sp = rcv S n n 0 [] []) := Lib.hid (hstep.symm.trans hr.out)
        have HFL := Lib.hid (flat_snoc ts t)
        obtain ⟨Ft, hFt⟩ : ∃ F, ts.flatMap Tel.val = F := ⟨_, rfl⟩
        obtain ⟨G, hG⟩ : ∃ G, sp.flatMap qval = G := ⟨_, rfl⟩
        obtain ⟨m1, hm1⟩ : ∃ m, ts.length = m := ⟨_, rfl⟩
        obtain ⟨m2, hm2⟩ : ∃ m, sp.length = m := ⟨_, rfl⟩
        rw [hFt] at HFL
        rw [hFt, hm1] at hown
        rw [hG, hm2] at hsk
        rw [hm1] at hts
        rw [hm2] at hsp
        have HM := Lib.hid (And.intro hm1 (And.intro hm2 hG))
        have HSK := Lib.hid hsk
        have HOWN := Lib.hid hown
        have HNX := Lib.hid hnx
        have HCELL := Lib.hid hcell
        have HL := Lib.hid hl
        have hn24 : (k : Int) + 24 ≤ (n : Int) := by omega
        clear ho ht ht2 hE hstep hr hc hc2 hS hF hFF hFt hG hm1 hm2 hsk hown hnx HA hcell hl
        go_wp2_with fail
        obtain ⟨W0, hW0⟩ : ∃ W0, wr.alloc (.cells ((List.replicate 24 (Value.int .u8 0)).toArray) 44) = W0 := ⟨_, rfl⟩
        have hk0 : HasBlk W0 wr.heap.size 44 (cpy F 0) := by
          rw [← hW0]
          have h := heap_alloc_new wr (.cells ((List.replicate 24 (Value.int .u8 0)).toArray) 44)
          simpa [HasBlk, cpy, List.replicate] using h
        have hB0 : Below wr.heap.size wr W0 := by rw [← hW0]; exact (Below.refl _ wr).alloc (Nat.le_refl _) _
        have hz00 : W0.heap.size = wr.heap.size + 1 := by rw [← hW0]; simp
        simp only [List.replicate] at hW0
        rw [hW0]
        have HZ0 := Lib.hid hz00
        have HB0 := Lib.hid hB0
        have HK0 := Lib.hid hk0
        clear hW0 hz00 hB0 hk0
        obtain ⟨wo, hwo⟩ : ∃ wo : World, wo = wr := ⟨_, rfl⟩
        subst hwo
        go_loopw [9] (fun i wI => ∃ j : Nat, j ≤ 24 ∧ i = .int .i64 j ∧ HasBlk wI wo.heap.size 44 (cpy F j) ∧ OnlyBlk W0 wI wo.heap.size)
          (fun i _ => 24 - (intOf i).toNat)
        case atStart => exact ⟨0, Nat.zero_le _, rfl, HK0.out, ⟨⟨rfl, rfl, rfl, Nat.le_refl _, fun _ _ _ => rfl⟩, rfl⟩⟩
        case round =>
          obtain ⟨j, hj, rfl, hkj, hoj⟩ := hrel
          by_cases hj24 : j < 24
          · have hs := cpy_set HL.out hj24
            have hc1 : wr.cell? ⟨b, q + (k + j), none⟩ = some (.int .u8 (byteAt F j)) := hoj.cell ((HB0.out.cell (p := ⟨b, q + (k + j), none⟩) hb2).trans (HCELL.out j hj24)) (by omega)
            have hc3 := hkj.cell (j := j) (v := (cpy F j)[j]?.getD 0) (by rw [List.getElem?_eq_getElem (by rw [cpy_len HL.out hj]; exact hj24)]; rfl)
            have hf3 := hkj.frozen j
            have HKN : Hid (HasBlk (wr.setCell ⟨wo.heap.size, j, none⟩ (.int .u8 (byteAt F j))) wo.heap.size 44 (cpy F (j + 1))) := Lib.hid (by rw [← hs]; exact hkj.set _ _)
            have HON := Lib.hid (hoj.trans (OnlyBlk.set wr wo.heap.size j (.int .u8 (byteAt F j))))
            obtain ⟨x, hx⟩ : ∃ x, byteAt F j = x := ⟨_, rfl⟩
            rw [hx] at hc1 HKN HON
            have g1 : (j : Int) < 24 := by omega
            have g2 : (k : Int) + (j : Int) < (n : Int) := by omega
            have g3 : (0 : Int) ≤ (k : Int) + (j : Int) := by omega
            have g4 : ((k : Int) + (j : Int)).toNat = k + j := by omega
            clear hs hkj hoj hx
            go_wp2_with fail
            go_roundw
            case rel => exact ⟨j + 1, by omega, by go_num, HKN.out, HON.out⟩
            case measure => simp [intOf]; omega
          · obtain rfl : j = 24 := by omega
            rw [cpy_24 HL.out] at hkj
            obtain ⟨V, hV⟩ : ∃ V, F.map (Value.int .u8) = V := ⟨_, rfl⟩
            have HKJ : Hid (wr.heap[wo.heap.size]? = some (.cells V.toArray 44 (0, 0))) := Lib.hid (by rw [← hV]; exact hkj)
            have V24 : V.length = 24 := by rw [← hV, List.length_map]; exact HL.out
            rw [hV] at KD
            have ho1 := (owns_kept HOWN.out HB0.out (Nat.le_refl _)).kept hoj.1 (.inr fun e => absurd (HOWN.out.lt _ e).2 (Nat.lt_irrefl _))
            have hs1 := (owns_kept HSK.out HB0.out (Nat.le_refl _)).kept hoj.1 (.inr fun e => absurd (HSK.out.lt _ e).2 (Nat.lt_irrefl _))
            have hB1 : Below w.heap.size w wr := (HNX.out.trans (HB0.out.mono hsz)).trans (hoj.below (by have := HZ0.out; omega) hsz)
            have hsz1 := hB1.size
            have HO1 := Lib.hid ho1
            have HS1 := Lib.hid hs1
            have HB1 := Lib.hid hB1
            have hiV : (Tryz.prog.info? 44).map (·.size) = some V.toArray.size := by rw [size24]; simp [V24]
            clear hkj hoj hV V24 ho1 hs1 hB1 HCELL hi36
            go_wp2_with (first
              | (refine wpList_load_row rfl 44 (.tmp 8) rfl wo.heap.size rfl 44 _ (0, 0) _ HKJ.out Tryz.underlying44 rfl hiV ?_)
              | (go_at_call 24; refine (KD.out _).mono ?_; rintro e w2 ⟨rfl, hbd⟩
                 have hown2 := owns_kept HO1.out hbd (Nat.le_refl _)
                 have hsk2 := owns_kept HS1.out hbd (Nat.le_refl _)
                 have HSK2 := Lib.hid hsk2
                 have hs2 := hbd.size
                 clear hsk2)
              | (at_builtin; refine wpList_append_own _ rfl (.tmp 44) (.tmp 46) 59 rfl w.heap.size 43 i0 (.agg #[.int .i64 0, .int .i64 0, .int .i64 0, .int .i64 0, .int .i64 0, .int .i64 0]) 6 48 Tryz.underlying59 hi hz0 hz1 hz2 rfl (by decide) _ m1 _ rfl ((hown2.alloc _).alloc _) ⟨w2.heap.size + 1, 0, none⟩ 1 1 t.val rfl rfl (cells_new6' _ _ _ _ _ _ _ _ _) (by intro u hu; simp [Tel.val] at hu; rcases hu with rfl | rfl | rfl | rfl | rfl | rfl <;> rfl) (by unfold maxLen; omega) (by omega) (by simp; omega) ?_; intro v' w3 hown3 hgrow3 _))
            have hlt' := hown2.lt
            have hB2 : Below w.heap.size w w2 := HB1.out.trans (hbd.mono hsz1)
            have hskE := ((HSK2.out.alloc (.cells #[.int .i64 t.s, .int .i64 t.c, .int .i64 t.o, .int .i64 t.x, .int .i64 t.y, .int .i64 t.z] 43)).alloc (.cells #[.int .i64 t.s, .int .i64 t.c, .int .i64 t.o, .int .i64 t.x, .int .i64 t.y, .int .i64 t.z] 43)).kept hgrow3 (own_ne HSK2.out hown2 (by decide))
            go_roundw
            case rel => exact ⟨k + 24, ts ++ [t], sp, by go_num, by omega, by rw [List.length_append, HM.out.1]; simp; omega, by rw [HM.out.2.1]; omega, HST, by rw [List.length_append, HM.out.1, HFL.out]; exact hown3, by rw [HM.out.2.1, HM.out.2.2]; exact hskE, ((hB2.alloc (by omega) _).alloc (by simp; omega) _).grown hgrow3 (by simp; omega) (fun j hj => (hlt' j hj).1)⟩
            case measure => simp [intOf]; omega
      · have ho := Bool.eq_false_iff.2 ho
        have hstep := rcv_miss (ts := ts) (sp := sp) hlt ho
        have HST : Hid (rcv S n n (k + 1) ts (extL sp k) = rcv S n n 0 [] []) := Lib.hid (hstep.symm.trans hr.out)
        have hD : Hid (k + 24 ≤ n → Bytes24 (streamAt S k) ∧ decErr (streamAt S k) ≠ 0 ∧ ∀ j, j < 24 → wr.cell? ⟨b, q + (k + j), none⟩ = some (.int .u8 (byteAt (streamAt S k) j))) := Lib.hid fun h24 => by
          refine ⟨streamAt_bytes hS h24, ?_, fun j hj => ?_⟩
          · unfold okAt at ho
            rw [if_pos h24] at ho
            simpa using ho
          · refine hc2 (k + j) _ ?_
            have hj2 : k + j < S.length := by rw [hS.1]; omega
            unfold byteAt streamAt
            rw [List.getElem?_map, List.getElem?_take_of_lt hj, List.getElem?_drop, List.getElem?_eq_getElem hj2]; rfl
        obtain ⟨Ft, hFt⟩ : ∃ F, ts.flatMap Tel.val = F := ⟨_, rfl⟩
        obtain ⟨m1, hm1⟩ : ∃ m, ts.length = m := ⟨_, rfl⟩
        rw [hFt, hm1] at hown
        rw [hm1] at hts
        have HM := Lib.hid (And.intro hm1 hFt)
        have HSK := Lib.hid hsk
        have HOWN := Lib.hid hown
        have HNX := Lib.hid hnx
        clear ho hstep hr hc hc2 hS hFt hm1 hsk hown hnx HA
        go_upto_if 24 with fail
        go_cut [5, 7] (fun s5 s7 wc => s7 = .int .i64 k ∧ ∃ W2, W2 = wc ∧ wc.ownsRow w.heap.size 43 6 s5 m1 Ft ∧ wc.ownsRow w.heap.size 92 2 u6 sp.length (sp.flatMap qval) ∧ Below w.heap.size w wc)
        case first =>
          by_cases h24 : k + 24 ≤ n
          · obtain ⟨hF, hE, hcell⟩ := hD.out h24
            have KD := Lib.hid (fun w1 => refDecode_all (streamAt S k) hF w1)
            obtain ⟨F, hFF⟩ : ∃ F, streamAt S k = F := ⟨_, rfl⟩
            rw [hFF] at hF hcell KD hE
            obtain ⟨t, ht2⟩ : ∃ t, decTel F = t := ⟨_, rfl⟩
            obtain ⟨r, hrr⟩ : ∃ r, decErr F = r := ⟨_, rfl⟩
            rw [hrr] at hE KD
            rw [ht2] at KD
            unfold Tel.agg at KD
            have e0 : (r == 0) = false := by simp [hE]
            have hl := hF.1
            obtain ⟨m2, hm2⟩ : ∃ m, sp.length = m := ⟨_, rfl⟩
            have HCELL := Lib.hid hcell
            have HL := Lib.hid hl
            have hn24 : (k : Int) + 24 ≤ (n : Int) := by omega
            clear hF hE hFF ht2 hrr hcell hl hD
            go_wp2_with fail
            obtain ⟨W0, hW0⟩ : ∃ W0, wr.alloc (.cells ((List.replicate 24 (Value.int .u8 0)).toArray) 44) = W0 := ⟨_, rfl⟩
            have hk0 : HasBlk W0 wr.heap.size 44 (cpy F 0) := by
              rw [← hW0]
              have h := heap_alloc_new wr (.cells ((List.replicate 24 (Value.int .u8 0)).toArray) 44)
              simpa [HasBlk, cpy, List.replicate] using h
            have hB0 : Below wr.heap.size wr W0 := by rw [← hW0]; exact (Below.refl _ wr).alloc (Nat.le_refl _) _
            have hz00 : W0.heap.size = wr.heap.size + 1 := by rw [← hW0]; simp
            simp only [List.replicate] at hW0
            rw [hW0]
            have HZ0 := Lib.hid hz00
            have HB0 := Lib.hid hB0
            have HK0 := Lib.hid hk0
            clear hW0 hz00 hB0 hk0
            obtain ⟨wo, hwo⟩ : ∃ wo : World, wo = wr := ⟨_, rfl⟩
            subst hwo
            go_loopw [9] (fun i wI => ∃ j : Nat, j ≤ 24 ∧ i = .int .i64 j ∧ HasBlk wI wo.heap.size 44 (cpy F j) ∧ OnlyBlk W0 wI wo.heap.size)
              (fun i _ => 24 - (intOf i).toNat)
            case atStart => exact ⟨0, Nat.zero_le _, rfl, HK0.out, ⟨⟨rfl, rfl, rfl, Nat.le_refl _, fun _ _ _ => rfl⟩, rfl⟩⟩
            case round =>
              obtain ⟨j, hj, rfl, hkj, hoj⟩ := hrel
              by_cases hj24 : j < 24
              · have hs := cpy_set HL.out hj24
                have hc1 : wr.cell? ⟨b, q + (k + j), none⟩ = some (.int .u8 (byteAt F j)) := hoj.cell ((HB0.out.cell (p := ⟨b, q + (k + j), none⟩) hb2).trans (HCELL.out j hj24)) (by omega)
                have hc3 := hkj.cell (j := j) (v := (cpy F j)[j]?.getD 0) (by rw [List.getElem?_eq_getElem (by rw [cpy_len HL.out hj]; exact hj24)]; rfl)
                have hf3 := hkj.frozen j
                have HKN : Hid (HasBlk (wr.setCell ⟨wo.heap.size, j, none⟩ (.int .u8 (byteAt F j))) wo.heap.size 44 (cpy F (j + 1))) := Lib.hid (by rw [← hs]; exact hkj.set _ _)
                have HON := Lib.hid (hoj.trans (OnlyBlk.set wr wo.heap.size j (.int .u8 (byteAt F j))))
                obtain ⟨x, hx⟩ : ∃ x, byteAt F j = x := ⟨_, rfl⟩
                rw [hx] at hc1 HKN HON
                have g1 : (j : Int) < 24 := by omega
                have g2 : (k : Int) + (j : Int) < (n : Int) := by omega
                have g3 : (0 : Int) ≤ (k : Int) + (j : Int) := by omega
                have g4 : ((k : Int) + (j : Int)).toNat = k + j := by omega
                clear hs hkj hoj hx
                go_wp2_with fail
                go_roundw
                case rel => exact ⟨j + 1, by omega, by go_num, HKN.out, HON.out⟩
                case measure => simp [intOf]; omega
              · obtain rfl : j = 24 := by omega
                rw [cpy_24 HL.out] at hkj
                obtain ⟨V, hV⟩ : ∃ V, F.map (Value.int .u8) = V := ⟨_, rfl⟩
                have HKJ : Hid (wr.heap[wo.heap.size]? = some (.cells V.toArray 44 (0, 0))) := Lib.hid (by rw [← hV]; exact hkj)
                have V24 : V.length = 24 := by rw [← hV, List.length_map]; exact HL.out
                rw [hV] at KD
                have ho1 := (owns_kept HOWN.out HB0.out (Nat.le_refl _)).kept hoj.1 (.inr fun e => absurd (HOWN.out.lt _ e).2 (Nat.lt_irrefl _))
                have hs1 := (owns_kept HSK.out HB0.out (Nat.le_refl _)).kept hoj.1 (.inr fun e => absurd (HSK.out.lt _ e).2 (Nat.lt_irrefl _))
                have hB1 : Below w.heap.size w wr := (HNX.out.trans (HB0.out.mono hsz)).trans (hoj.below (by have := HZ0.out; omega) hsz)
                have hsz1 := hB1.size
                have HO1 := Lib.hid ho1
                have HS1 := Lib.hid hs1
                have HB1 := Lib.hid hB1
                have hiV : (Tryz.prog.info? 44).map (·.size) = some V.toArray.size := by rw [size24]; simp [V24]
                clear hkj hoj hV V24 ho1 hs1 hB1 HCELL hi36
                go_wp2_with (first
                  | (refine wpList_load_row rfl 44 (.tmp 8) rfl wo.heap.size rfl 44 _ (0, 0) _ HKJ.out Tryz.underlying44 rfl hiV ?_)
                  | (go_at_call 24; refine (KD.out _).mono ?_; rintro e w2 ⟨rfl, hbd⟩
                     have HOWN2 := Lib.hid (owns_kept HO1.out hbd (Nat.le_refl _))
                     have HSK2 := Lib.hid (owns_kept HS1.out hbd (Nat.le_refl _))
                     have hs2 := hbd.size))
                have hB2 : Below w.heap.size w w2 := HB1.out.trans (hbd.mono hsz1)
                go_meet
                exact ⟨rfl, _, rfl, HOWN2.out.alloc _, HSK2.out.alloc _, hB2.alloc (by omega) _⟩
          · have hn24 : ¬ ((k : Int) + 24 ≤ (n : Int)) := by omega
            clear hD
            go_wp2_with fail
            go_meet
            exact ⟨rfl, _, rfl, HOWN.out, HSK.out, HNX.out⟩
        case rest =>
          obtain ⟨rfl, W2, rfl, hO2, hS2, hB2⟩ := hcut
          have hlen2 : sp.length ≤ 12311 := by omega
          have HNE := Lib.hid (own_ne hO2 hS2 (by decide))
          have HO2 := Lib.hid hO2
          have HB2 := Lib.hid hB2
          have hsz2 := hB2.size
          have hxl := extL_len sp k
          have hltS := hS2.lt
          by_cases h : sp.length ≠ 0 ∧ (sp[sp.length - 1]?.getD (0, 0)).2 = k
          · have hX : extL sp k = sp.set (sp.length - 1) ((sp[sp.length - 1]?.getD (0, 0)).1, (k : Int) + 1) := by unfold extL; rw [if_pos h]
            obtain ⟨g, c, rfl, hgl, hgB⟩ := owns_some hS2 (by omega)
            obtain ⟨m, hm'⟩ : ∃ m, sp.length = m + 1 := ⟨sp.length - 1, by omega⟩
            have hc1 := (flat_at2 sp m (by omega)).2
            have hs := flat_set2 sp m ((k : Int) + 1) (by omega)
            have e2 : (sp[m]?.getD (0, 0)).2 = k := by have := h.2; rwa [hm', Nat.add_sub_cancel] at this
            rw [e2] at hc1
            have c1 : W2.cell? ⟨g, m * 2 + 1, none⟩ = some (.int .i64 k) := by
              have h := hS2.cells (g := g) rfl (m * 2 + 1) _ hc1
              rwa [Addr.add_mid, Nat.zero_add] at h
            have f1 := hS2.frozenAt (m * 2 + 1)
            have hst := (hS2.stored (m * 2 + 1) (.int .i64 ((k : Int) + 1))).1
            rw [hs] at hst
            have hXl : (extL sp k).length = m + 1 := by rw [hX, List.length_set, hm']
            rw [hm', Nat.add_sub_cancel] at hX
            rw [← hX, hm'] at hst
            have HXL := Lib.hid hXl
            have HST2 := Lib.hid hst
            have HOE := Lib.hid (HO2.out.kept (OnlyBlk.set W2 g (m * 2 + 1) (.int .i64 ((k : Int) + 1))).1 HNE.out)
            have HBE := Lib.hid (HB2.out.setCell (p := ⟨g, m * 2 + 1, none⟩) hgB (.int .i64 ((k : Int) + 1)))
            have k0 : (0 : Int) ≤ (m : Int) := by omega
            have k1 : (m : Int) < (m : Int) + 1 := by omega
            have k2 : ((k : Int) == k) = true := by simp
            have k3 : (m : Int) ≤ 13000 := by omega
            rw [hm'] at hxl hsp
            obtain ⟨X, hXX⟩ : ∃ X, extL sp k = X := ⟨_, rfl⟩
            rw [hXX] at HXL HST2 HST hxl
            rw [hm']
            clear h hX hS2 hc1 hs e2 hst hm' hXX hXl hlen2 hltS hO2 hB2 HNE HSK HOWN hD hxl
            go_wp2_with fail
            go_roundw
            case rel => exact ⟨k + 1, ts, X, by go_num, by omega, by rw [HM.out.1]; omega, by rw [HXL.out]; omega, HST, by rw [HM.out.1, HM.out.2]; exact HOE.out, by rw [HXL.out]; exact HST2.out, HBE.out⟩
            case measure => simp [intOf]; omega
          · have hX : extL sp k = sp ++ [((k : Int), (k : Int) + 1)] := by unfold extL; rw [if_neg h]
            have hF : (extL sp k).flatMap qval = sp.flatMap qval ++ [.int .i64 (k : Int), .int .i64 ((k : Int) + 1)] := by rw [hX]; simp [qval]
            have hL : (extL sp k).length = sp.length + 1 := by rw [hX]; simp
            obtain ⟨X, hXX⟩ : ∃ X, extL sp k = X := ⟨_, rfl⟩
            rw [hXX] at hF hL HST
            by_cases h0 : sp.length = 0
            · obtain ⟨Fs, hFl⟩ : ∃ F, sp.flatMap qval = F := ⟨_, rfl⟩
              rw [hFl, h0] at hS2
              rw [hFl] at hF
              rw [h0] at hL
              obtain ⟨aa, c, rfl⟩ := nil_slice hS2
              have HF := Lib.hid hF
              have HL2 := Lib.hid hL
              clear h h0 hX hXX hFl hF hL hO2 hB2 hlen2 hltS HSK HOWN hD hxl
              go_wp2_with (at_builtin; refine wpList_append_own _ rfl (.tmp 71) (.tmp 76) 52 rfl w.heap.size 92 j0 (.agg #[.int .i64 0, .int .i64 0]) 2 16 Tryz.underlying52 hj hy0 hy1 hy2 rfl (by decide) _ 0 _ rfl (hS2.alloc _) ⟨W2.heap.size, 0, none⟩ 1 1 [.int .i64 (k : Int), .int .i64 ((k : Int) + 1)] rfl rfl (cells_newQ _ _ _ _) (by intro u hu; simp at hu; rcases hu with rfl | rfl <;> rfl) (by unfold maxLen; omega) (by omega) (by simp; omega) ?_; intro v' w3 hown3 hgrow3 _)
              have hlt' := hS2.lt
              have hoE := (HO2.out.alloc (.cells #[.int .i64 (k : Int), .int .i64 ((k : Int) + 1)] 92)).kept hgrow3 HNE.out
              go_roundw
              case rel => exact ⟨k + 1, ts, X, by go_num, by omega, by rw [HM.out.1]; omega, by rw [HL2.out]; omega, HST, by rw [HM.out.1, HM.out.2]; exact hoE, by rw [HL2.out, HF.out]; exact hown3, (HB2.out.alloc (by omega) _).grown hgrow3 (by simp; omega) (fun j hj => (hlt' j hj).1)⟩
              case measure => simp [intOf]; omega
            · obtain ⟨g, c, rfl, hgl, hgB⟩ := owns_some hS2 (by omega)
              obtain ⟨m, hm'⟩ : ∃ m, sp.length = m + 1 := ⟨sp.length - 1, by omega⟩
              have hc1 := (flat_at2 sp m (by omega)).2
              obtain ⟨x, hx⟩ : ∃ x, (sp[m]?.getD (0, 0)).2 = x := ⟨_, rfl⟩
              have e2 : x ≠ k := fun e => h ⟨h0, by rw [hm', Nat.add_sub_cancel, hx]; exact e⟩
              rw [hx] at hc1
              have c1 : W2.cell? ⟨g, m * 2 + 1, none⟩ = some (.int .i64 x) := by
                have h := hS2.cells (g := g) rfl (m * 2 + 1) _ hc1
                rwa [Addr.add_mid, Nat.zero_add] at h
              obtain ⟨Fs, hFl⟩ : ∃ F, sp.flatMap qval = F := ⟨_, rfl⟩
              rw [hFl, hm'] at hS2
              rw [hFl] at hF
              rw [hm'] at hL hsp
              have HF := Lib.hid hF
              have HL2 := Lib.hid hL
              have k0 : (0 : Int) ≤ (m : Int) := by omega
              have k1 : (m : Int) < (m : Int) + 1 := by omega
              have k2 : (x == (k : Int)) = false := by simp [e2]
              have k3 : (m : Int) ≤ 13000 := by omega
              have k5 : m ≤ 13000 := by omega
              have HS2 := Lib.hid hS2
              rw [hm']
              clear h h0 hX hXX hFl hF hL hO2 hB2 hlen2 hltS HSK HOWN hD hxl hm' hc1 hx e2 hS2
              go_wp2_with (at_builtin; refine wpList_append_own _ rfl (.tmp 71) (.tmp 76) 52 rfl w.heap.size 92 j0 (.agg #[.int .i64 0, .int .i64 0]) 2 16 Tryz.underlying52 hj hy0 hy1 hy2 rfl (by decide) _ (m + 1) _ rfl (HS2.out.alloc _) ⟨W2.heap.size, 0, none⟩ 1 1 [.int .i64 (k : Int), .int .i64 ((k : Int) + 1)] rfl rfl (cells_newQ _ _ _ _) (by intro u hu; simp at hu; rcases hu with rfl | rfl <;> rfl) (by unfold maxLen; omega) (by omega) (by simp; omega) ?_; intro v' w3 hown3 hgrow3 _)
              have hlt' := HS2.out.lt
              have hoE := (HO2.out.alloc (.cells #[.int .i64 (k : Int), .int .i64 ((k : Int) + 1)] 92)).kept hgrow3 HNE.out
              go_roundw
              case rel => exact ⟨k + 1, ts, X, by go_num, by omega, by rw [HM.out.1]; omega, by rw [HL2.out]; omega, HST, by rw [HM.out.1, HM.out.2]; exact hoE, by rw [HL2.out, HF.out]; exact hown3, (HB2.out.alloc (by omega) _).grown hgrow3 (by simp; omega) (fun j hj => (hlt' j hj).1)⟩
              case measure => simp [intOf]; omega
    · have h4 : ¬ ((k : Int) < (n : Int)) := by omega
      have he := rcv_end (S := S) (ts := ts) (sp := sp) (show n ≤ k by omega)
      have e1 : rcvL S n = ts := by unfold rcvL; rw [← hr.out, he]
      have e2 : rcvP S n = sp := by unfold rcvP; rw [← hr.out, he]
      rw [← e1] at hown
      rw [← e2] at hsk
      have HO := Lib.hid hown
      have HK := Lib.hid hsk
      have HX := Lib.hid hnx
      clear he e1 e2 hown hsk hnx hr
      go_wp2
      refine bodyPost_ret (v := .tuple #[u5, u6, .int .i64 0]) (by simp [results, Tryz.results25, go_sem]) rfl ⟨_, _, rfl, HO.out, HK.out, HX.out⟩
end Go.Proofs.YthmaoeajbmfmaaaGreatDoor

/-
  Contract of Encode for every telegram.
-/
namespace Go.Proofs.YthmaoeajbmfmaaaGreatDoor
open Go.RowKit
set_option linter.unusedVariables false
set_option linter.unusedSimpArgs false

def zero24 : List Int := List.replicate 24 0
theorem zero24_len : zero24.length = 24 := rfl

set_option maxRecDepth 100000 in
set_option maxHeartbeats 3200000 in
theorem encode_bad (s c o x y z : Int) (h : ¬ GoodT s c o x y z) (w : World) :
    Calls Tryz.prog 19 #[.agg #[.int .i64 s, .int .i64 c, .int .i64 o, .int .i64 x, .int .i64 y, .int .i64 z]] w fun e w' =>
      e = .returned (.tuple #[.agg (zero24.map (Value.int .u8)).toArray, .int .i64 3]) ∧ Below w.heap.size w w' := by
  have K1 := Lib.hid (checkTelegram_all s c o x y z)
  rw [telErr_bad h] at K1
  clear h
  go_enter Tryz.func19, Tryz.ntmps19
  go_wp2_with fail
  refine (K1.out _).mono ?_
  rintro e w1 ⟨rfl, hb1⟩
  have b0 : w1.cell? ⟨w.heap.size, 0, none⟩ = some (.int .i64 s) := by rw [hb1.cell (by simp; try omega)]; simp [go_sem]
  have b1 : w1.cell? ⟨w.heap.size, 1, none⟩ = some (.int .i64 c) := by rw [hb1.cell (by simp; try omega)]; simp [go_sem]
  have b2 : w1.cell? ⟨w.heap.size, 2, none⟩ = some (.int .i64 o) := by rw [hb1.cell (by simp; try omega)]; simp [go_sem]
  have b3 : w1.cell? ⟨w.heap.size, 3, none⟩ = some (.int .i64 x) := by rw [hb1.cell (by simp; try omega)]; simp [go_sem]
  have b4 : w1.cell? ⟨w.heap.size, 4, none⟩ = some (.int .i64 y) := by rw [hb1.cell (by simp; try omega)]; simp [go_sem]
  have b5 : w1.cell? ⟨w.heap.size, 5, none⟩ = some (.int .i64 z) := by rw [hb1.cell (by simp; try omega)]; simp [go_sem]
  have r1 : w1.heap[w.heap.size + 1]? = some (.cells ((List.replicate 24 (Value.int .u8 0)).toArray) 44 (0, 0)) := by
    refine (hb1.block _ (by simp)).trans ?_
    exact heap_alloc2_new w _ _
  have hB : Below w.heap.size w w1 := (((Below.refl _ w).alloc (Nat.le_refl _) _).alloc (by simp) _).trans (hb1.mono (by simp; omega))
  have hs : w.heap.size + 1 < w1.heap.size := (Array.getElem?_eq_some_iff.1 r1).1
  have R1 := Lib.hid r1
  have HB := Lib.hid hB
  clear hb1 r1 hB
  clear b0 b1 b2 b3 b4 b5
  go_wp2_with (refine wpList_store_row rfl 44 (.tmp 2) (.tmp 9) rfl (w.heap.size + 1) rfl _ rfl 44 _ R1.out ?i2 ?i3 ?i4 ?_)
  case i2 => simp [frame_len]
  case i3 => rw [size24]; simp [frame_len]
  case i4 => first | (intro v hv; rfl) | rfl
  go_wp2
  refine bodyPost_ret (results_row_tmp Tryz.results19 _ _ (w.heap.size + 1) 44 _ (0, 0) _ rfl (setRow_heap w1 _ _ _ _ _ R1.out) Tryz.underlying44 rfl (by rw [size24]; simp [frame_len])) rfl ⟨rfl, ?_⟩
  exact HB.out.trans ((OnlyBlk.setRow w1 (w.heap.size + 1) _).below HB.out.size (by omega))

open Classical in
/-- What Encode returns. -/
noncomputable def encL (t : Tel) : List Int := if t.Good then frame t.s t.c t.o t.x t.y t.z else zero24
theorem encL_good {t : Tel} (h : t.Good) : encL t = frame t.s t.c t.o t.x t.y t.z := by unfold encL; simp [h]
theorem encL_bad {t : Tel} (h : ¬ t.Good) : encL t = zero24 := by unfold encL; simp [h]
theorem encL_len (t : Tel) : (encL t).length = 24 := by
  by_cases h : t.Good
  · rw [encL_good h]; rfl
  · rw [encL_bad h]; rfl
theorem encode_all (t : Tel) (w : World) :
    Calls Tryz.prog 19 #[.agg #[.int .i64 t.s, .int .i64 t.c, .int .i64 t.o, .int .i64 t.x, .int .i64 t.y, .int .i64 t.z]] w fun e w' => e = .returned (.tuple #[.agg ((encL t).map (Value.int .u8)).toArray, .int .i64 t.err]) ∧ Below w.heap.size w w' := by
  by_cases h : t.Good
  · have he : t.err = 0 := telErr_good h
    rw [encL_good h, he]
    exact encode_any _ _ _ _ _ _ h w
  · have he : t.err = 3 := telErr_bad h
    rw [encL_bad h, he]
    exact encode_bad _ _ _ _ _ _ h w
end Go.Proofs.YthmaoeajbmfmaaaGreatDoor
