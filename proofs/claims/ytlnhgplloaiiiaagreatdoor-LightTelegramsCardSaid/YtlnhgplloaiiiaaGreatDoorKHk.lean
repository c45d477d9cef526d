/-
  Contract of the reference's Received for any stream.
-/
import Derived.Test.YtlnhgplloaiiiaaGreatDoorKHh
import Derived.Test.YtlnhgplloaiiiaaGreatDoorKHa
import Derived.Test.YtlnhgplloaiiiaaGreatDoorKWr
import Derived.Test.YtlnhgplloaiiiaaGreatDoorKXe
import Derived.Deep.AppendLies
import Derived.Deep.RegionHeldLaw
import Derived.Laws.StructEq
import Derived.Test.YtlnhgplloaiiiaaGreatDoorKBd
namespace Go.Proofs.YtlnhgplloaiiiaaGreatDoor
open Go.RowKit
set_option linter.unusedVariables false
set_option linter.unusedSimpArgs false

/-- A frame while its first bytes are copied. -/
def cpy (F : List Int) (j : Nat) : List Int := F.take j ++ List.replicate (24 - j) 0
theorem cpy_len {F : List Int} (h : F.length = 24) {j : Nat} (hj : j ≤ 24) : (cpy F j).length = 24 := by simp [cpy, h]; omega
theorem cpy_set {F : List Int} (h : F.length = 24) {j : Nat} (hj : j < 24) : (cpy F j).set j (byteAt F j) = cpy F (j + 1) := by
  have hl : (F.take j).length = j := by rw [List.length_take, h]; omega
  unfold cpy
  obtain ⟨d, hd⟩ : ∃ d, 24 - j = d + 1 := ⟨24 - j - 1, by omega⟩
  rw [hd, List.replicate_succ, List.set_append_right _ _ (by omega), hl, Nat.sub_self, List.set_cons_zero, show 24 - (j + 1) = d by omega]
  unfold byteAt
  rw [List.getElem?_eq_getElem (by omega), List.take_succ_eq_append_getElem (show j < F.length by omega), List.append_assoc]
  rfl
theorem cpy_24 {F : List Int} (h : F.length = 24) : cpy F 24 = F := by simp [cpy, List.take_of_length_le, h]
theorem Tryz.infoRefTel : (Tryz.prog.info? 107).map (fun i => (i.zero, i.size, i.bytes)) = some (some (.agg #[.int .i64 0, .int .i64 0, .int .i64 0, .int .i64 0, .int .i64 0, .int .i64 0]), 6, 48) := by kernel_rfl

set_option maxRecDepth 100000 in
set_option maxHeartbeats 12800000 in
theorem refReceived_all (S : List Int) (a : Option Addr) (n cp : Nat) (hm : n ≤ 12288) (w : World) (hA : AnyBytes w a n S) :
    Calls Tryz.prog 74 #[.slice a n cp] w fun e w' =>
      ∃ v1 v2, e = .returned (.tuple #[v1, v2, .int .i64 0]) ∧ w'.ownsRow w.heap.size 107 6 v1 (rcvL S n).length ((rcvL S n).flatMap Tel.val) ∧ w'.ownsRow w.heap.size 70 2 v2 (rcvP S n).length ((rcvP S n).flatMap qval) ∧ Below w.heap.size w w' := by
  obtain ⟨i0, hi, hz0, hz1, hz2⟩ := info_parts Tryz.infoRefTel
  obtain ⟨j0, hj, hy0, hy1, hy2⟩ := info_parts Tryz.infoSpan
  have HA := Lib.hid hA
  have i1 : ((n : Int) ≤ 12288) := by omega
  have hi36 : (Tryz.prog.info? 108).map (·.size) = some 24 := size24
  clear hA
  go_enter Tryz.func74, Tryz.ntmps74
  go_wp2
  go_loopw [5, 6, 7] (fun out sk i wr => ∃ (k : Nat) (ts : List Tel) (sp : List (Int × Int)), i = .int .i64 k ∧ k ≤ n + 23 ∧ ts.length ≤ k ∧ sp.length ≤ k ∧ Hid (rcv S n n k ts sp = rcv S n n 0 [] []) ∧
      wr.ownsRow w.heap.size 107 6 out ts.length (ts.flatMap Tel.val) ∧ wr.ownsRow w.heap.size 70 2 sk sp.length (sp.flatMap qval) ∧ Below w.heap.size w wr)
    (fun _ _ i _ => n - (intOf i).toNat)
  case atStart => exact ⟨0, [], [], rfl, by omega, by simp, by simp, Lib.hid rfl, World.ownsRow_nil _ _ _ _, World.ownsRow_nil _ _ _ _, Below.refl _ _⟩
  case round =>
    obtain ⟨k, ts, sp, rfl, hk, hts, hsp, hr, hown, hsk, hnx⟩ := hrel
    have hsz : w.heap.size ≤ wr.heap.size := hnx.size
    by_cases hlt : k < n
    · have h4 : (k : Int) < (n : Int) := by omega
      have h5 : k ≤ 12311 := by omega
      have h6 : (k : Int) ≤ 12311 := by omega
      obtain ⟨b, q, rfl, hb, hc⟩ := HA.out.2 k hlt
      have hS := HA.out.1
      have hb2 : b < wr.heap.size := by omega
      have hc2 : wr.rangeAt b q (S.map (Value.int .u8)) := fun i v hv => by rw [hnx.cell (by exact hb)]; exact hc i v hv
      by_cases ho : okAt S n k = true
      · have h24 : k + 24 ≤ n := by
          unfold okAt at ho
          split at ho
          · assumption
          · cases ho
        have hF := streamAt_bytes hS h24
        have hE : decErr (streamAt S k) = 0 := by
          unfold okAt at ho
          rw [if_pos h24] at ho
          simpa using ho
        have ht : telAt S n k = decTel (streamAt S k) := by unfold telAt; rw [if_pos h24]
        have hstep := rcv_hit (ts := ts) (sp := sp) hlt ho
        have KD := Lib.hid (fun w1 => refDecode_all (streamAt S k) hF w1)
        obtain ⟨t, ht2⟩ : ∃ t, decTel (streamAt S k) = t := ⟨_, rfl⟩
        rw [ht, ht2] at hstep
        rw [hE, ht2] at KD
        unfold Tel.agg at KD
        have hcell : ∀ j, j < 24 → wr.cell? ⟨b, q + (k + j), none⟩ = some (.int .u8 (byteAt (streamAt S k) j)) := fun j hj => by
          refine hc2 (k + j) _ ?_
          have hj2 : k + j < S.length := by rw [hS.1]; omega
          unfold byteAt streamAt
          rw [List.getElem?_map, List.getElem?_take_of_lt hj, List.getElem?_drop, List.getElem?_eq_getElem hj2]; rfl
        obtain ⟨F, hFF⟩ : ∃ F, streamAt S k = F := ⟨_, rfl⟩
        rw [hFF] at hF hcell KD
        have hl := hF.1
        have HST : Hid (rcv S n n (k + 24) (ts ++ [t]) sp = rcv S n n 0 [] []) := Lib.hid (hstep.symm.trans hr.out)
        have HFL := Lib.hid (flat_snoc ts t)
        obtain ⟨Ft, hFt⟩ : ∃ F, ts.flatMap Tel.val = F := ⟨_, rfl⟩
        obtain ⟨G, hG⟩ : ∃ G, sp.flatMap qval = G := ⟨_, rfl⟩
        obtain ⟨m1, hm1⟩ : ∃ m, ts.length = m := ⟨_, rfl⟩
        obtain ⟨m2, hm2⟩ : ∃ m, sp.length = m := ⟨_, rfl⟩
        rw [hFt] at HFL
        rw [hFt, hm1] at hown
        rw [hG, hm2] at hsk
        rw [hm1] at hts
        rw [hm2] at hsp
        have HM := Lib.hid (And.intro hm1 (And.intro hm2 hG))
        have HSK := Lib.hid hsk
        have HOWN := Lib.hid hown
        have HNX := Lib.hid hnx
        have HCELL := Lib.hid hcell
        have HL := Lib.hid hl
        have hn24 : (k : Int) + 24 ≤ (n : Int) := by omega
        clear ho ht ht2 hE hstep hr hc hc2 hS hF hFF hFt hG hm1 hm2 hsk hown hnx HA hcell hl
        go_wp2_with fail
        obtain ⟨W0, hW0⟩ : ∃ W0, wr.alloc (.cells ((List.replicate 24 (Value.int .u8 0)).toArray) 108) = W0 := ⟨_, rfl⟩
        have hk0 : HasBlk W0 wr.heap.size 108 (cpy F 0) := by
          rw [← hW0]
          have h := heap_alloc_new wr (.cells ((List.replicate 24 (Value.int .u8 0)).toArray) 108)
          simpa [HasBlk, cpy, List.replicate] using h
        have hB0 : Below wr.heap.size wr W0 := by rw [← hW0]; exact (Below.refl _ wr).alloc (Nat.le_refl _) _
        have hz00 : W0.heap.size = wr.heap.size + 1 := by rw [← hW0]; simp
        simp only [List.replicate] at hW0
        rw [hW0]
        have HZ0 := Lib.hid hz00
        have HB0 := Lib.hid hB0
        have HK0 := Lib.hid hk0
        clear hW0 hz00 hB0 hk0
        obtain ⟨wo, hwo⟩ : ∃ wo : World, wo = wr := ⟨_, rfl⟩
        subst hwo
        go_loopw [9] (fun i wI => ∃ j : Nat, j ≤ 24 ∧ i = .int .i64 j ∧ HasBlk wI wo.heap.size 108 (cpy F j) ∧ OnlyBlk W0 wI wo.heap.size)
          (fun i _ => 24 - (intOf i).toNat)
        case atStart => exact ⟨0, Nat.zero_le _, rfl, HK0.out, ⟨⟨rfl, rfl, rfl, Nat.le_refl _, fun _ _ _ => rfl⟩, rfl⟩⟩
        case round =>
          obtain ⟨j, hj, rfl, hkj, hoj⟩ := hrel
          by_cases hj24 : j < 24
          · have hs := cpy_set HL.out hj24
            have hc1 : wr.cell? ⟨b, q + (k + j), none⟩ = some (.int .u8 (byteAt F j)) := hoj.cell ((HB0.out.cell (p := ⟨b, q + (k + j), none⟩) hb2).trans (HCELL.out j hj24)) (by omega)
            have hc3 := hkj.cell (j := j) (v := (cpy F j)[j]?.getD 0) (by rw [List.getElem?_eq_getElem (by rw [cpy_len HL.out hj]; exact hj24)]; rfl)
            have hf3 := hkj.frozen j
            have HKN : Hid (HasBlk (wr.setCell ⟨wo.heap.size, j, none⟩ (.int .u8 (byteAt F j))) wo.heap.size 108 (cpy F (j + 1))) := Lib.hid (by rw [← hs]; exact hkj.set _ _)
            have HON := Lib.hid (hoj.trans (OnlyBlk.set wr wo.heap.size j (.int .u8 (byteAt F j))))
            obtain ⟨x, hx⟩ : ∃ x, byteAt F j = x := ⟨_, rfl⟩
            rw [hx] at hc1 HKN HON
            have g1 : (j : Int) < 24 := by omega
            have g2 : (k : Int) + (j : Int) < (n : Int) := by omega
            have g3 : (0 : Int) ≤ (k : Int) + (j : Int) := by omega
            have g4 : ((k : Int) + (j : Int)).toNat = k + j := by omega
            clear hs hkj hoj hx
            go_wp2_with fail
            go_roundw
            case rel => exact ⟨j + 1, by omega, by go_num, HKN.out, HON.out⟩
            case measure => simp [intOf]; omega
          · obtain rfl : j = 24 := by omega
            rw [cpy_24 HL.out] at hkj
            obtain ⟨V, hV⟩ : ∃ V, F.map (Value.int .u8) = V := ⟨_, rfl⟩
            have HKJ : Hid (wr.heap[wo.heap.size]? = some (.cells V.toArray 108 (0, 0))) := Lib.hid (by rw [← hV]; exact hkj)
            have V24 : V.length = 24 := by rw [← hV, List.length_map]; exact HL.out
            rw [hV] at KD
            have ho1 := (owns_kept HOWN.out HB0.out (Nat.le_refl _)).kept hoj.1 (.inr fun e => absurd (HOWN.out.lt _ e).2 (Nat.lt_irrefl _))
            have hs1 := (owns_kept HSK.out HB0.out (Nat.le_refl _)).kept hoj.1 (.inr fun e => absurd (HSK.out.lt _ e).2 (Nat.lt_irrefl _))
            have hB1 : Below w.heap.size w wr := (HNX.out.trans (HB0.out.mono hsz)).trans (hoj.below (by have := HZ0.out; omega) hsz)
            have hsz1 := hB1.size
            have HO1 := Lib.hid ho1
            have HS1 := Lib.hid hs1
            have HB1 := Lib.hid hB1
            have hiV : (Tryz.prog.info? 108).map (·.size) = some V.toArray.size := by rw [size24]; simp [V24]
            clear hkj hoj hV V24 ho1 hs1 hB1 HCELL hi36
            go_wp2_with (first
              | (refine wpList_load_row rfl 108 (.tmp 8) rfl wo.heap.size rfl 108 _ (0, 0) _ HKJ.out Tryz.underlying108 rfl hiV ?_)
              | (go_at_call 73; refine (KD.out _).mono ?_; rintro e w2 ⟨rfl, hbd⟩
                 have hown2 := owns_kept HO1.out hbd (Nat.le_refl _)
                 have hsk2 := owns_kept HS1.out hbd (Nat.le_refl _)
                 have HSK2 := Lib.hid hsk2
                 have hs2 := hbd.size
                 clear hsk2)
              | (at_builtin; refine wpList_append_own _ rfl (.tmp 44) (.tmp 46) 123 rfl w.heap.size 107 i0 (.agg #[.int .i64 0, .int .i64 0, .int .i64 0, .int .i64 0, .int .i64 0, .int .i64 0]) 6 48 Tryz.underlying123 hi hz0 hz1 hz2 rfl (by decide) _ m1 _ rfl ((hown2.alloc _).alloc _) ⟨w2.heap.size + 1, 0, none⟩ 1 1 t.val rfl rfl (cells_new6' _ _ _ _ _ _ _ _ _) (by intro u hu; simp [Tel.val] at hu; rcases hu with rfl | rfl | rfl | rfl | rfl | rfl <;> rfl) (by unfold maxLen; omega) (by omega) (by simp; omega) ?_; intro v' w3 hown3 hgrow3 _))
            have hlt' := hown2.lt
            have hB2 : Below w.heap.size w w2 := HB1.out.trans (hbd.mono hsz1)
            have hskE := ((HSK2.out.alloc (.cells #[.int .i64 t.s, .int .i64 t.c, .int .i64 t.o, .int .i64 t.x, .int .i64 t.y, .int .i64 t.z] 107)).alloc (.cells #[.int .i64 t.s, .int .i64 t.c, .int .i64 t.o, .int .i64 t.x, .int .i64 t.y, .int .i64 t.z] 107)).kept hgrow3 (own_ne HSK2.out hown2 (by decide))
            go_roundw
            case rel => exact ⟨k + 24, ts ++ [t], sp, by go_num, by omega, by rw [List.length_append, HM.out.1]; simp; omega, by rw [HM.out.2.1]; omega, HST, by rw [List.length_append, HM.out.1, HFL.out]; exact hown3, by rw [HM.out.2.1, HM.out.2.2]; exact hskE, ((hB2.alloc (by omega) _).alloc (by simp; omega) _).grown hgrow3 (by simp; omega) (fun j hj => (hlt' j hj).1)⟩
            case measure => simp [intOf]; omega
      · have ho := Bool.eq_false_iff.2 ho
        have hstep := rcv_miss (ts := ts) (sp := sp) hlt ho
        have HST : Hid (rcv S n n (k + 1) ts (extL sp k) = rcv S n n 0 [] []) := Lib.hid (hstep.symm.trans hr.out)
        have hD : Hid (k + 24 ≤ n → Bytes24 (streamAt S k) ∧ decErr (streamAt S k) ≠ 0 ∧ ∀ j, j < 24 → wr.cell? ⟨b, q + (k + j), none⟩ = some (.int .u8 (byteAt (streamAt S k) j))) := Lib.hid fun h24 => by
          refine ⟨streamAt_bytes hS h24, ?_, fun j hj => ?_⟩
          · unfold okAt at ho
            rw [if_pos h24] at ho
            simpa using ho
          · refine hc2 (k + j) _ ?_
            have hj2 : k + j < S.length := by rw [hS.1]; omega
            unfold byteAt streamAt
            rw [List.getElem?_map, List.getElem?_take_of_lt hj, List.getElem?_drop, List.getElem?_eq_getElem hj2]; rfl
        obtain ⟨Ft, hFt⟩ : ∃ F, ts.flatMap Tel.val = F := ⟨_, rfl⟩
        obtain ⟨m1, hm1⟩ : ∃ m, ts.length = m := ⟨_, rfl⟩
        rw [hFt, hm1] at hown
        rw [hm1] at hts
        have HM := Lib.hid (And.intro hm1 hFt)
        have HSK := Lib.hid hsk
        have HOWN := Lib.hid hown
        have HNX := Lib.hid hnx
        clear ho hstep hr hc hc2 hS hFt hm1 hsk hown hnx HA
        go_upto_if 24 with fail
        go_cut [5, 7] (fun s5 s7 wc => s7 = .int .i64 k ∧ ∃ W2, W2 = wc ∧ wc.ownsRow w.heap.size 107 6 s5 m1 Ft ∧ wc.ownsRow w.heap.size 70 2 u6 sp.length (sp.flatMap qval) ∧ Below w.heap.size w wc)
        case first =>
          by_cases h24 : k + 24 ≤ n
          · obtain ⟨hF, hE, hcell⟩ := hD.out h24
            have KD := Lib.hid (fun w1 => refDecode_all (streamAt S k) hF w1)
            obtain ⟨F, hFF⟩ : ∃ F, streamAt S k = F := ⟨_, rfl⟩
            rw [hFF] at hF hcell KD hE
            obtain ⟨t, ht2⟩ : ∃ t, decTel F = t := ⟨_, rfl⟩
            obtain ⟨r, hrr⟩ : ∃ r, decErr F = r := ⟨_, rfl⟩
            rw [hrr] at hE KD
            rw [ht2] at KD
            unfold Tel.agg at KD
            have e0 : (r == 0) = false := by simp [hE]
            have hl := hF.1
            obtain ⟨m2, hm2⟩ : ∃ m, sp.length = m := ⟨_, rfl⟩
            have HCELL := Lib.hid hcell
            have HL := Lib.hid hl
            have hn24 : (k : Int) + 24 ≤ (n : Int) := by omega
            clear hF hE hFF ht2 hrr hcell hl hD
            go_wp2_with fail
            obtain ⟨W0, hW0⟩ : ∃ W0, wr.alloc (.cells ((List.replicate 24 (Value.int .u8 0)).toArray) 108) = W0 := ⟨_, rfl⟩
            have hk0 : HasBlk W0 wr.heap.size 108 (cpy F 0) := by
              rw [← hW0]
              have h := heap_alloc_new wr (.cells ((List.replicate 24 (Value.int .u8 0)).toArray) 108)
              simpa [HasBlk, cpy, List.replicate] using h
            have hB0 : Below wr.heap.size wr W0 := by rw [← hW0]; exact (Below.refl _ wr).alloc (Nat.le_refl _) _
            have hz00 : W0.heap.size = wr.heap.size + 1 := by rw [← hW0]; simp
            simp only [List.replicate] at hW0
            rw [hW0]
            have HZ0 := Lib.hid hz00
            have HB0 := Lib.hid hB0
            have HK0 := Lib.hid hk0
            clear hW0 hz00 hB0 hk0
            obtain ⟨wo, hwo⟩ : ∃ wo : World, wo = wr := ⟨_, rfl⟩
            subst hwo
            go_loopw [9] (fun i wI => ∃ j : Nat, j ≤ 24 ∧ i = .int .i64 j ∧ HasBlk wI wo.heap.size 108 (cpy F j) ∧ OnlyBlk W0 wI wo.heap.size)
              (fun i _ => 24 - (intOf i).toNat)
            case atStart => exact ⟨0, Nat.zero_le _, rfl, HK0.out, ⟨⟨rfl, rfl, rfl, Nat.le_refl _, fun _ _ _ => rfl⟩, rfl⟩⟩
            case round =>
              obtain ⟨j, hj, rfl, hkj, hoj⟩ := hrel
              by_cases hj24 : j < 24
              · have hs := cpy_set HL.out hj24
                have hc1 : wr.cell? ⟨b, q + (k + j), none⟩ = some (.int .u8 (byteAt F j)) := hoj.cell ((HB0.out.cell (p := ⟨b, q + (k + j), none⟩) hb2).trans (HCELL.out j hj24)) (by omega)
                have hc3 := hkj.cell (j := j) (v := (cpy F j)[j]?.getD 0) (by rw [List.getElem?_eq_getElem (by rw [cpy_len HL.out hj]; exact hj24)]; rfl)
                have hf3 := hkj.frozen j
                have HKN : Hid (HasBlk (wr.setCell ⟨wo.heap.size, j, none⟩ (.int .u8 (byteAt F j))) wo.heap.size 108 (cpy F (j + 1))) := Lib.hid (by rw [← hs]; exact hkj.set _ _)
                have HON := Lib.hid (hoj.trans (OnlyBlk.set wr wo.heap.size j (.int .u8 (byteAt F j))))
                obtain ⟨x, hx⟩ : ∃ x, byteAt F j = x := ⟨_, rfl⟩
                rw [hx] at hc1 HKN HON
                have g1 : (j : Int) < 24 := by omega
                have g2 : (k : Int) + (j : Int) < (n : Int) := by omega
                have g3 : (0 : Int) ≤ (k : Int) + (j : Int) := by omega
                have g4 : ((k : Int) + (j : Int)).toNat = k + j := by omega
                clear hs hkj hoj hx
                go_wp2_with fail
                go_roundw
                case rel => exact ⟨j + 1, by omega, by go_num, HKN.out, HON.out⟩
                case measure => simp [intOf]; omega
              · obtain rfl : j = 24 := by omega
                rw [cpy_24 HL.out] at hkj
                obtain ⟨V, hV⟩ : ∃ V, F.map (Value.int .u8) = V := ⟨_, rfl⟩
                have HKJ : Hid (wr.heap[wo.heap.size]? = some (.cells V.toArray 108 (0, 0))) := Lib.hid (by rw [← hV]; exact hkj)
                have V24 : V.length = 24 := by rw [← hV, List.length_map]; exact HL.out
                rw [hV] at KD
                have ho1 := (owns_kept HOWN.out HB0.out (Nat.le_refl _)).kept hoj.1 (.inr fun e => absurd (HOWN.out.lt _ e).2 (Nat.lt_irrefl _))
                have hs1 := (owns_kept HSK.out HB0.out (Nat.le_refl _)).kept hoj.1 (.inr fun e => absurd (HSK.out.lt _ e).2 (Nat.lt_irrefl _))
                have hB1 : Below w.heap.size w wr := (HNX.out.trans (HB0.out.mono hsz)).trans (hoj.below (by have := HZ0.out; omega) hsz)
                have hsz1 := hB1.size
                have HO1 := Lib.hid ho1
                have HS1 := Lib.hid hs1
                have HB1 := Lib.hid hB1
                have hiV : (Tryz.prog.info? 108).map (·.size) = some V.toArray.size := by rw [size24]; simp [V24]
                clear hkj hoj hV V24 ho1 hs1 hB1 HCELL hi36
                go_wp2_with (first
                  | (refine wpList_load_row rfl 108 (.tmp 8) rfl wo.heap.size rfl 108 _ (0, 0) _ HKJ.out Tryz.underlying108 rfl hiV ?_)
                  | (go_at_call 73; refine (KD.out _).mono ?_; rintro e w2 ⟨rfl, hbd⟩
                     have HOWN2 := Lib.hid (owns_kept HO1.out hbd (Nat.le_refl _))
                     have HSK2 := Lib.hid (owns_kept HS1.out hbd (Nat.le_refl _))
                     have hs2 := hbd.size))
                have hB2 : Below w.heap.size w w2 := HB1.out.trans (hbd.mono hsz1)
                go_meet
                exact ⟨rfl, _, rfl, HOWN2.out.alloc _, HSK2.out.alloc _, hB2.alloc (by omega) _⟩
          · have hn24 : ¬ ((k : Int) + 24 ≤ (n : Int)) := by omega
            clear hD
            go_wp2_with fail
            go_meet
            exact ⟨rfl, _, rfl, HOWN.out, HSK.out, HNX.out⟩
        case rest =>
          obtain ⟨rfl, W2, rfl, hO2, hS2, hB2⟩ := hcut
          have hlen2 : sp.length ≤ 12311 := by omega
          have HNE := Lib.hid (own_ne hO2 hS2 (by decide))
          have HO2 := Lib.hid hO2
          have HB2 := Lib.hid hB2
          have hsz2 := hB2.size
          have hxl := extL_len sp k
          have hltS := hS2.lt
          by_cases h : sp.length ≠ 0 ∧ (sp[sp.length - 1]?.getD (0, 0)).2 = k
          · have hX : extL sp k = sp.set (sp.length - 1) ((sp[sp.length - 1]?.getD (0, 0)).1, (k : Int) + 1) := by unfold extL; rw [if_pos h]
            obtain ⟨g, c, rfl, hgl, hgB⟩ := owns_some hS2 (by omega)
            obtain ⟨m, hm'⟩ : ∃ m, sp.length = m + 1 := ⟨sp.length - 1, by omega⟩
            have hc1 := (flat_at2 sp m (by omega)).2
            have hs := flat_set2 sp m ((k : Int) + 1) (by omega)
            have e2 : (sp[m]?.getD (0, 0)).2 = k := by have := h.2; rwa [hm', Nat.add_sub_cancel] at this
            rw [e2] at hc1
            have c1 : W2.cell? ⟨g, m * 2 + 1, none⟩ = some (.int .i64 k) := by
              have h := hS2.cells (g := g) rfl (m * 2 + 1) _ hc1
              rwa [Addr.add_mid, Nat.zero_add] at h
            have f1 := hS2.frozenAt (m * 2 + 1)
            have hst := (hS2.stored (m * 2 + 1) (.int .i64 ((k : Int) + 1))).1
            rw [hs] at hst
            have hXl : (extL sp k).length = m + 1 := by rw [hX, List.length_set, hm']
            rw [hm', Nat.add_sub_cancel] at hX
            rw [← hX, hm'] at hst
            have HXL := Lib.hid hXl
            have HST2 := Lib.hid hst
            have HOE := Lib.hid (HO2.out.kept (OnlyBlk.set W2 g (m * 2 + 1) (.int .i64 ((k : Int) + 1))).1 HNE.out)
            have HBE := Lib.hid (HB2.out.setCell (p := ⟨g, m * 2 + 1, none⟩) hgB (.int .i64 ((k : Int) + 1)))
            have k0 : (0 : Int) ≤ (m : Int) := by omega
            have k1 : (m : Int) < (m : Int) + 1 := by omega
            have k2 : ((k : Int) == k) = true := by simp
            have k3 : (m : Int) ≤ 13000 := by omega
            rw [hm'] at hxl hsp
            obtain ⟨X, hXX⟩ : ∃ X, extL sp k = X := ⟨_, rfl⟩
            rw [hXX] at HXL HST2 HST hxl
            rw [hm']
            clear h hX hS2 hc1 hs e2 hst hm' hXX hXl hlen2 hltS hO2 hB2 HNE HSK HOWN hD hxl
            go_wp2_with fail
            go_roundw
            case rel => exact ⟨k + 1, ts, X, by go_num, by omega, by rw [HM.out.1]; omega, by rw [HXL.out]; omega, HST, by rw [HM.out.1, HM.out.2]; exact HOE.out, by rw [HXL.out]; exact HST2.out, HBE.out⟩
            case measure => simp [intOf]; omega
          · have hX : extL sp k = sp ++ [((k : Int), (k : Int) + 1)] := by unfold extL; rw [if_neg h]
            have hF : (extL sp k).flatMap qval = sp.flatMap qval ++ [.int .i64 (k : Int), .int .i64 ((k : Int) + 1)] := by rw [hX]; simp [qval]
            have hL : (extL sp k).length = sp.length + 1 := by rw [hX]; simp
            obtain ⟨X, hXX⟩ : ∃ X, extL sp k = X := ⟨_, rfl⟩
            rw [hXX] at hF hL HST
            by_cases h0 : sp.length = 0
            · obtain ⟨Fs, hFl⟩ : ∃ F, sp.flatMap qval = F := ⟨_, rfl⟩
              rw [hFl, h0] at hS2
              rw [hFl] at hF
              rw [h0] at hL
              obtain ⟨aa, c, rfl⟩ := nil_slice hS2
              have HF := Lib.hid hF
              have HL2 := Lib.hid hL
              clear h h0 hX hXX hFl hF hL hO2 hB2 hlen2 hltS HSK HOWN hD hxl
              go_wp2_with (at_builtin; refine wpList_append_own _ rfl (.tmp 71) (.tmp 76) 116 rfl w.heap.size 70 j0 (.agg #[.int .i64 0, .int .i64 0]) 2 16 Tryz.underlying116 hj hy0 hy1 hy2 rfl (by decide) _ 0 _ rfl (hS2.alloc _) ⟨W2.heap.size, 0, none⟩ 1 1 [.int .i64 (k : Int), .int .i64 ((k : Int) + 1)] rfl rfl (cells_newQ _ _ _ _) (by intro u hu; simp at hu; rcases hu with rfl | rfl <;> rfl) (by unfold maxLen; omega) (by omega) (by simp; omega) ?_; intro v' w3 hown3 hgrow3 _)
              have hlt' := hS2.lt
              have hoE := (HO2.out.alloc (.cells #[.int .i64 (k : Int), .int .i64 ((k : Int) + 1)] 70)).kept hgrow3 HNE.out
              go_roundw
              case rel => exact ⟨k + 1, ts, X, by go_num, by omega, by rw [HM.out.1]; omega, by rw [HL2.out]; omega, HST, by rw [HM.out.1, HM.out.2]; exact hoE, by rw [HL2.out, HF.out]; exact hown3, (HB2.out.alloc (by omega) _).grown hgrow3 (by simp; omega) (fun j hj => (hlt' j hj).1)⟩
              case measure => simp [intOf]; omega
            · obtain ⟨g, c, rfl, hgl, hgB⟩ := owns_some hS2 (by omega)
              obtain ⟨m, hm'⟩ : ∃ m, sp.length = m + 1 := ⟨sp.length - 1, by omega⟩
              have hc1 := (flat_at2 sp m (by omega)).2
              obtain ⟨x, hx⟩ : ∃ x, (sp[m]?.getD (0, 0)).2 = x := ⟨_, rfl⟩
              have e2 : x ≠ k := fun e => h ⟨h0, by rw [hm', Nat.add_sub_cancel, hx]; exact e⟩
              rw [hx] at hc1
              have c1 : W2.cell? ⟨g, m * 2 + 1, none⟩ = some (.int .i64 x) := by
                have h := hS2.cells (g := g) rfl (m * 2 + 1) _ hc1
                rwa [Addr.add_mid, Nat.zero_add] at h
              obtain ⟨Fs, hFl⟩ : ∃ F, sp.flatMap qval = F := ⟨_, rfl⟩
              rw [hFl, hm'] at hS2
              rw [hFl] at hF
              rw [hm'] at hL hsp
              have HF := Lib.hid hF
              have HL2 := Lib.hid hL
              have k0 : (0 : Int) ≤ (m : Int) := by omega
              have k1 : (m : Int) < (m : Int) + 1 := by omega
              have k2 : (x == (k : Int)) = false := by simp [e2]
              have k3 : (m : Int) ≤ 13000 := by omega
              have k5 : m ≤ 13000 := by omega
              have HS2 := Lib.hid hS2
              rw [hm']
              clear h h0 hX hXX hFl hF hL hO2 hB2 hlen2 hltS HSK HOWN hD hxl hm' hc1 hx e2 hS2
              go_wp2_with (at_builtin; refine wpList_append_own _ rfl (.tmp 71) (.tmp 76) 116 rfl w.heap.size 70 j0 (.agg #[.int .i64 0, .int .i64 0]) 2 16 Tryz.underlying116 hj hy0 hy1 hy2 rfl (by decide) _ (m + 1) _ rfl (HS2.out.alloc _) ⟨W2.heap.size, 0, none⟩ 1 1 [.int .i64 (k : Int), .int .i64 ((k : Int) + 1)] rfl rfl (cells_newQ _ _ _ _) (by intro u hu; simp at hu; rcases hu with rfl | rfl <;> rfl) (by unfold maxLen; omega) (by omega) (by simp; omega) ?_; intro v' w3 hown3 hgrow3 _)
              have hlt' := HS2.out.lt
              have hoE := (HO2.out.alloc (.cells #[.int .i64 (k : Int), .int .i64 ((k : Int) + 1)] 70)).kept hgrow3 HNE.out
              go_roundw
              case rel => exact ⟨k + 1, ts, X, by go_num, by omega, by rw [HM.out.1]; omega, by rw [HL2.out]; omega, HST, by rw [HM.out.1, HM.out.2]; exact hoE, by rw [HL2.out, HF.out]; exact hown3, (HB2.out.alloc (by omega) _).grown hgrow3 (by simp; omega) (fun j hj => (hlt' j hj).1)⟩
              case measure => simp [intOf]; omega
    · have h4 : ¬ ((k : Int) < (n : Int)) := by omega
      have he := rcv_end (S := S) (ts := ts) (sp := sp) (show n ≤ k by omega)
      have e1 : rcvL S n = ts := by unfold rcvL; rw [← hr.out, he]
      have e2 : rcvP S n = sp := by unfold rcvP; rw [← hr.out, he]
      rw [← e1] at hown
      rw [← e2] at hsk
      have HO := Lib.hid hown
      have HK := Lib.hid hsk
      have HX := Lib.hid hnx
      clear he e1 e2 hown hsk hnx hr
      go_wp2
      refine bodyPost_ret (v := .tuple #[u5, u6, .int .i64 0]) (by simp [results, Tryz.results74, go_sem]) rfl ⟨_, _, rfl, HO.out, HK.out, HX.out⟩
end Go.Proofs.YtlnhgplloaiiiaaGreatDoor

/-
  Contract of Encode for every telegram.
-/
namespace Go.Proofs.YtlnhgplloaiiiaaGreatDoor
open Go.RowKit
set_option linter.unusedVariables false
set_option linter.unusedSimpArgs false

def zero24 : List Int := List.replicate 24 0
theorem zero24_len : zero24.length = 24 := rfl

set_option maxRecDepth 100000 in
set_option maxHeartbeats 3200000 in
theorem encode_bad (s c o x y z : Int) (h : ¬ GoodT s c o x y z) (w : World) :
    Calls Tryz.prog 68 #[.agg #[.int .i64 s, .int .i64 c, .int .i64 o, .int .i64 x, .int .i64 y, .int .i64 z]] w fun e w' =>
      e = .returned (.tuple #[.agg (zero24.map (Value.int .u8)).toArray, .int .i64 3]) ∧ Below w.heap.size w w' := by
  have K1 := Lib.hid (checkTelegram_all s c o x y z)
  rw [telErr_bad h] at K1
  clear h
  go_enter Tryz.func68, Tryz.ntmps68
  go_wp2_with fail
  refine (K1.out _).mono ?_
  rintro e w1 ⟨rfl, hb1⟩
  have b0 : w1.cell? ⟨w.heap.size, 0, none⟩ = some (.int .i64 s) := by rw [hb1.cell (by simp; try omega)]; simp [go_sem]
  have b1 : w1.cell? ⟨w.heap.size, 1, none⟩ = some (.int .i64 c) := by rw [hb1.cell (by simp; try omega)]; simp [go_sem]
  have b2 : w1.cell? ⟨w.heap.size, 2, none⟩ = some (.int .i64 o) := by rw [hb1.cell (by simp; try omega)]; simp [go_sem]
  have b3 : w1.cell? ⟨w.heap.size, 3, none⟩ = some (.int .i64 x) := by rw [hb1.cell (by simp; try omega)]; simp [go_sem]
  have b4 : w1.cell? ⟨w.heap.size, 4, none⟩ = some (.int .i64 y) := by rw [hb1.cell (by simp; try omega)]; simp [go_sem]
  have b5 : w1.cell? ⟨w.heap.size, 5, none⟩ = some (.int .i64 z) := by rw [hb1.cell (by simp; try omega)]; simp [go_sem]
  have r1 : w1.heap[w.heap.size + 1]? = some (.cells ((List.replicate 24 (Value.int .u8 0)).toArray) 108 (0, 0)) := by
    refine (hb1.block _ (by simp)).trans ?_
    exact heap_alloc2_new w _ _
  have hB : Below w.heap.size w w1 := (((Below.refl _ w).alloc (Nat.le_refl _) _).alloc (by simp) _).trans (hb1.mono (by simp; omega))
  have hs : w.heap.size + 1 < w1.heap.size := (Array.getElem?_eq_some_iff.1 r1).1
  have R1 := Lib.hid r1
  have HB := Lib.hid hB
  clear hb1 r1 hB
  clear b0 b1 b2 b3 b4 b5
  go_wp2_with (refine wpList_store_row rfl 108 (.tmp 2) (.tmp 9) rfl (w.heap.size + 1) rfl _ rfl 108 _ R1.out ?i2 ?i3 ?i4 ?_)
  case i2 => simp [frame_len]
  case i3 => rw [size24]; simp [frame_len]
  case i4 => first | (intro v hv; rfl) | rfl
  go_wp2
  refine bodyPost_ret (results_row_tmp Tryz.results68 _ _ (w.heap.size + 1) 108 _ (0, 0) _ rfl (setRow_heap w1 _ _ _ _ _ R1.out) Tryz.underlying108 rfl (by rw [size24]; simp [frame_len])) rfl ⟨rfl, ?_⟩
  exact HB.out.trans ((OnlyBlk.setRow w1 (w.heap.size + 1) _).below HB.out.size (by omega))

open Classical in
/-- What Encode returns. -/
noncomputable def encL (t : Tel) : List Int := if t.Good then frame t.s t.c t.o t.x t.y t.z else zero24
theorem encL_good {t : Tel} (h : t.Good) : encL t = frame t.s t.c t.o t.x t.y t.z := by unfold encL; simp [h]
theorem encL_bad {t : Tel} (h : ¬ t.Good) : encL t = zero24 := by unfold encL; simp [h]
theorem encL_len (t : Tel) : (encL t).length = 24 := by
  by_cases h : t.Good
  · rw [encL_good h]; rfl
  · rw [encL_bad h]; rfl
theorem encode_all (t : Tel) (w : World) :
    Calls Tryz.prog 68 #[.agg #[.int .i64 t.s, .int .i64 t.c, .int .i64 t.o, .int .i64 t.x, .int .i64 t.y, .int .i64 t.z]] w fun e w' => e = .returned (.tuple #[.agg ((encL t).map (Value.int .u8)).toArray, .int .i64 t.err]) ∧ Below w.heap.size w w' := by
  by_cases h : t.Good
  · have he : t.err = 0 := telErr_good h
    rw [encL_good h, he]
    exact encode_any _ _ _ _ _ _ h w
  · have he : t.err = 3 := telErr_bad h
    rw [encL_bad h, he]
    exact encode_bad _ _ _ _ _ _ h w
end Go.Proofs.YtlnhgplloaiiiaaGreatDoor

/-
  Contract of the reference's Encode, for right telegrams.
-/
namespace Go.Proofs.YtlnhgplloaiiiaaGreatDoor
open Go.RowKit
set_option linter.unusedVariables false
set_option linter.unusedSimpArgs false

/-- A value owns these bytes. -/
def Bts (w : World) (B : Nat) (v : Value) (L : List Int) : Prop := w.ownsRow B 5 1 v L.length (L.map (Value.int .u8))
theorem Bts.lit (w : World) (B : Nat) (hB : B ≤ w.heap.size) (a b : Int) : Bts (w.alloc (.cells #[.int .u8 a, .int .u8 b] 5)) B (.slice (some ⟨w.heap.size, 0, none⟩) 2 2) [a, b] :=
  ⟨rfl, .inr ⟨w.heap.size, 2, #[.int .u8 a, .int .u8 b], rfl, hB, blk_alloc_new _ _, Nat.le_refl 2, by unfold maxLen; omega, rfl, rfl⟩⟩
theorem Bts.news {w : World} {B : Nat} {g c n : Nat} {L : List Int} (h : w.ownsRow B 5 1 (.slice (some ⟨g, 0, none⟩) n c) n (L.map (Value.int .u8))) : ∀ j u, (L.map (Value.int .u8))[j]? = some u → w.cell? ((⟨g, 0, none⟩ : Addr).add j) = some u := h.cells (g := g) rfl
theorem one_u8 (L : List Int) : ∀ u ∈ L.map (Value.int .u8), u.oneCell' = true := by
  intro u hu
  obtain ⟨x, _, rfl⟩ := List.mem_map.1 hu
  rfl

theorem refParts_any (x y z : Int) (w : World) :
    Calls Tryz.prog 149 #[.agg #[.int .i64 x, .int .i64 y, .int .i64 z]] w fun e w' => ∃ g, e = .returned (.slice (some ⟨g, 0, none⟩) 3 3) ∧ w'.ownsRow w.heap.size 3 1 (.slice (some ⟨g, 0, none⟩) 3 3) 3 [.int .i64 x, .int .i64 y, .int .i64 z] ∧ Below w.heap.size w w' := by
  go_enter Tryz.func149, Tryz.ntmps149
  go_wp2
  go_ret
  refine ⟨w.heap.size + 1, rfl, ⟨rfl, .inr ⟨w.heap.size + 1, 3, #[.int .i64 x, .int .i64 y, .int .i64 z], rfl, by omega, heap_alloc2_new w _ _, Nat.le_refl 3, by unfold maxLen; omega, rfl, rfl⟩⟩, ((Below.refl _ w).alloc (Nat.le_refl _) _).alloc (by simp) _⟩

/-- One of the three parts of a telegram's vector, and the bytes that it lays. -/
theorem part_step (s c o x y z : Int) (k : Nat) (hk : k < 3) : ∃ v, [Value.int .i64 x, .int .i64 y, .int .i64 z][k]? = some (.int .i64 v) ∧ (v = x ∨ v = y ∨ v = z) ∧
    ((frame20 s c o x y z).take (5 + 4 * (k + 1))).map (Value.int .u8) = ((frame20 s c o x y z).take (5 + 4 * k)).map (Value.int .u8) ++ (bytesL (v + 1048576) 4 4).map (Value.int .u8) := by
  obtain rfl | rfl | rfl : k = 0 ∨ k = 1 ∨ k = 2 := by omega
  · exact ⟨x, rfl, .inl rfl, rfl⟩
  · exact ⟨y, rfl, .inr (.inl rfl), rfl⟩
  · exact ⟨z, rfl, .inr (.inr rfl), rfl⟩
theorem flip_step (s c o x y z : Int) (hs : 0 ≤ s ∧ s ≤ 255) (j : Nat) (h1 : 1 ≤ j) (hj : j < 4) : ∃ b, (((frame20 s c o x y z).take (16 + j)).map (Value.int .u8))[j]? = some (.int .u8 b) ∧ (0 ≤ b ∧ b ≤ 255) ∧
    ((frame20 s c o x y z).take (16 + (j + 1))).map (Value.int .u8) = ((frame20 s c o x y z).take (16 + j)).map (Value.int .u8) ++ [.int .u8 (255 - b)] := by
  obtain rfl | rfl | rfl : j = 1 ∨ j = 2 ∨ j = 3 := by omega
  · exact ⟨s, rfl, hs, rfl⟩
  · exact ⟨byt c 1, rfl, byt_bd _ _, rfl⟩
  · exact ⟨byt c 0, rfl, byt_bd _ _, rfl⟩
theorem frame_step (s c o x y z : Int) (j : Nat) (hj : j = 4) : (frame s c o x y z).map (Value.int .u8) = ((frame20 s c o x y z).take (16 + j)).map (Value.int .u8) ++ (bytesL (chkOf (frame20 s c o x y z)) 4 4).map (Value.int .u8) := by subst hj; rfl

set_option maxRecDepth 100000 in
set_option maxHeartbeats 12800000 in
theorem refEncode_any (s c o x y z : Int) (h : GoodT s c o x y z) (w : World) :
    Calls Tryz.prog 72 #[.agg #[.int .i64 s, .int .i64 c, .int .i64 o, .int .i64 x, .int .i64 y, .int .i64 z]] w fun e w' => e = .returned (.agg ((frame s c o x y z).map (Value.int .u8)).toArray) ∧ Below w.heap.size w w' := by
  obtain ⟨i0, hi, hz0, hz1, hz2⟩ := info_parts Tryz.infoByte
  obtain ⟨h1, h2, h3, h4, h5, h6⟩ := h
  obtain ⟨W0, hW0⟩ : ∃ W0, (w.alloc (.cells #[.int .i64 s, .int .i64 c, .int .i64 o, .int .i64 x, .int .i64 y, .int .i64 z] 107)).alloc (.cells (List.replicate 24 (Value.int .u8 0)).toArray 108) = W0 := ⟨_, rfl⟩
  have hB0 : Below w.heap.size w W0 := by rw [← hW0]; exact ((Below.refl _ w).alloc (Nat.le_refl _) _).alloc (by simp) _
  have hz00 : W0.heap.size = w.heap.size + 2 := by rw [← hW0]; simp
  have bT : W0.heap[w.heap.size]? = some (.cells #[.int .i64 s, .int .i64 c, .int .i64 o, .int .i64 x, .int .i64 y, .int .i64 z] 107 (0, 0)) := by rw [← hW0]; exact blk_alloc_other (blk_alloc_new _ _) _
  have bR : W0.heap[w.heap.size + 1]? = some (.cells (List.replicate 24 (Value.int .u8 0)).toArray 108 (0, 0)) := by rw [← hW0]; exact heap_alloc2_new w _ _
  simp only [List.replicate] at hW0
  have a0 : W0.cell? ⟨w.heap.size, 0, none⟩ = some (.int .i64 s) := by rw [cell_of_row W0 _ 0 _ _ (0, 0) bT]; rfl
  have a2 : W0.cell? ⟨w.heap.size, 2, none⟩ = some (.int .i64 o) := by rw [cell_of_row W0 _ 2 _ _ (0, 0) bT]; rfl
  have a3 : W0.cell? ⟨w.heap.size, 3, none⟩ = some (.int .i64 x) := by rw [cell_of_row W0 _ 3 _ _ (0, 0) bT]; rfl
  have a4 : W0.cell? ⟨w.heap.size, 4, none⟩ = some (.int .i64 y) := by rw [cell_of_row W0 _ 4 _ _ (0, 0) bT]; rfl
  have a5 : W0.cell? ⟨w.heap.size, 5, none⟩ = some (.int .i64 z) := by rw [cell_of_row W0 _ 5 _ _ (0, 0) bT]; rfl
  have a1 : W0.cell? ⟨w.heap.size, 1, none⟩ = some (.int .i64 c) := by rw [cell_of_row W0 _ 1 _ _ (0, 0) bT]; rfl
  have HBT := Lib.hid bT
  have HBR := Lib.hid bR
  have HB0 := Lib.hid hB0
  have HZ0 := Lib.hid hz00
  have hlt0 : w.heap.size < W0.heap.size := by omega
  clear bT bR hB0 hz00
  have hR : Blw W0.heap.size W0 W0.drew := show Below _ _ _ from (Below.refl W0.heap.size W0).drew
  have hRa : ∀ ob : Obj, Blw W0.heap.size W0 ((W0.alloc ob).drew) := fun ob => show Below _ _ _ from ((Below.refl W0.heap.size W0).alloc (Nat.le_refl _) ob).drew
  have HS : Hid (∀ w1 : World, Below W0.heap.size W0 w1 → w1.cell? ⟨w.heap.size, 0, none⟩ = some (.int .i64 s) ∧ w1.cell? ⟨w.heap.size, 1, none⟩ = some (.int .i64 c) ∧ Blw W0.heap.size W0 w1) :=
    Lib.hid fun w1 hb => ⟨by rw [hb.cell (by show _ < W0.heap.size; omega)]; exact a0, by rw [hb.cell (by show _ < W0.heap.size; omega)]; exact a1, hb⟩
  have H4 : Hid (∀ w1 : World, Below W0.heap.size W0 w1 → w1.cell? ⟨w.heap.size, 2, none⟩ = some (.int .i64 o) ∧ w1.cell? ⟨w.heap.size, 3, none⟩ = some (.int .i64 x) ∧ w1.cell? ⟨w.heap.size, 4, none⟩ = some (.int .i64 y) ∧ w1.cell? ⟨w.heap.size, 5, none⟩ = some (.int .i64 z)) :=
    Lib.hid fun w1 hb => ⟨by rw [hb.cell (by show _ < W0.heap.size; omega)]; exact a2, by rw [hb.cell (by show _ < W0.heap.size; omega)]; exact a3, by rw [hb.cell (by show _ < W0.heap.size; omega)]; exact a4, by rw [hb.cell (by show _ < W0.heap.size; omega)]; exact a5⟩
  have HWS : Hid (IntKind.u8.wrap s = s) := Lib.hid (IntWalk.u8_in _ ⟨by omega, by omega⟩)
  clear a2 a3 a4 a5
  have KB : Hid (∀ w1 : World, Blw W0.heap.size W0 w1 → Calls Tryz.prog 148 #[.int .i64 c, .int .i64 2] w1 fun e w' => ∃ g cp, e = .returned (.slice (some ⟨g, 0, none⟩) 2 cp) ∧ w'.ownsRow w1.heap.size 5 1 (.slice (some ⟨g, 0, none⟩) 2 cp) 2 ([byt c 1, byt c 0].map (Value.int .u8)) ∧ Below w1.heap.size w1 w' ∧ Below W0.heap.size W0 w') :=
    Lib.hid fun w1 (hb : Below W0.heap.size W0 w1) => (refBytes_any c 2 h2.1 (by omega) (by omega) w1).mono fun e w' ⟨u, he, ho, hw⟩ => by
      obtain ⟨g, cp, rfl, _, _⟩ := owns_some ho (by omega)
      exact ⟨g, cp, he, ho, hw, hb.trans (hw.mono hb.size)⟩
  go_enter Tryz.func72, Tryz.ntmps72
  go_upto_region 1 with fail
  try rw [hW0]
  clear hW0
  go_cut [3] (fun s3 wr => ∃ v W1, v = s3 ∧ W1 = wr ∧ W1.ownsRow W0.heap.size 5 1 v 4 ([77, s, byt c 1, byt c 0].map (Value.int .u8)) ∧ Below W0.heap.size W0 W1)
  case first =>
    go_region_held3 (fun w' => w'.cell? ⟨w.heap.size, 0, none⟩ = some (.int .i64 s) ∧ w'.cell? ⟨w.heap.size, 1, none⟩ = some (.int .i64 c) ∧ Blw W0.heap.size W0 w')
      (first
        | exact HS.out _ hb3
        | exact HS.out _ (hb2.alloc hb2.size _)
        | exact HS.out _ hb2
        | (go_keep; done)
        | (go_split_ands; refine ⟨?_, ?_, ?_⟩ <;> first | (with_reducible assumption) | exact hRa _ | (simp [go_sem, *]; done)))
      (first
        | (go_at_call 148; refine (KB.out _ (by first | assumption | exact hRa _)).mono ?_; rintro e w2 ⟨g2, cp2, rfl, ho2, hbA, hb2⟩)
        | (refine step_append_lies _ (by rfl) (.tmp 13) (.tmp 16) 109 (by rfl) W0.heap.size 5 i0 (.int .u8 0) 1 1 Tryz.underlying109 hi hz0 hz1 hz2 (by rfl) (by omega) (.slice (some ⟨W0.heap.size, 0, none⟩) 2 2) 2 _ (by rfl) (owns_kept (Bts.lit W0 W0.heap.size (Nat.le_refl _) 77 (IntKind.u8.wrap s)).drew hbA (Nat.le_refl _)) ⟨g2, 0, none⟩ 2 cp2 ([byt c 1, byt c 0].map (Value.int .u8)) (by rfl) (by rfl) (Bts.news ho2) (one_u8 _) (by omega) (by unfold maxLen; omega) (by omega) hb2.size w2.heap.size (by rfl) ?_; intro g3 cp3 w3 ho3 hgr3 _ _; (have hb3 := hb2.grown hgr3 hb2.size (fun k hk => by cases hk; exact Nat.le_refl _)))
        | (refine step_append_lies _ (by rfl) (.tmp 13) (.tmp 16) 109 (by rfl) W0.heap.size 5 i0 (.int .u8 0) 1 1 Tryz.underlying109 hi hz0 hz1 hz2 (by rfl) (by omega) (.slice (some ⟨w2.heap.size, 0, none⟩) 2 2) 2 _ (by rfl) (Bts.lit w2 W0.heap.size hb2.size 77 (IntKind.u8.wrap s)) ⟨g2, 0, none⟩ 2 cp2 ([byt c 1, byt c 0].map (Value.int .u8)) (by rfl) (by rfl) (Bts.news (ho2.alloc _)) (one_u8 _) (by omega) (by unfold maxLen; omega) (by omega) (hb2.alloc hb2.size (.cells #[.int .u8 77, .int .u8 (IntKind.u8.wrap s)] 5)).size (w2.heap.size + 1) (by simp) ?_; intro g3 cp3 w3 ho3 hgr3 _ _; (have hb3 := (hb2.alloc hb2.size (.cells #[.int .u8 77, .int .u8 (IntKind.u8.wrap s)] 5)).grown hgr3 (hb2.alloc hb2.size (.cells #[.int .u8 77, .int .u8 (IntKind.u8.wrap s)] 5)).size (fun k hk => by cases hk; exact hb2.size))))
    all_goals go_wp2_with fail
    all_goals (go_meet; exact ⟨_, _, rfl, rfl, by rw [HWS.out] at ho3; exact ho3, hb3⟩)
  case rest =>
    obtain ⟨v1, W1, rfl, rfl, hO1, hB1⟩ := hcut
    clear KB HS hR hRa a0 a1
    have hsz1 := hB1.size
    have hlt1 := hO1.lt
    obtain ⟨c2, _, _, _⟩ := H4.out _ hB1
    obtain ⟨h3a, h3b⟩ := h3
    have KP := Lib.hid (refParts_any x y z)
    go_wp2_with (first
      | (at_builtin; (refine wpList_append_own _ rfl (.tmp 18) (.tmp 22) 109 rfl W0.heap.size 5 i0 (.int .u8 0) 1 1 Tryz.underlying109 hi hz0 hz1 hz2 rfl (by decide) _ 4 _ rfl (hO1.alloc _) ⟨W1.heap.size, 0, none⟩ 1 1 [.int .u8 o] rfl rfl (cell_one_new _ _ _) (by intro u hu; simp at hu; subst hu; rfl) (by unfold maxLen; omega) (by omega) (by simp; omega) ?_); intro v2 w2 hO2 hG2 _
         have hB2 := (hB1.alloc hsz1 (.cells #[.int .u8 o] 5)).grown hG2 (by simp; omega) (fun q hq => (hlt1 q hq).1)
         obtain ⟨_, c3, c4, c5⟩ := H4.out _ hB2)
      | (go_at_call 149; refine (KP.out _).mono ?_; rintro e w3 ⟨g3, rfl, hP3, hb3⟩))
    have hO3 := owns_kept hO2 hb3 (Nat.le_refl _)
    have hsz2 := hB2.size
    have hB3 : Below W0.heap.size W0 w3 := hB2.trans (hb3.mono hsz2)
    have HO3 := Lib.hid hO3
    have HP3 := Lib.hid hP3
    have HB3 := Lib.hid hB3
    have HZ2 := Lib.hid hsz2
    clear hO3 hP3 hB3 hb3 hO2 hG2 hB2 hO1 hlt1 c2 hB1 hsz1 hsz2 c3 c4 c5 KP H4 HWS
    go_loopw [3, 5] (fun v i wr => ∃ k : Nat, k ≤ 3 ∧ i = .int .i64 k ∧ wr.ownsRow W0.heap.size 5 1 v (5 + 4 * k) (((frame20 s c o x y z).take (5 + 4 * k)).map (Value.int .u8)) ∧ wr.ownsRow w2.heap.size 3 1 (.slice (some ⟨g3, 0, none⟩) 3 3) 3 [.int .i64 x, .int .i64 y, .int .i64 z] ∧ Below W0.heap.size W0 wr)
      (fun _ i _ => 3 - (intOf i).toNat)
    case atStart => exact ⟨0, by omega, rfl, HO3.out, HP3.out, HB3.out⟩
    case round =>
      obtain ⟨k, hk, rfl, hOk, hPk, hBk⟩ := hrel
      have hszk := hBk.size
      by_cases hlt : k < 3
      · obtain ⟨v, hv1, hv2, hv3⟩ := part_step s c o x y z k hlt
        have hvb : -1048576 ≤ v ∧ v ≤ 1048576 := by rcases hv2 with rfl | rfl | rfl <;> assumption
        obtain ⟨hva, hvb⟩ := hvb
        have hcell : wr.cell? ⟨g3, k, none⟩ = some (.int .i64 v) := by
          have h := hPk.cells (g := g3) rfl k _ hv1
          rwa [Addr.add_mid, Nat.zero_add] at h
        have KB := Lib.hid (refBytes_any (v + 1048576) 4 (by omega) (by omega) (by omega))
        have HV3 := Lib.hid hv3
        have HPK := Lib.hid hPk
        have HOK := Lib.hid hOk
        have hltk := hOk.lt
        have HLTK := Lib.hid hltk
        have HBK := Lib.hid hBk
        have hk3 : (k : Int) < 3 := by omega
        clear hv1 hv2 hv3 hPk hOk hBk hltk
        go_wp2_with (first
          | (go_at_call 148; refine (KB.out _).mono ?_; rintro e w4 ⟨u, rfl, hOu, hbu⟩; obtain ⟨gu, cu, rfl, _, _⟩ := owns_some hOu (by omega))
          | (at_builtin; (refine wpList_append_own _ rfl (.tmp 31) (.tmp 37) 109 rfl W0.heap.size 5 i0 (.int .u8 0) 1 1 Tryz.underlying109 hi hz0 hz1 hz2 rfl (by decide) _ (5 + 4 * k) _ rfl (owns_kept HOK.out hbu (Nat.le_refl _)) ⟨gu, 0, none⟩ 4 cu _ rfl (by rfl) (Bts.news hOu) (one_u8 _) (by unfold maxLen; omega) (by omega) (by have := hbu.size; omega) ?_); intro v5 w5 hO5 hG5 _))
        have hz4 := hbu.size
        have hB4 : Below W0.heap.size W0 w4 := HBK.out.trans (hbu.mono hszk)
        have hO4 := owns_kept HOK.out hbu (Nat.le_refl _)
        have hP4 := owns_kept HPK.out hbu (Nat.le_refl _)
        have hB5 := hB4.grown hG5 (by omega) (fun q hq => (HLTK.out q hq).1)
        have e5 : 5 + 4 * (k + 1) = 5 + 4 * k + 4 := by omega
        go_roundw
        case rel => exact ⟨k + 1, by omega, by go_num, by rw [HV3.out, e5]; exact hO5, hP4.kept hG5 (own_ne hP4 hO4 (by decide)), hB5⟩
        case measure => simp [intOf]; omega
      · have ek : k = 3 := by omega
        rw [ek] at hOk
        have HEK := Lib.hid ek
        have hnk : ¬ ((k : Int) < 3) := by omega
        clear ek hlt
        have HOK := Lib.hid hOk
        have HBK := Lib.hid hBk
        clear hOk hPk hBk
        go_wp2_with fail
        go_loopw [3, 6] (fun v i wr => ∃ j : Nat, 1 ≤ j ∧ j ≤ 4 ∧ i = .int .i64 j ∧ wr.ownsRow W0.heap.size 5 1 v (16 + j) (((frame20 s c o x y z).take (16 + j)).map (Value.int .u8)) ∧ Below W0.heap.size W0 wr)
          (fun _ i _ => 4 - (intOf i).toNat)
        case atStart => exact ⟨1, by omega, by omega, rfl, HOK.out, HBK.out⟩
        case round =>
          obtain ⟨j, hj1, hj, rfl, hOj, hBj⟩ := hrel
          have hszj := hBj.size
          obtain ⟨gj, cj, rfl, _, _⟩ := owns_some hOj (by omega)
          by_cases hlt : j < 4
          · obtain ⟨b, hb1, ⟨hba, hbb⟩, hb3⟩ := flip_step s c o x y z h1 j hj1 hlt
            have hcell : wr.cell? ⟨gj, j, none⟩ = some (.int .u8 b) := by
              have h := hOj.cells (g := gj) rfl j _ hb1
              rwa [Addr.add_mid, Nat.zero_add] at h
            have HV3 := Lib.hid hb3
            have HOJ := Lib.hid hOj
            have hltj := hOj.lt
            have HLTJ := Lib.hid hltj
            have HBJ := Lib.hid hBj
            have hj3 : (j : Int) ≤ 3 := by omega
            have hj0 : (0 : Int) ≤ (j : Int) := by omega
            have hjl : (j : Int) < ((16 + j : Nat) : Int) := by omega
            clear hb1 hb3 hOj hBj hltj HOK HBK HO3 HP3 HB3
            go_wp2_with (at_builtin; (refine wpList_append_own _ rfl (.tmp 43) (.tmp 49) 109 rfl W0.heap.size 5 i0 (.int .u8 0) 1 1 Tryz.underlying109 hi hz0 hz1 hz2 rfl (by decide) _ (16 + j) _ rfl (HOJ.out.alloc _) ⟨wr.heap.size, 0, none⟩ 1 1 [.int .u8 (255 - b)] rfl rfl (cell_one_new _ _ _) (by intro u hu; simp at hu; subst hu; rfl) (by unfold maxLen; omega) (by omega) (by simp; omega) ?_); intro v5 w5 hO5 hG5 _)
            have hB5 := (HBJ.out.alloc hszj _).grown hG5 (by simp; omega) (fun q hq => (HLTJ.out q hq).1)
            have e5 : 16 + (j + 1) = 16 + j + 1 := by omega
            go_roundw
            case rel => exact ⟨j + 1, by omega, by omega, by go_num, by rw [HV3.out, e5]; exact hO5, hB5⟩
            case measure => simp [intOf]; omega
          · have ej : j = 4 := by omega
            have hnj : ¬ ((j : Int) ≤ 3) := by omega
            have hcells : ∀ i, i < 16 + j → wr.cell? ⟨gj, 0 + i, none⟩ = some (.int .u8 ((frame20 s c o x y z)[i]?.getD 0)) := by
              intro i hi20
              have h := hOj.cells (g := gj) rfl i (.int .u8 ((frame20 s c o x y z)[i]?.getD 0)) (by
                rw [List.getElem?_map, List.getElem?_take_of_lt (by omega), List.getElem?_eq_getElem (by rw [frame20_len]; omega)]; rfl)
              rwa [Addr.add_mid] at h
            have hfit : FitT s c o x y z := by constructor <;> omega
            have KC := Lib.hid (refChecksum_any gj 0 (16 + j) cj (frame20 s c o x y z) wr (by rw [frame20_len]; omega) (by omega) (fun i hi => frame20_fit hfit i (by omega)) hcells)
            have hcb := chk_bd (frame20 s c o x y z)
            have HFS := Lib.hid (frame_step s c o x y z j ej)
            have hFL : (frame s c o x y z).length = 24 := frame_len s c o x y z
            obtain ⟨q, hq⟩ : ∃ q, chkOf (frame20 s c o x y z) = q := ⟨_, rfl⟩
            rw [hq] at KC hcb HFS
            obtain ⟨hc0, hc1⟩ := hcb
            have KB := Lib.hid (refBytes_any q 4 hc0 (by omega) (by omega))
            obtain ⟨F, hFF⟩ : ∃ F, frame s c o x y z = F := ⟨_, rfl⟩
            rw [hFF] at HFS hFL
            have HFF := Lib.hid hFF
            have HFL := Lib.hid hFL
            have HOJ := Lib.hid hOj
            have hltj := hOj.lt
            have HLTJ := Lib.hid hltj
            have HBJ := Lib.hid hBj
            clear hcells hfit hq hFF hFL ej hlt hOj hBj hltj HOK HBK HO3 HP3 HB3
            go_wp2_with (first
              | (go_at_call 150; refine KC.out.mono ?_; rintro e w4 ⟨rfl, rfl⟩)
              | (go_at_call 148; refine (KB.out _).mono ?_; rintro e w4 ⟨u, rfl, hOu, hbu⟩; obtain ⟨gu, cu, rfl, _, _⟩ := owns_some hOu (by omega))
              | (at_builtin; (refine wpList_append_own _ rfl (.tmp 53) (.tmp 55) 109 rfl W0.heap.size 5 i0 (.int .u8 0) 1 1 Tryz.underlying109 hi hz0 hz1 hz2 rfl (by decide) _ (16 + j) _ rfl (owns_kept HOJ.out hbu (Nat.le_refl _)) ⟨gu, 0, none⟩ 4 cu _ rfl (by rfl) (Bts.news hOu) (one_u8 _) (by unfold maxLen; omega) (by omega) (by have := hbu.size; omega) ?_); intro v5 w5 hO5 hG5 _))
            have e24 : 16 + j + 4 = 24 := by omega
            rw [e24, ← HFS.out] at hO5
            have hB5 : Below W0.heap.size W0 w5 := (HBJ.out.trans (hbu.mono hszj)).grown hG5 (by have := hbu.size; omega) (fun q hq => (HLTJ.out q hq).1)
            obtain ⟨gF, cF, rfl, hgF, _⟩ := owns_some hO5 (by omega)
            have hcF : ∀ i, i < 24 → w5.cell? ⟨gF, i, none⟩ = some (.int .u8 (byteAt F i)) := by
              intro i hi24
              have h := hO5.cells (g := gF) rfl i (.int .u8 (byteAt F i)) (by
                rw [List.getElem?_map]
                unfold byteAt
                rw [List.getElem?_eq_getElem (by rw [HFL.out]; exact hi24)]; rfl)
              rwa [Addr.add_mid, Nat.zero_add] at h
            have HCF := Lib.hid hcF
            have HB5 := Lib.hid hB5
            have hsz5 := hB5.size
            obtain ⟨X0, hX0⟩ : ∃ X0, w5.alloc (.cells ((List.replicate 24 (Value.int .u8 0)).toArray) 108) = X0 := ⟨_, rfl⟩
            have hk0 : HasBlk X0 w5.heap.size 108 (cpy F 0) := by
              rw [← hX0]
              have h := heap_alloc_new w5 (.cells ((List.replicate 24 (Value.int .u8 0)).toArray) 108)
              simpa [HasBlk, cpy, List.replicate] using h
            have hBx : Below w5.heap.size w5 X0 := by rw [← hX0]; exact (Below.refl _ w5).alloc (Nat.le_refl _) _
            have hzx : X0.heap.size = w5.heap.size + 1 := by rw [← hX0]; simp
            simp only [List.replicate] at hX0
            rw [hX0]
            have HZX := Lib.hid hzx
            have HBX := Lib.hid hBx
            have HK0 := Lib.hid hk0
            clear hX0 hzx hBx hk0 hcF hB5 hO5 hG5 HOJ HLTJ HBJ HFS KB KC e24
            go_loopw [9] (fun i wI => ∃ m : Nat, m ≤ 24 ∧ i = .int .i64 m ∧ HasBlk wI w5.heap.size 108 (cpy F m) ∧ OnlyBlk X0 wI w5.heap.size)
              (fun i _ => 24 - (intOf i).toNat)
            case atStart => exact ⟨0, Nat.zero_le _, rfl, HK0.out, ⟨⟨rfl, rfl, rfl, Nat.le_refl _, fun _ _ _ => rfl⟩, rfl⟩⟩
            case round =>
              obtain ⟨m, hm, rfl, hkm, hom⟩ := hrel
              by_cases hm24 : m < 24
              · have hs := cpy_set HFL.out hm24
                have hc1 : wr.cell? ⟨gF, m, none⟩ = some (.int .u8 (byteAt F m)) := hom.cell ((HBX.out.cell (p := ⟨gF, m, none⟩) hgF).trans (HCF.out m hm24)) (by omega)
                have hc3 := hkm.cell (j := m) (v := (cpy F m)[m]?.getD 0) (by rw [List.getElem?_eq_getElem (by rw [cpy_len HFL.out hm]; exact hm24)]; rfl)
                have hf3 := hkm.frozen m
                have HKN : Hid (HasBlk (wr.setCell ⟨w5.heap.size, m, none⟩ (.int .u8 (byteAt F m))) w5.heap.size 108 (cpy F (m + 1))) := Lib.hid (by rw [← hs]; exact hkm.set _ _)
                have HON := Lib.hid (hom.trans (OnlyBlk.set wr w5.heap.size m (.int .u8 (byteAt F m))))
                obtain ⟨v, hv⟩ : ∃ v, byteAt F m = v := ⟨_, rfl⟩
                rw [hv] at hc1 HKN HON
                have g1 : (m : Int) < 24 := by omega
                have g3 : (0 : Int) ≤ (m : Int) := by omega
                clear hs hkm hom hv
                go_wp2_with fail
                go_roundw
                case rel => exact ⟨m + 1, by omega, by go_num, HKN.out, HON.out⟩
                case measure => simp [intOf]; omega
              · obtain rfl : m = 24 := by omega
                rw [cpy_24 HFL.out] at hkm
                obtain ⟨V, hV⟩ : ∃ V, F.map (Value.int .u8) = V := ⟨_, rfl⟩
                have HKM : Hid (wr.heap[w5.heap.size]? = some (.cells V.toArray 108 (0, 0))) := Lib.hid (by rw [← hV]; exact hkm)
                have V24 : V.length = 24 := by rw [← hV, List.length_map]; exact HFL.out
                have HV : Hid ((frame s c o x y z).map (Value.int .u8) = V) := Lib.hid (by rw [HFF.out]; exact hV)
                have hBw : Below W0.heap.size W0 wr := (HB5.out.trans (HBX.out.mono hsz5)).trans (hom.below (by have := HZX.out; omega) hsz5)
                have hrb : w.heap.size + 1 < W0.heap.size := by have := HZ0.out; omega
                have HR1 : Hid (wr.heap[w.heap.size + 1]? = some (.cells (List.replicate 24 (Value.int .u8 0)).toArray 108 (0, 0))) := Lib.hid ((hBw.block _ hrb).trans HBR.out)
                have HBW := Lib.hid (HB0.out.trans (hBw.mono (by omega)))
                have hiV : (Tryz.prog.info? 108).map (·.size) = some V.toArray.size := by rw [size24]; simp [V24]
                have HV1 : Hid (∀ u ∈ V, u.oneCell' = true) := Lib.hid (by rw [← hV]; exact one_u8 F)
                clear hkm hom hV hBw
                go_wp2_with (first
                  | (refine wpList_load_row rfl 108 (.tmp 8) rfl w5.heap.size rfl 108 _ (0, 0) _ HKM.out Tryz.underlying108 rfl hiV ?_)
                  | (refine wpList_store_row rfl 108 (.tmp 2) (.tmp 67) rfl (w.heap.size + 1) rfl V.toArray rfl 108 _ HR1.out ?i2 hiV ?i4 ?_))
                case i2 => simp [V24]
                case i4 => exact HV1.out
                go_wp2
                refine bodyPost_ret (v := .agg V.toArray) (results_cell_row Tryz.results72 _ _ (w.heap.size + 1) 108 _ (0, 0) _ rfl (setRow_heap wr _ _ _ _ _ HR1.out) Tryz.underlying108 rfl hiV) rfl ⟨by rw [HV.out], ?_⟩
                exact HBW.out.trans ((OnlyBlk.setRow wr (w.heap.size + 1) _).below HBW.out.size (by omega))
end Go.Proofs.YtlnhgplloaiiiaaGreatDoor

/-
  Contracts of the comparisons of telegrams and of spans, for equal lists.
-/
namespace Go.Proofs.YtlnhgplloaiiiaaGreatDoor
open Go.RowKit
set_option linter.unusedVariables false
set_option linter.unusedSimpArgs false

/-- A slice, nil or not, of spans. -/
def AnySpans (w : World) (a : Option Addr) (n : Nat) (L : List (Int × Int)) : Prop := L.length = n ∧ ∀ j, j < n → ∃ b q, a = some ⟨b, q, none⟩ ∧ b < w.heap.size ∧
  ∀ k, k < n → w.cell? ⟨b, q + k * 2, none⟩ = some (.int .i64 (L[k]?.getD (0, 0)).1) ∧ w.cell? ⟨b, q + k * 2 + 1, none⟩ = some (.int .i64 (L[k]?.getD (0, 0)).2)
theorem AnySpans.kept {w w' : World} {a : Option Addr} {n : Nat} {L : List (Int × Int)} (h : AnySpans w a n L) (hb : Below w.heap.size w w') : AnySpans w' a n L :=
  ⟨h.1, fun j hj => by
    obtain ⟨b, q, e, h1, h2⟩ := h.2 j hj
    exact ⟨b, q, e, Nat.lt_of_lt_of_le h1 hb.size, fun k hk => ⟨(hb.cell (p := ⟨b, q + k * 2, none⟩) h1).trans (h2 k hk).1, (hb.cell (p := ⟨b, q + k * 2 + 1, none⟩) h1).trans (h2 k hk).2⟩⟩⟩
theorem AnySpans.of_row {w : World} {B : Nat} {v : Value} {L : List (Int × Int)} (h : w.ownsRow B 70 2 v L.length (L.flatMap qval)) : ∃ a c, v = .slice a L.length c ∧ AnySpans w a L.length L := by
  rcases h.2 with ⟨rfl, h0⟩ | ⟨g, cap, cur, rfl, hb, hg, _⟩
  · exact ⟨none, 0, by rw [h0], rfl, fun j hj => absurd hj (by omega)⟩
  · refine ⟨_, _, rfl, rfl, fun j hj => ⟨g, 0, rfl, lt_of_blk hg, fun k hk => ?_⟩⟩
    obtain ⟨h1, h2⟩ := flat_at2 L k hk
    have e1 := h.cells (g := g) rfl (k * 2) _ h1
    have e2 := h.cells (g := g) rfl (k * 2 + 1) _ h2
    rw [Addr.add_mid] at e1 e2
    exact ⟨e1, by rw [Nat.add_assoc]; exact e2⟩
theorem AnyTels.of_rowR {w : World} {B : Nat} {v : Value} {n : Nat} {L : List Tel} (hl : L.length = n) (h : w.ownsRow B 107 6 v n (L.flatMap Tel.val)) : ∃ a c, v = .slice a n c ∧ AnyTels w a n L := by
  rcases h.2 with ⟨rfl, rfl⟩ | ⟨g, cap, cur, rfl, hb, hg, _⟩
  · exact ⟨none, 0, rfl, hl, fun j hj => absurd hj (by omega)⟩
  · refine ⟨_, _, rfl, hl, fun j hj => ⟨g, 0, rfl, lt_of_blk hg, fun k hk i u hu => ?_⟩⟩
    have h1 := h.cells (g := g) rfl (6 * k + i) u (flat_val_at L k i u hk hu)
    rw [Addr.add_mid, Nat.zero_add] at h1
    rw [Nat.zero_add, Nat.mul_comm k 6]
    exact h1

set_option maxRecDepth 100000 in
set_option maxHeartbeats 6400000 in
theorem sameTels_any (L : List Tel) (a a' : Option Addr) (n c c' : Nat) (w : World) (hm : n ≤ 13000) (h1 : AnyTels w a n L) (h2 : AnyTels w a' n L) :
    Calls Tryz.prog 75 #[.slice a n c, .slice a' n c'] w fun e w' => e = .returned (.bool true) ∧ Below w.heap.size w w' := by
  have HA := Lib.hid h1.2
  have HA' := Lib.hid h2.2
  have HN := Lib.hid h1.1
  have e0 : ((n : Int) != n) = false := by simp
  have i1 : (n : Int) ≤ 13000 := by omega
  clear h1 h2
  go_enter Tryz.func75, Tryz.ntmps75
  go_wp2
  go_loopw [13] (fun i wr => ∃ k : Nat, k ≤ n ∧ i = .int .i64 k ∧ Below w.heap.size w wr) (fun i _ => n - (intOf i).toNat)
  case atStart => exact ⟨0, Nat.zero_le _, rfl, Below.refl _ _⟩
  case round =>
    obtain ⟨k, hk, rfl, hnx⟩ := hrel
    by_cases hlt : k < n
    · obtain ⟨b, q, rfl, hb, hc⟩ := HA.out k hlt
      obtain ⟨b', q', rfl, hb', hc'⟩ := HA'.out k hlt
      have p0 : wr.cell? ⟨b, q + k * 6, none⟩ = some (.int .i64 (L[k]?.getD tel0).s) := (hnx.cell (p := ⟨b, q + k * 6, none⟩) (by assumption)).trans (hc k (by have := HN.out; omega) 0 _ rfl)
      have p1 : wr.cell? ⟨b, q + k * 6 + 1, none⟩ = some (.int .i64 (L[k]?.getD tel0).c) := (hnx.cell (p := ⟨b, q + k * 6 + 1, none⟩) (by assumption)).trans (hc k (by have := HN.out; omega) 1 _ rfl)
      have p2 : wr.cell? ⟨b, q + k * 6 + 2, none⟩ = some (.int .i64 (L[k]?.getD tel0).o) := (hnx.cell (p := ⟨b, q + k * 6 + 2, none⟩) (by assumption)).trans (hc k (by have := HN.out; omega) 2 _ rfl)
      have p3 : wr.cell? ⟨b, q + k * 6 + 3, none⟩ = some (.int .i64 (L[k]?.getD tel0).x) := (hnx.cell (p := ⟨b, q + k * 6 + 3, none⟩) (by assumption)).trans (hc k (by have := HN.out; omega) 3 _ rfl)
      have p4 : wr.cell? ⟨b, q + k * 6 + 4, none⟩ = some (.int .i64 (L[k]?.getD tel0).y) := (hnx.cell (p := ⟨b, q + k * 6 + 4, none⟩) (by assumption)).trans (hc k (by have := HN.out; omega) 4 _ rfl)
      have p5 : wr.cell? ⟨b, q + k * 6 + 5, none⟩ = some (.int .i64 (L[k]?.getD tel0).z) := (hnx.cell (p := ⟨b, q + k * 6 + 5, none⟩) (by assumption)).trans (hc k (by have := HN.out; omega) 5 _ rfl)
      have r0 : wr.cell? ⟨b', q' + k * 6, none⟩ = some (.int .i64 (L[k]?.getD tel0).s) := (hnx.cell (p := ⟨b', q' + k * 6, none⟩) (by assumption)).trans (hc' k (by have := HN.out; omega) 0 _ rfl)
      have r1 : wr.cell? ⟨b', q' + k * 6 + 1, none⟩ = some (.int .i64 (L[k]?.getD tel0).c) := (hnx.cell (p := ⟨b', q' + k * 6 + 1, none⟩) (by assumption)).trans (hc' k (by have := HN.out; omega) 1 _ rfl)
      have r2 : wr.cell? ⟨b', q' + k * 6 + 2, none⟩ = some (.int .i64 (L[k]?.getD tel0).o) := (hnx.cell (p := ⟨b', q' + k * 6 + 2, none⟩) (by assumption)).trans (hc' k (by have := HN.out; omega) 2 _ rfl)
      have r3 : wr.cell? ⟨b', q' + k * 6 + 3, none⟩ = some (.int .i64 (L[k]?.getD tel0).x) := (hnx.cell (p := ⟨b', q' + k * 6 + 3, none⟩) (by assumption)).trans (hc' k (by have := HN.out; omega) 3 _ rfl)
      have r4 : wr.cell? ⟨b', q' + k * 6 + 4, none⟩ = some (.int .i64 (L[k]?.getD tel0).y) := (hnx.cell (p := ⟨b', q' + k * 6 + 4, none⟩) (by assumption)).trans (hc' k (by have := HN.out; omega) 4 _ rfl)
      have r5 : wr.cell? ⟨b', q' + k * 6 + 5, none⟩ = some (.int .i64 (L[k]?.getD tel0).z) := (hnx.cell (p := ⟨b', q' + k * 6 + 5, none⟩) (by assumption)).trans (hc' k (by have := HN.out; omega) 5 _ rfl)
      obtain ⟨t, ht⟩ : ∃ t, L[k]?.getD tel0 = t := ⟨_, rfl⟩
      rw [ht] at p0 p1 p2 p3 p4 p5 r0 r1 r2 r3 r4 r5
      clear ht
      have h4 : (k : Int) < (n : Int) := by omega
      have h5 : (0 : Int) ≤ (k : Int) := by omega
      clear HA HA' hc hc' HN
      go_wp2_with fail
      go_quiet (fail)
      go_wp2
      go_roundw
      case rel => exact ⟨k + 1, by omega, by go_num, below_drewN hnx _⟩
      case measure => simp [intOf]; omega
    · go_wp2
      go_ret
      exact ⟨rfl, hnx⟩

set_option maxRecDepth 100000 in
set_option maxHeartbeats 6400000 in
theorem sameSpans_any (L : List (Int × Int)) (a a' : Option Addr) (n c c' : Nat) (w : World) (hm : n ≤ 13000) (h1 : AnySpans w a n L) (h2 : AnySpans w a' n L) :
    Calls Tryz.prog 76 #[.slice a n c, .slice a' n c'] w fun e w' => e = .returned (.bool true) ∧ Below w.heap.size w w' := by
  have HA := Lib.hid h1.2
  have HA' := Lib.hid h2.2
  have HN := Lib.hid h1.1
  have e0 : ((n : Int) != n) = false := by simp
  have i1 : (n : Int) ≤ 13000 := by omega
  clear h1 h2
  go_enter Tryz.func76, Tryz.ntmps76
  go_wp2
  go_loopw [5] (fun i wr => ∃ k : Nat, k ≤ n ∧ i = .int .i64 k ∧ Below w.heap.size w wr) (fun i _ => n - (intOf i).toNat)
  case atStart => exact ⟨0, Nat.zero_le _, rfl, Below.refl _ _⟩
  case round =>
    obtain ⟨k, hk, rfl, hnx⟩ := hrel
    by_cases hlt : k < n
    · obtain ⟨b, q, rfl, hb, hc⟩ := HA.out k hlt
      obtain ⟨b', q', rfl, hb', hc'⟩ := HA'.out k hlt
      have p0 := (hnx.cell (p := ⟨b, q + k * 2, none⟩) hb).trans (hc k hlt).1
      have p1 := (hnx.cell (p := ⟨b, q + k * 2 + 1, none⟩) hb).trans (hc k hlt).2
      have r0 := (hnx.cell (p := ⟨b', q' + k * 2, none⟩) hb').trans (hc' k hlt).1
      have r1 := (hnx.cell (p := ⟨b', q' + k * 2 + 1, none⟩) hb').trans (hc' k hlt).2
      obtain ⟨p, hp⟩ : ∃ p, L[k]?.getD (0, 0) = p := ⟨_, rfl⟩
      rw [hp] at p0 p1 r0 r1
      clear hp
      have h4 : (k : Int) < (n : Int) := by omega
      have h5 : (0 : Int) ≤ (k : Int) := by omega
      clear HA HA' hc hc' HN
      go_wp2_with fail
      go_quiet (fail)
      go_wp2
      go_roundw
      case rel => exact ⟨k + 1, by omega, by go_num, below_drewN hnx _⟩
      case measure => simp [intOf]; omega
    · go_wp2
      go_ret
      exact ⟨rfl, hnx⟩

end Go.Proofs.YtlnhgplloaiiiaaGreatDoor

/-
  Contract of the reference's Lost, for right telegrams.
-/
namespace Go.Proofs.YtlnhgplloaiiiaaGreatDoor
open Go.RowKit
set_option linter.unusedVariables false
set_option linter.unusedSimpArgs false

theorem cycTo_app (xs ys : List Int) : ∀ k, k < xs.length → cycTo (xs ++ ys) k = cycTo xs k
  | 0, _ => by simp [cycTo]
  | k + 1, h => by
    rw [cycTo_succ, cycTo_succ, cycTo_app xs ys k (by omega), List.getElem?_append_left (by omega), List.getElem?_append_left (by omega)]
def endOf (xs : List Int) : Int := if xs.length = 0 then -1 else xs[xs.length - 1]?.getD 0
/-- What is lost between the counters. -/
def lostOf (xs : List Int) : List Int := cycTo xs (xs.length - 1)
theorem lostOf_one (xs : List Int) (c : Int) (h : xs.length = 0) : lostOf (xs ++ [c]) = [] ∧ lostOf xs = [] := by
  obtain rfl := List.length_eq_zero_iff.1 h
  exact ⟨rfl, rfl⟩
theorem lostOf_more (xs : List Int) (c : Int) (h : xs.length ≠ 0) : lostOf (xs ++ [c]) = lostOf xs ++ cyc (endOf xs) c := by
  unfold lostOf endOf
  obtain ⟨m, hm⟩ : ∃ m, xs.length = m + 1 := ⟨xs.length - 1, by omega⟩
  rw [if_neg h, List.length_append, hm]
  show cycTo (xs ++ [c]) (m + 1) = _
  rw [cycTo_succ, cycTo_app xs [c] m (by omega), List.getElem?_append_left (by omega), List.getElem?_append_right (by omega), hm]
  simp
theorem endOf_app (xs : List Int) (c : Int) : endOf (xs ++ [c]) = c := by
  unfold endOf
  rw [if_neg (by simp)]
  simp
theorem lostOf_pre (xs : List Int) (c : Int) : lostOf xs <+: lostOf (xs ++ [c]) := by
  by_cases h : xs.length = 0
  · rw [(lostOf_one xs c h).2]; exact List.nil_prefix
  · rw [lostOf_more xs c h]; exact List.prefix_append _ _
theorem lostTo_step (L : List Tel) (st : Int) (k : Nat) (hk : k < L.length) : lostOf (countsOf (L.take k) st) <+: lostOf (countsOf (L.take (k + 1)) st) := by
  rw [countsOf_succ L st k hk]
  split
  · exact lostOf_pre _ _
  · exact List.prefix_refl _
theorem lostTo_pre (L : List Tel) (st : Int) : ∀ d k, k + d = L.length → lostOf (countsOf (L.take k) st) <+: lostOf (countsOf L st)
  | 0, k, h => by rw [List.take_of_length_le (by omega)]; exact List.prefix_refl _
  | d + 1, k, h => (lostTo_step L st k (by omega)).trans (lostTo_pre L st d (k + 1) (by omega))
theorem lostOf_L (L : List Tel) (st : Int) : lostL L st = lostOf (countsOf L st) := rfl
theorem some_pre (pre : List Int) (a b : Int) (j : Nat) (hj : j ≤ wide a b) : someOf pre a j <+: pre ++ cyc a b := by
  unfold someOf cyc
  refine (List.prefix_append_right_inj _).2 (List.IsPrefix.map _ ?_)
  obtain ⟨d, hd⟩ : ∃ d, wide a b = j + d := ⟨_, (Nat.add_sub_of_le hj).symm⟩
  rw [hd, List.range_add]
  exact List.prefix_append _ _
theorem endOf_bd (xs : List Int) (h : ∀ j, j < xs.length → 0 ≤ xs[j]?.getD 0 ∧ xs[j]?.getD 0 ≤ 65535) : -1 ≤ endOf xs ∧ endOf xs ≤ 65535 ∧ (xs.length ≠ 0 → 0 ≤ endOf xs) ∧ (xs.length = 0 → endOf xs = -1) := by
  unfold endOf
  by_cases h0 : xs.length = 0
  · rw [if_pos h0]; exact ⟨by omega, by omega, fun h => absurd h0 h, fun _ => rfl⟩
  · rw [if_neg h0]
    have := h (xs.length - 1) (by omega)
    exact ⟨by omega, by omega, fun _ => this.1, fun h => absurd h h0⟩

/-- What the reference's Lost answers. -/
def RefLost (X : List Int) (w : World) (e : Ending) (w' : World) : Prop := ∃ v, e = .returned (.tuple #[v, .int .i64 (if 256 < X.length then 5 else 0)]) ∧ IntsV w' v (if 256 < X.length then 0 else X.length) X ∧ Below w.heap.size w w'
theorem RefLost.many {X : List Int} {w w' : World} (h : 256 < X.length) (hb : Below w.heap.size w w') : RefLost X w (.returned (.tuple #[.slice none 0 0, .int .i64 5])) w' :=
  ⟨_, by rw [if_pos h], by rw [if_pos h]; exact IntsV.nil _ _, hb⟩
theorem RefLost.few {X : List Int} {w w' : World} {v : Value} (h : ¬ 256 < X.length) (hi : IntsV w' v X.length X) (hb : Below w.heap.size w w') : RefLost X w (.returned (.tuple #[v, .int .i64 0])) w' :=
  ⟨_, by rw [if_neg h], by rw [if_neg h]; exact hi, hb⟩

set_option maxRecDepth 100000 in
set_option maxHeartbeats 6400000 in
theorem refLost_any (L : List Tel) (a : Option Addr) (n cp : Nat) (st : Int) (hm : n ≤ 512) (hgood : ∀ t ∈ L, t.Good) (w : World) (hA : AnyTels w a n L) :
    Calls Tryz.prog 81 #[.slice a n cp, .int .i64 st] w (RefLost (lostOf (countsOf L st)) w) := by
  obtain ⟨i0, hi, hz0, hz1, hz2⟩ := info_parts Tryz.infoInt
  have HC := Lib.hid hA.2
  have HN := Lib.hid hA.1.symm
  have HG := Lib.hid hgood
  have i1 : ((n : Int) ≤ 512) := by omega
  clear hA hgood
  go_enter Tryz.func81, Tryz.ntmps81
  go_wp2
  go_loopw [6, 7, 8] (fun out la i wr => ∃ k : Nat, k ≤ n ∧ i = .int .i64 k ∧ la = .int .i64 (endOf (countsOf (L.take k) st)) ∧ (lostOf (countsOf (L.take k) st)).length ≤ 256 ∧ wr.ownsRow w.heap.size 3 1 out (lostOf (countsOf (L.take k) st)).length ((lostOf (countsOf (L.take k) st)).map (Value.int .i64)) ∧ Below w.heap.size w wr)
    (fun _ _ i _ => n - (intOf i).toNat)
  case atStart => exact ⟨0, Nat.zero_le _, rfl, rfl, by simp [countsOf, lostOf, cycTo], World.ownsRow_nil _ _ _ _, Below.refl _ _⟩
  case round =>
    obtain ⟨k, hk, rfl, rfl, hlen, hown, hnx⟩ := hrel
    have hsz : w.heap.size ≤ wr.heap.size := hnx.size
    by_cases hlt : k < n
    · have hlt2 : k < L.length := by have := HN.out; omega
      obtain ⟨b, q, rfl, hb, hT0⟩ := HC.out k hlt
      have hT := hT0 k hlt2
      have hS := countsOf_succ L st k hlt2
      have hG : (L[k]?.getD tel0).Good := by
        rw [List.getElem?_eq_getElem hlt2]; exact HG.out _ (List.getElem_mem hlt2)
      have hP := lostTo_pre L st (L.length - (k + 1)) (k + 1) (by omega)
      have hbd := endOf_bd (countsOf (L.take k) st) (counts_bd (L.take k) st (fun t ht => HG.out t (List.mem_of_mem_take ht)))
      obtain ⟨t, ht⟩ : ∃ t, L[k]?.getD tel0 = t := ⟨_, rfl⟩
      rw [ht] at hT hS hG
      have hc0 : wr.cell? ⟨b, q + k * 6, none⟩ = some (.int .i64 t.s) := (hnx.cell (by exact hb)).trans (hT 0 _ rfl)
      have hc1 : wr.cell? ⟨b, q + k * 6 + 1, none⟩ = some (.int .i64 t.c) := (hnx.cell (by exact hb)).trans (hT 1 _ rfl)
      have hct := hG.ct
      obtain ⟨xs, hxs⟩ : ∃ xs, countsOf (L.take k) st = xs := ⟨_, rfl⟩
      rw [hxs] at hS hlen hown hbd ⊢
      obtain ⟨la, hla⟩ : ∃ la, endOf xs = la := ⟨_, rfl⟩
      have HLA := Lib.hid hla
      rw [hla] at hbd ⊢
      obtain ⟨pre, hpre⟩ : ∃ pre, lostOf xs = pre := ⟨_, rfl⟩
      have HPRE := Lib.hid hpre
      rw [hpre] at hlen hown
      clear ht hT hT0 hG hxs hlt2 HC HG hla hpre
      by_cases hst : t.s = st
      · have e0 : (t.s != st) = false := by simp [hst]
        rw [if_pos hst] at hS
        clear hst
        by_cases h0 : xs.length = 0
        · have e1 : ¬ (0 ≤ la) := by have := hbd.2.2.2 h0; omega
          have h1 := lostOf_one xs t.c h0
          have HS : Hid (endOf (countsOf (L.take (k + 1)) st) = t.c ∧ lostOf (countsOf (L.take (k + 1)) st) = pre) := Lib.hid ⟨by rw [hS, endOf_app], by rw [hS, h1.1, ← HPRE.out, h1.2]⟩
          have HO := Lib.hid hown
          have HX := Lib.hid hnx
          have HLN := Lib.hid hlen
          clear hS hP h1 h0 hbd hown hnx hlen
          go_wp2
          go_roundw
          case rel => exact ⟨k + 1, by omega, by go_num, by rw [HS.out.1], by rw [HS.out.2]; exact HLN.out, by rw [HS.out.2]; exact HO.out, HX.out⟩
          case measure => simp [intOf]; omega
        · have e1 : 0 ≤ la := hbd.2.2.1 h0
          have e2 : la ≤ 65535 := hbd.2.1
          have hL := lostOf_more xs t.c h0
          rw [HLA.out, HPRE.out] at hL
          have HS : Hid (endOf (countsOf (L.take (k + 1)) st) = t.c ∧ lostOf (countsOf (L.take (k + 1)) st) = pre ++ cyc la t.c) := Lib.hid ⟨by rw [hS, endOf_app], by rw [hS, hL]⟩
          rw [HS.out.2] at hP
          have HP := Lib.hid (fun j hj => (some_pre pre la t.c j hj).trans hP)
          have HQ := Lib.hid (fun j => @onward_eq la _ hct j)
          obtain ⟨Wd, hWide⟩ : ∃ Wd : Nat, wide la t.c = Wd := ⟨_, rfl⟩
          have HALL : Hid (pre ++ cyc la t.c = someOf pre la Wd) := Lib.hid (by rw [← hWide]; rfl)
          rw [hWide] at HP HQ
          have hf0 := onward_0 la
          obtain ⟨x0, hx0⟩ : ∃ x0, onward la 0 = x0 := ⟨_, rfl⟩
          rw [hx0] at hf0
          have HX0 := Lib.hid hx0
          clear hS hP hL hWide h0 hbd hx0
          go_wp2_with fail
          have HO := Lib.hid hown
          have HNX := Lib.hid hnx
          have HC0 := Lib.hid hc0
          have HC1 := Lib.hid hc1
          clear hown hc0 hf0
          obtain ⟨wo, hwo⟩ : ∃ wo : World, wo = wr := ⟨_, rfl⟩
          subst hwo
          go_loopw [6, 9] (fun out i wi => ∃ j : Nat, j ≤ Wd ∧ i = .int .i64 (onward la j) ∧ (someOf pre la j).length ≤ 256 ∧ wi.ownsRow w.heap.size 3 1 out (someOf pre la j).length ((someOf pre la j).map (Value.int .i64)) ∧ Below w.heap.size w wi)
            (fun out i _ => match out with | .slice _ l _ => 300 - l | _ => 0)
          case atStart => exact ⟨0, by omega, by rw [onward_0 la], by simpa [someOf] using hlen, by simpa [someOf] using HO.out, HNX.out⟩
          case round =>
            obtain ⟨j, hj, rfl, hln, hown, hnx2⟩ := hrel
            have hsz2 := hnx2.size
            have hc1' : wr.cell? ⟨b, q + k * 6 + 1, none⟩ = some (.int .i64 t.c) := (hnx2.cell (p := ⟨b, q + k * 6 + 1, none⟩) hb).trans ((HNX.out.cell (p := ⟨b, q + k * 6 + 1, none⟩) hb).symm.trans HC1.out)
            have hc0' : wr.cell? ⟨b, q + k * 6, none⟩ = some (.int .i64 t.s) := (hnx2.cell (p := ⟨b, q + k * 6, none⟩) hb).trans ((HNX.out.cell (p := ⟨b, q + k * 6, none⟩) hb).symm.trans HC0.out)
            clear hnx hc1
            by_cases hjl : j < Wd
            · have hne : (onward la j != t.c) = true := by
                have h := (HQ.out j hj).1
                simp; intro h2; have := h h2; omega
              have hob := onward_bd la j
              have hos := onward_succ la j
              have hsu := someOf_succ pre la j
              have hsl := someOf_len pre la (j + 1)
              have hsl0 := someOf_len pre la j
              have hPj := HP.out (j + 1) (by omega)
              obtain ⟨S, hSd⟩ : ∃ S, someOf pre la j = S := ⟨_, rfl⟩
              obtain ⟨S1, hSd1⟩ : ∃ S1, someOf pre la (j + 1) = S1 := ⟨_, rfl⟩
              rw [hSd] at hsl0 hln hown hsu
              rw [hSd1] at hsl hsu hPj
              obtain ⟨ℓ, hℓ⟩ : ∃ ℓ, S.length = ℓ := ⟨_, rfl⟩
              obtain ⟨x, hx⟩ : ∃ x, onward la j = x := ⟨_, rfl⟩
              obtain ⟨x1, hx1⟩ : ∃ x1, onward la (j + 1) = x1 := ⟨_, rfl⟩
              rw [hx] at hne hob hos hsu ⊢
              rw [hx1] at hos
              rw [hℓ] at hown hln hsl0
              have hl1 : S1.length = ℓ + 1 := by omega
              have hob1 := hob.1
              have hob2 := hob.2
              have HSU := Lib.hid hsu
              have HOS := Lib.hid hos
              clear hos
              have HD := Lib.hid (And.intro hSd1 hx1)
              have HL1 := Lib.hid hl1
              by_cases h256 : ℓ = 256
              · have hT : 256 < (lostOf (countsOf L st)).length := by
                  have := hPj.length_le
                  omega
                have HT := Lib.hid hT
                have i9 : (256 : Int) < (ℓ : Int) + 1 := by omega
                clear hT hPj hℓ hsl hsl0 hsu hl1 hSd hSd1 hx hx1 h256 hob
                go_wp2_with (at_builtin; refine wpList_append_own _ rfl (.tmp 38) (.tmp 40) 25 rfl w.heap.size 3 i0 (.int .i64 0) 1 8 Tryz.underlying25 hi hz0 hz1 hz2 rfl (by decide) _ _ _ rfl (hown.alloc _) ⟨wr.heap.size, 0, none⟩ 1 1 [.int .i64 x] rfl rfl (cell_one_new _ _ _) (by intro u hu; simp at hu; subst hu; rfl) (by unfold maxLen; omega) (by omega) (by simp; omega) ?_; intro v' w3 hown3 hgrow3 _; obtain ⟨ao, cc, rfl⟩ := owns_slice hown3)
                have hlt' := hown.lt
                go_ret2
                exact RefLost.many HT.out ((hnx2.alloc hsz2 _).grown hgrow3 (by simp; omega) (fun q hq => (hlt' q hq).1))
              · have i9 : ¬ ((256 : Int) < (ℓ : Int) + 1) := by omega
                have hℓ2 : ℓ ≤ 255 := by omega
                clear hPj hℓ hsl hsl0 hsu hl1 hSd hSd1 hx hx1 h256 hob
                go_wp2_with (at_builtin; refine wpList_append_own _ rfl (.tmp 38) (.tmp 40) 25 rfl w.heap.size 3 i0 (.int .i64 0) 1 8 Tryz.underlying25 hi hz0 hz1 hz2 rfl (by decide) _ _ _ rfl (hown.alloc _) ⟨wr.heap.size, 0, none⟩ 1 1 [.int .i64 x] rfl rfl (cell_one_new _ _ _) (by intro u hu; simp at hu; subst hu; rfl) (by unfold maxLen; omega) (by omega) (by simp; omega) ?_; intro v' w3 hown3 hgrow3 _; obtain ⟨ao, cc, rfl⟩ := owns_slice hown3)
                have hlt' := hown.lt
                go_roundw
                case rel =>
                  refine ⟨j + 1, by omega, by rw [HD.out.2, HOS.out], by rw [HD.out.1, HL1.out]; omega, ?_, (hnx2.alloc hsz2 _).grown hgrow3 (by simp; omega) (fun q hq => (hlt' q hq).1)⟩
                  rw [HD.out.1, HSU.out, HL1.out]
                  exact hown3
                case measure =>
                  obtain ⟨ao2, cc2, hv2⟩ := owns_slice hown
                  subst hv2
                  simp; omega
            · have hje : j = Wd := by omega
              have hne : (onward la j != t.c) = false := by
                have h := (HQ.out j hj).2 hje
                simp [h]
              subst hje
              have HO2 := Lib.hid hown
              have HX := Lib.hid hnx2
              have HLN := Lib.hid hln
              clear hown hnx2 hln
              go_wp2
              go_roundw
              case rel => exact ⟨k + 1, by omega, by go_num, by rw [HS.out.1], by rw [HS.out.2, HALL.out]; exact HLN.out, by rw [HS.out.2, HALL.out]; exact HO2.out, HX.out⟩
              case measure => simp [intOf]; omega
      · have e0 : (t.s != st) = true := by simp [hst]
        rw [if_neg hst] at hS
        have HS : Hid (endOf (countsOf (L.take (k + 1)) st) = la ∧ lostOf (countsOf (L.take (k + 1)) st) = pre) := Lib.hid ⟨by rw [hS, HLA.out], by rw [hS, HPRE.out]⟩
        have HO := Lib.hid hown
        have HX := Lib.hid hnx
        have HLN := Lib.hid hlen
        clear hst hS hP hbd hown hnx hlen
        go_wp2
        go_roundw
        case rel => exact ⟨k + 1, by omega, by go_num, by rw [HS.out.1], by rw [HS.out.2]; exact HLN.out, by rw [HS.out.2]; exact HO.out, HX.out⟩
        case measure => simp [intOf]; omega
    · obtain rfl : k = n := by omega
      have ht : L.take k = L := List.take_of_length_le (by have := HN.out; omega)
      rw [ht] at hlen hown ⊢
      have HI := Lib.hid (IntsV.of_row hown)
      have hnn : ¬ (256 < (lostOf (countsOf L st)).length) := by omega
      have HNN := Lib.hid hnn
      have HX := Lib.hid hnx
      clear ht hown hnx hnn hlen
      go_wp2
      go_ret2
      exact RefLost.few HNN.out HI.out HX.out
end Go.Proofs.YtlnhgplloaiiiaaGreatDoor

/-
  The walk of LightLosses.
-/
namespace Go.Proofs.YtlnhgplloaiiiaaGreatDoor
open Go.RowKit Go.Shelf
set_option linter.unusedVariables false
set_option linter.unusedSimpArgs false

set_option maxHeartbeats 1600000 in
theorem lFirst_any (b o n c : Nat) (zs : List Int) (hz : zs.length = n) (hm : n ≤ 4611686018427387904) (w : World)
    (hc : ∀ j, j < n → w.cell? ⟨b, o + j, none⟩ = some (.int .i64 (zs[j]?.getD 0))) :
    Calls Tryz.prog 15 #[.slice (some ⟨b, o, none⟩) n c] w fun e w' => e = .returned (.int .i64 (firstNZ zs)) ∧ w = w' := by
  have K := Lib.hid (refFirst_any b o n c zs hz hm w hc)
  clear hz hm hc
  go_enter Tryz.func15, Tryz.ntmps15
  go_wp2_with (go_at_call 93; refine K.out.mono ?_; rintro e w1 ⟨rfl, rfl⟩)
  go_ret
  exact ⟨rfl, rfl⟩

set_option maxRecDepth 100000 in
set_option maxHeartbeats 1600000 in
theorem refCheckTelegrams_many (a : Option Addr) (cp : Nat) (w : World) :
    Calls Tryz.prog 80 #[.slice a 513 cp] w fun e w' => e = .returned (.int .i64 5) ∧ Below w.heap.size w w' := by
  go_enter Tryz.func80, Tryz.ntmps80
  go_wp2
  go_ret
  exact ⟨rfl, Below.refl _ _⟩

set_option maxRecDepth 100000 in
set_option maxHeartbeats 6400000 in
theorem losses_walk (w : World) (L : List Tel) (a : Option Addr) (n cp : Nat) (st : Int) (E T Q : Int) (N : Nat) (X : List Int) (hN : N ≤ 4096) (hE : E ≠ 0 → N = 0)
    (hs : (decide (n ≤ 20) || decide (n = 513)) = true) (hA : AnyTels w a n L) (ht : TabAt w)
    (k2 : ∀ (w1 : World) (a' : Option Addr) (c' : Nat), AnyTels w1 a' n L → Calls Tryz.prog 78 #[.slice a' n c', .int .i64 st] w1 fun e w' => ∃ v, e = .returned (.tuple #[v, .int .i64 E]) ∧ IntsV w' v N X ∧ Below w1.heap.size w1 w')
    (k3 : ∀ w1 : World, AnyTels w1 a n L → Calls Tryz.prog 80 #[.slice a n cp] w1 fun e w' => e = .returned (.int .i64 T) ∧ Below w1.heap.size w1 w')
    (k4 : firstNZ [T, rangeErr st 0 255] = Q)
    (k5 : Q = 0 → ∀ w1 : World, AnyTels w1 a n L → Calls Tryz.prog 81 #[.slice a n cp, .int .i64 st] w1 fun e w' => ∃ v, e = .returned (.tuple #[v, .int .i64 E]) ∧ IntsV w' v N X ∧ Below w1.heap.size w1 w')
    (k6 : Q ≠ 0 → E = Q) :
    Calls Tryz.prog 10 #[.slice a n cp, .int .i64 st] w (TruePost w) := by
  have hn : n ≤ 513 := by simp at hs; omega
  have KS : Hid (∀ w1 : World, Calls Tryz.prog 77 #[.slice a n cp] w1 fun e w' => e = .returned (.bool true) ∧ w1 = w') := Lib.hid fun w1 => by
    have h := short_any a n cp w1 (by unfold maxLen; omega)
    rwa [hs] at h
  have KT := Lib.hid (telegrams_any L a n cp hn w hA)
  have K2 := Lib.hid k2
  have K3 := Lib.hid k3
  have K4 := Lib.hid k4
  have HA := Lib.hid hA
  have HE := Lib.hid hE
  have KW : Hid (∀ w1 : World, Below w.heap.size w w1 → Calls Tryz.prog 13 #[] w1 fun e w' => e = .returned (.bool true) ∧ Below w.heap.size w w') :=
    Lib.hid fun w1 h => (awake_any w1 (ht.on h)).mono fun e w' ⟨he, hb⟩ => ⟨he, h.trans (hb.mono h.size)⟩
  by_cases hQ : Q = 0
  · have K5 := Lib.hid (k5 hQ)
    subst hQ
    have hb34d : True := trivial
    clear k2 k3 k4 k5 k6 hA hE ht hs hn
    go_enter Tryz.func10, Tryz.ntmps10
    go_wp2_with (first
      | (go_at_call 77; refine (KS.out _).mono ?_; rintro e w0 ⟨rfl, rfl⟩)
      | (go_at_call 79; refine KT.out.mono ?_; rintro e w1 ⟨a', c', rfl, hA1, hb1⟩)
      | (go_at_call 78; refine (K2.out _ _ _ hA1).mono ?_; rintro e w2 ⟨v, rfl, hv, hb2⟩;
         have hb3 := hb1.trans (hb2.mono hb1.size); clear hA1 hb1 hb2)
      | (go_at_call 80; refine (K3.out _ (HA.out.kept hb3)).mono ?_; rintro e w3 ⟨rfl, hbq⟩;
         have hv3 := hv.kept hbq; have hb33 := hb3.trans (hbq.mono hb3.size); clear hv hb3 hbq)
      | (go_at_call 17; refine (refCheckRange_any _ _ _ _).mono ?_; rintro e w9 ⟨rfl, rfl⟩)
      | ((go_at_call 15; refine (lFirst_any _ 0 2 2 [T, rangeErr st 0 255] rfl (by omega) _ ?_).mono ?_; rotate_left 1; rintro e w4 ⟨rfl, rfl⟩; rw [K4.out]; (have hb4 := hb33.alloc hb33.size (.cells #[.int .i64 T, .int .i64 (rangeErr st 0 255)] 3)); (have hb34 := (Below.refl w3.heap.size w3).alloc (Nat.le_refl _) (.cells #[.int .i64 T, .int .i64 (rangeErr st 0 255)] 3)); rotate_left 1; (intro j hj; match j, hj with | 0, _ => simp [go_sem] | 1, _ => simp [go_sem])))
      | (go_at_call 81; refine (K5.out _ (HA.out.kept hb4)).mono ?_; rintro e w5 ⟨v5, rfl, hv5, hb5⟩;
         have hb6 := hb4.trans (hb5.mono hb4.size);
         have hv6 := hv3.kept (hb34.trans (hb5.mono hb34.size)); clear hv3 hb34 hb5)
      | (go_at_call 21; refine (listed_ok _ _ _ X E (by omega) HE.out _ hv6 hv5).mono ?_; rintro e w7 ⟨rfl, hb7⟩;
         have hb8 := hb6.trans (hb7.mono hb6.size); clear hb7)
      | (go_at_call 13; refine (KW.out _ hb8).mono ?_; rintro e w10 ⟨rfl, hb10⟩))
    go_ret
    exact ⟨rfl, hb10⟩
  · obtain rfl := k6 hQ
    have e0 : (E == 0) = false := by simp [hQ]
    obtain rfl := hE hQ
    clear k2 k3 k4 k5 k6 hA hE ht hs hn hQ
    go_enter Tryz.func10, Tryz.ntmps10
    go_wp2_with (first
      | (go_at_call 77; refine (KS.out _).mono ?_; rintro e w0 ⟨rfl, rfl⟩)
      | (go_at_call 79; refine KT.out.mono ?_; rintro e w1 ⟨a', c', rfl, hA1, hb1⟩)
      | (go_at_call 78; refine (K2.out _ _ _ hA1).mono ?_; rintro e w2 ⟨v, rfl, hv, hb2⟩;
         have hb3 := hb1.trans (hb2.mono hb1.size); clear hA1 hb1 hb2)
      | (go_at_call 80; refine (K3.out _ (HA.out.kept hb3)).mono ?_; rintro e w3 ⟨rfl, hbq⟩;
         have hv3 := hv.kept hbq; have hb33 := hb3.trans (hbq.mono hb3.size); clear hv hb3 hbq)
      | (go_at_call 17; refine (refCheckRange_any _ _ _ _).mono ?_; rintro e w9 ⟨rfl, rfl⟩)
      | ((go_at_call 15; refine (lFirst_any _ 0 2 2 [T, rangeErr st 0 255] rfl (by omega) _ ?_).mono ?_; rotate_left 1; rintro e w4 ⟨rfl, rfl⟩; rw [K4.out]; (have hb4 := hb33.alloc hb33.size (.cells #[.int .i64 T, .int .i64 (rangeErr st 0 255)] 3)); (have hb34 := (Below.refl w3.heap.size w3).alloc (Nat.le_refl _) (.cells #[.int .i64 T, .int .i64 (rangeErr st 0 255)] 3)); rotate_left 1; (intro j hj; match j, hj with | 0, _ => simp [go_sem] | 1, _ => simp [go_sem])))
      | (go_at_call 21; refine (listed_ok _ _ _ X E (by omega) (fun _ => rfl) _ (hv3.kept hb34) (IntsV.nil _ _)).mono ?_; rintro e w7 ⟨rfl, hb7⟩;
         have hb8 := hb4.trans (hb7.mono hb4.size); clear hb7)
      | (go_at_call 13; refine (KW.out _ hb8).mono ?_; rintro e w10 ⟨rfl, hb10⟩))
    go_ret
    exact ⟨rfl, hb10⟩

theorem argErr_two (L : List Tel) (st : Int) : firstNZ [telsErr L, rangeErr st 0 255] = argErr L st := rfl
theorem lostN_le (L : List Tel) (st : Int) : lostN L st ≤ 4096 ∧ (lostErr L st ≠ 0 → lostN L st = 0) := by
  unfold lostN
  split
  · rename_i h
    refine ⟨?_, fun h' => absurd h h'⟩
    unfold lostErr at h
    split at h
    · rename_i h2; exact absurd h h2
    · split at h
      · cases h
      · omega
  · exact ⟨by omega, fun _ => rfl⟩

/-- LightLosses, for every list of telegrams and every station. -/
theorem losses_all (w : World) (L : List Tel) (a : Option Addr) (n cp : Nat) (st : Int) (hm : n ≤ maxLen) (hA : AnyTels w a n L) (ht : TabAt w) :
    Calls Tryz.prog 10 #[.slice a n cp, .int .i64 st] w (TruePost w) := by
  by_cases hs : (decide (n ≤ 20) || decide (n = 513)) = true
  · by_cases hn : n = 513
    · subst hn
      exact losses_walk w L a 513 cp st 5 5 5 0 [] (by omega) (fun _ => rfl) hs hA ht
        (fun w1 a' c' h1 => (lost_many a' c' st w1).mono fun e w' ⟨he, hw⟩ => ⟨_, he, IntsV.nil _ _, by subst hw; exact Below.refl _ _⟩)
        (fun w1 h1 => refCheckTelegrams_many a cp w1) rfl (fun h => absurd h (by decide)) (fun _ => rfl)
    · have hn2 : n ≤ 512 := by simp at hs; omega
      obtain ⟨h1, h2⟩ := lostN_le L st
      refine losses_walk w L a n cp st (lostErr L st) (telsErr L) (argErr L st) (lostN L st) (lostL L st) h1 h2 hs hA ht
        (fun w1 a' c' h => lost_all L a' n c' st hn2 w1 h) (fun w1 h => refCheckTelegrams_any L a n cp hn2 w1 h) rfl ?_ ?_
      · intro h0 w1 h
        have hE : lostErr L st = if 256 < (lostL L st).length then 5 else 0 := by unfold lostErr; rw [if_neg (by simp [h0])]
        refine (refLost_any L a n cp st hn2 (telsErr_good (argErr_zero h0).1) w1 h).mono ?_
        rintro e w' ⟨v, rfl, hv, hb⟩
        refine ⟨v, by rw [hE, lostOf_L], ?_, hb⟩
        unfold lostN
        rw [hE, lostOf_L]
        by_cases hl : 256 < (lostOf (countsOf L st)).length
        · rw [if_pos hl] at hv ⊢
          exact hv
        · rw [if_neg hl] at hv ⊢
          exact hv
      · intro h0
        unfold lostErr
        rw [if_pos h0]
  · have hs := Bool.eq_false_iff.2 hs
    have KS : Hid (∀ w1 : World, Calls Tryz.prog 77 #[.slice a n cp] w1 fun e w' => e = .returned (.bool false) ∧ w1 = w') := Lib.hid fun w1 => by
      have h := short_any a n cp w1 hm
      rwa [hs] at h
    have KW := Lib.hid (awake_any w ht)
    clear hs hm hA ht
    go_enter Tryz.func10, Tryz.ntmps10
    go_wp2_with (first
      | (go_at_call 77; refine (KS.out _).mono ?_; rintro e w0 ⟨rfl, rfl⟩)
      | (go_at_call 13; refine KW.out.mono ?_; rintro e w1 ⟨rfl, hb1⟩))
    go_ret
    exact ⟨rfl, hb1⟩
end Go.Proofs.YtlnhgplloaiiiaaGreatDoor

/-
  The reference's Received of too much; the worlds of the walk of LightTelegrams.
-/
namespace Go.Proofs.YtlnhgplloaiiiaaGreatDoor
open Go.RowKit
set_option linter.unusedVariables false
set_option linter.unusedSimpArgs false

set_option maxRecDepth 100000 in
theorem refReceived_long (a : Option Addr) (n cp : Nat) (hm : 12288 < n) (hl : n ≤ 100000) (w : World) :
    Calls Tryz.prog 74 #[.slice a n cp] w fun e w' => e = .returned (.tuple #[.slice none 0 0, .slice none 0 0, .int .i64 26]) ∧ w = w' := by
  have i1 : (12288 : Int) < (n : Int) := by omega
  have i2 : (n : Int) ≤ 100000 := by omega
  go_enter Tryz.func74, Tryz.ntmps74
  go_wp2
  refine bodyPost_ret (v := .tuple #[.slice none 0 0, .slice none 0 0, .int .i64 26]) (by simp [results, Tryz.results74, go_sem]) rfl ⟨rfl, rfl⟩

/-- These blocks lie so, and nothing below has changed. -/
def Kp (w w' : World) (l : List (Nat × Obj)) : Prop := Below w.heap.size w w' ∧ ∀ p ∈ l, w'.heap[p.1]? = some p.2
theorem Kp.none (w : World) : Kp w w [] := ⟨Below.refl _ _, fun p h => nomatch h⟩
theorem Kp.call {w w1 w2 : World} {l : List (Nat × Obj)} (h : Kp w w1 l) (hb : Below w1.heap.size w1 w2) : Kp w w2 l :=
  ⟨h.1.trans (hb.mono h.1.size), fun p hp => (hb.block _ (lt_of_blk (h.2 p hp))).trans (h.2 p hp)⟩
theorem Kp.kept {w w1 w2 : World} {l : List (Nat × Obj)} (h : Kp w w1 l) (hb : Below w.heap.size w w2) (hq : ∀ p ∈ l, w2.heap[p.1]? = w1.heap[p.1]?) : Kp w w2 l :=
  ⟨hb, fun p hp => (hq p hp).trans (h.2 p hp)⟩
theorem Kp.alloc {w w1 : World} {l : List (Nat × Obj)} (h : Kp w w1 l) (o : Obj) : Kp w (w1.alloc o) ((w1.heap.size, o) :: l) :=
  ⟨h.1.alloc h.1.size o, fun p hp => by
    rcases List.mem_cons.1 hp with rfl | hp
    · exact blk_alloc_new _ _
    · exact blk_alloc_other (h.2 p hp) o⟩
theorem Kp.setHead {w w1 : World} {l : List (Nat × Obj)} {g : Nat} {cur : Array Value} {T : TypeId} (h : Kp w w1 ((g, .cells cur T (0, 0)) :: l)) (cs : Array Value) (hg : w.heap.size ≤ g) (hne : ∀ p ∈ l, p.1 ≠ g) :
    Kp w (w1.setRow g cs) ((g, .cells cs T (0, 0)) :: l) :=
  ⟨h.1.trans ((OnlyBlk.setRow w1 g cs).below h.1.size hg), fun p hp => by
    rcases List.mem_cons.1 hp with rfl | hp
    · exact setRow_heap w1 _ _ _ _ _ (h.2 _ (.head _))
    · exact ((OnlyBlk.setRow w1 g cs).1.block _ (lt_of_blk (h.2 p (.tail _ hp))) (by intro e; exact hne p hp (Option.some.inj e))).trans (h.2 p (.tail _ hp))⟩

theorem Kp.stored {w w1 : World} {l : List (Nat × Obj)} (h : Kp w w1 l) (cur cs : Array Value) (T : TypeId) : Kp w ((w1.alloc (.cells cur T)).setRow w1.heap.size cs) ((w1.heap.size, .cells cs T) :: l) :=
  (h.alloc (.cells cur T)).setHead cs h.1.size (fun p hp => Nat.ne_of_lt (lt_of_blk (h.2 p hp)))

/-- A row of bytes is a slice of bytes. -/
theorem AnyBytes.of_row {w : World} {B n : Nat} {v : Value} {S : List Int} (hS : BytesV S n) (h : w.ownsRow B 5 1 v n (S.map (Value.int .u8))) :
    ∃ a c, v = .slice a n c ∧ n ≤ c ∧ c ≤ 9223372036854775807 ∧ AnyBytes w a n S := by
  rcases h.2 with ⟨rfl, rfl⟩ | ⟨g, cap, cur, rfl, hb, hg, h1, h2, _⟩
  · exact ⟨none, 0, rfl, Nat.le_refl _, by omega, hS, fun j hj => absurd hj (by omega)⟩
  · exact ⟨_, _, rfl, h1, by unfold maxLen at h2; omega, hS, fun j hj => ⟨g, 0, rfl, lt_of_blk hg, fun i u hu => by
      have h3 := h.cells (g := g) rfl i u hu
      rwa [Addr.add_mid] at h3⟩⟩
end Go.Proofs.YtlnhgplloaiiiaaGreatDoor
