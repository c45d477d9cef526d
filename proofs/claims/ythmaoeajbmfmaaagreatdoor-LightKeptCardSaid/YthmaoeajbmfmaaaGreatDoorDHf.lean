/-
  Contracts of the reference's Checksum, Number and Bytes.
-/
import Derived.Test.YthmaoeajbmfmaaaGreatDoorDHa
import Derived.Test.YthmaoeajbmfmaaaGreatDoorDWg
import Derived.Test.YthmaoeajbmfmaaaGreatDoorDBe
import Derived.ArgAppend
import Derived.Deep.CutBlock
import Derived.Deep.DeepCutAuto
import Derived.BigQuiet
namespace Go.Proofs.YthmaoeajbmfmaaaGreatDoor
open Go.RowKit
set_option linter.unusedVariables false
set_option linter.unusedSimpArgs false

set_option maxHeartbeats 1600000 in
theorem refChecksum_any (f o n c : Nat) (l : List Int) (w : World) (hl : l.length = n) (hm : n ≤ 100000) (hbd : ∀ j, j < n → 0 ≤ l[j]?.getD 0 ∧ l[j]?.getD 0 ≤ 255)
    (hc : ∀ j, j < n → w.cell? ⟨f, o + j, none⟩ = some (.int .u8 (l[j]?.getD 0))) :
    Calls Tryz.prog 86 #[.slice (some ⟨f, o, none⟩) n c] w fun e w' => e = .returned (.int .i64 (chkOf l)) ∧ w = w' := by
  have Hl := Lib.hid hl
  have Hc := Lib.hid hc
  have Hb := Lib.hid hbd
  clear hl hc hbd
  go_enter Tryz.func86, Tryz.ntmps86
  go_wp2
  go_loop [3, 4] (fun x i => ∃ k : Nat, k ≤ n ∧ i = .int .i64 k ∧ x = .int .i64 (chkOf (l.take k))) (fun _ i => n - (intOf i).toNat)
  case atStart => exact ⟨0, Nat.zero_le _, rfl, rfl⟩
  case round =>
    obtain ⟨k, hk, rfl, rfl⟩ := hrel
    have hx := chk_bd (l.take k)
    by_cases hlt : k < n
    · have hcell := Hc.out k hlt
      have hb := Hb.out k hlt
      have HS : Hid (chkOf (l.take (k + 1)) = (277 * chkOf (l.take k) + l[k]?.getD 0) % 16777199) := foldl_take_succ _ _ _ _ (by have := Hl.out; omega) 0
      go_wp2
      go_round
      case rel => exact ⟨k + 1, by omega, by go_num, by rw [HS.out]⟩
      case measure => simp [intOf]; omega
    · go_wp2
      go_ret
      exact ⟨ret_int (by rw [List.take_of_length_le (by have := Hl.out; omega)]), rfl⟩

set_option maxHeartbeats 1600000 in
theorem refNumber_any (f o n c : Nat) (l : List Int) (w : World) (hl : l.length = n) (hm : n ≤ 4) (hbd : ∀ j, j < n → 0 ≤ l[j]?.getD 0 ∧ l[j]?.getD 0 ≤ 255)
    (hc : ∀ j, j < n → w.cell? ⟨f, o + j, none⟩ = some (.int .u8 (l[j]?.getD 0))) :
    Calls Tryz.prog 87 #[.slice (some ⟨f, o, none⟩) n c] w fun e w' => e = .returned (.int .i64 (numOf l)) ∧ w = w' := by
  have Hl := Lib.hid hl
  have Hc := Lib.hid hc
  have Hb := Lib.hid hbd
  clear hl hc hbd
  go_enter Tryz.func87, Tryz.ntmps87
  go_wp2
  go_loop [3, 4] (fun x i => ∃ k : Nat, k ≤ n ∧ i = .int .i64 k ∧ x = .int .i64 (numOf (l.take k)) ∧ 0 ≤ numOf (l.take k) ∧ numOf (l.take k) < lim k) (fun _ i => n - (intOf i).toNat)
  case atStart => exact ⟨0, Nat.zero_le _, rfl, rfl, by simp [numOf], by simp [numOf, lim]⟩
  case round =>
    obtain ⟨k, hk, rfl, rfl, hx0, hx1⟩ := hrel
    by_cases hlt : k < n
    · have hcell := Hc.out k hlt
      have hb := Hb.out k hlt
      have HS : Hid (numOf (l.take (k + 1)) = numOf (l.take k) * 256 + l[k]?.getD 0) := foldl_take_succ _ _ _ _ (by have := Hl.out; omega) 0
      have hL := lim_succ k (by omega)
      have hx2 : numOf (l.take k) ≤ 4294967295 := by omega
      have H1 := Lib.hid hx1
      have HL := Lib.hid hL
      clear hx1 hL
      go_wp2
      go_round
      case rel => exact ⟨k + 1, by omega, by go_num, by rw [HS.out, Int.mul_comm], by rw [HS.out]; omega, by rw [HS.out, HL.out.1]; have := H1.out; omega⟩
      case measure => simp [intOf]; omega
    · go_wp2
      go_ret
      exact ⟨ret_int (by rw [List.take_of_length_le (by have := Hl.out; omega)]), rfl⟩

/-- The first so many of a number's bytes, the highest one first. -/
def bytesL (v : Int) (m k : Nat) : List Int := (List.range k).map (fun j => byt v (m - 1 - j))
theorem bytesL_succ (v : Int) (m k : Nat) : (bytesL v m (k + 1)).map (Value.int .u8) = (bytesL v m k).map (Value.int .u8) ++ [.int .u8 (byt v (m - 1 - k))] := by
  simp [bytesL, List.range_succ]
theorem bytesL_4 (v : Int) : bytesL v 4 4 = [byt v 3, byt v 2, byt v 1, byt v 0] := rfl
theorem bytesL_2 (v : Int) : bytesL v 2 2 = [byt v 1, byt v 0] := rfl
theorem pow_div (v : Int) (j : Nat) : v / 256 ^ j / 256 = v / 256 ^ (j + 1) := by
  rw [Int.pow_succ, Int.ediv_ediv_of_nonneg (Int.pow_nonneg (by decide))]
theorem pow_div_bd (v : Int) (j : Nat) (h0 : 0 ≤ v) (h1 : v ≤ 4294967295) : 0 ≤ v / 256 ^ j ∧ v / 256 ^ j ≤ 4294967295 := by
  have h : (0 : Int) < 256 ^ j := Int.pow_pos (by decide)
  exact ⟨Int.ediv_nonneg h0 (by omega), Int.le_trans (Int.ediv_le_self _ h0) h1⟩
theorem Tryz.infoByteH : (Tryz.prog.info? 5).map (fun i => (i.zero, i.size, i.bytes)) = some (some (.int .u8 0), 1, 1) := by kernel_rfl

set_option maxRecDepth 100000 in
set_option maxHeartbeats 3200000 in
theorem refBytes_any (v : Int) (m : Nat) (h0 : 0 ≤ v) (h1 : v ≤ 4294967295) (hm : m ≤ 4) (w : World) :
    Calls Tryz.prog 84 #[.int .i64 v, .int .i64 m] w fun e w' => ∃ u, e = .returned u ∧ w'.ownsRow w.heap.size 5 1 u m ((bytesL v m m).map (Value.int .u8)) ∧ Below w.heap.size w w' := by
  obtain ⟨i0, hi, hz0, hz1, hz2⟩ := info_parts Tryz.infoByteH
  have i1 : (m : Int) ≤ 4 := by omega
  go_enter Tryz.func84, Tryz.ntmps84
  go_wp2
  go_loopw [5, 6] (fun out i wr => ∃ k : Nat, k ≤ m ∧ i = .int .i64 ((m : Int) - 1 - (k : Int)) ∧ wr.ownsRow w.heap.size 5 1 out k ((bytesL v m k).map (Value.int .u8)) ∧ Below w.heap.size w wr)
    (fun _ i _ => (intOf i + 1).toNat)
  case atStart => exact ⟨0, Nat.zero_le _, by simp, World.ownsRow_nil _ _ _ _, Below.refl _ _⟩
  case round =>
    obtain ⟨k, hk, rfl, hown, hnx⟩ := hrel
    have hsz : w.heap.size ≤ wr.heap.size := hnx.size
    by_cases hlt : k < m
    · obtain ⟨d, hd⟩ : ∃ d : Nat, m - 1 - k = d := ⟨_, rfl⟩
      have ed : (m : Int) - 1 - (k : Int) = (d : Int) := by omega
      have ed2 : (m : Int) - 1 - ((k + 1 : Nat) : Int) = (d : Int) - 1 := by omega
      have hS := bytesL_succ v m k
      rw [hd] at hS
      rw [ed]
      have HS := Lib.hid hS
      have HD2 := Lib.hid ed2
      have hd4 : (d : Int) ≤ 4 := by omega
      have hd0 : (0 : Int) ≤ (d : Int) := by omega
      clear hd ed ed2 hS
      go_wp2_with fail
      go_loop [7, 8] (fun x y => ∃ j : Nat, j ≤ d ∧ x = .int .i64 (v / 256 ^ j) ∧ y = .int .i64 j) (fun _ y => d - (intOf y).toNat)
      case atStart => exact ⟨0, Nat.zero_le _, by simp, rfl⟩
      case round =>
        obtain ⟨j, hj, rfl, rfl⟩ := hrel
        have hb := pow_div_bd v j h0 h1
        have HP := Lib.hid (pow_div v j)
        by_cases hjl : j < d
        · have h4 : (j : Int) < (d : Int) := by omega
          obtain ⟨x, hx⟩ : ∃ x, v / 256 ^ j = x := ⟨_, rfl⟩
          rw [hx] at hb HP ⊢
          clear hx
          go_wp2_with fail
          go_round
          case rel => exact ⟨j + 1, by omega, by rw [HP.out], by go_num⟩
          case measure => first | (simp [intOf]; done) | (simp [intOf]; omega)
        · obtain rfl : j = d := by omega
          have h4 : ¬ ((j : Int) < (j : Int)) := by omega
          have hbb := byt_bd v j
          have hby : v / 256 ^ j % 256 = byt v j := rfl
          obtain ⟨x, hx⟩ : ∃ x, v / 256 ^ j = x := ⟨_, rfl⟩
          rw [hx] at hb hby ⊢
          obtain ⟨y, hy⟩ : ∃ y, byt v j = y := ⟨_, rfl⟩
          rw [hy] at hby hbb HS
          have hm4 : x % 256 = y := hby
          clear hx hy HP hby
          go_wp2_with (at_builtin; refine wpList_append_own _ rfl (.tmp 23) (.tmp 27) 45 rfl w.heap.size 5 i0 (.int .u8 0) 1 1 Tryz.underlying45 hi hz0 hz1 hz2 rfl (by decide) _ k _ rfl (hown.alloc _) ⟨wr.heap.size, 0, none⟩ 1 1 [.int .u8 y] rfl rfl (cell_one_new _ _ _) (by intro u hu; simp at hu; subst hu; rfl) (by unfold maxLen; omega) (by omega) (by simp; omega) ?_; intro v' w3 hown3 hgrow3 _)
          have hlt' := hown.lt
          go_roundw
          case rel => exact ⟨k + 1, by omega, by rw [HD2.out], by rw [HS.out]; exact hown3, (hnx.alloc hsz _).grown hgrow3 (by simp; omega) (fun q hq => (hlt' q hq).1)⟩
          case measure => simp [intOf]
    · obtain rfl : k = m := by omega
      have i2 : ¬ (0 ≤ (k : Int) - 1 - (k : Int)) := by omega
      have HO := Lib.hid hown
      have HX := Lib.hid hnx
      clear hown hnx
      go_wp2
      go_ret
      exact ⟨_, rfl, HO.out, HX.out⟩
end Go.Proofs.YthmaoeajbmfmaaaGreatDoor

/-
  Contract of the reference's Pack for a right map: the bytes of its stream.
-/
namespace Go.Proofs.YthmaoeajbmfmaaaGreatDoor
open Go.RowKit
set_option linter.unusedVariables false
set_option linter.unusedSimpArgs false

theorem smp_of_zero : Smp 0 0 := by have h := smpOf_smp 0 (by decide); rwa [smpOf_zero] at h
theorem order_zero {x : Nat} (h : Smp x 0) : (FloatKind.f32.format.order x 0 != some .eq) = false := order_eq_neq h smp_of_zero
theorem order_nonzero {x : Nat} {k : Int} (h : Smp x k) (hk : k ≠ 0) : (FloatKind.f32.format.order x 0 != some .eq) = true := by
  have e : Ieee.single.order x 0 = some (compare k 0) := h.order smp_of_zero
  show (Ieee.single.order x 0 != some .eq) = true
  rw [e]
  have e2 : compare k 0 ≠ .eq := by
    show compareOfLessAndEq k 0 ≠ .eq
    unfold compareOfLessAndEq
    split
    · simp
    · simp [hk]
  cases h2 : compare k 0 <;> simp_all
theorem one_bytes (L : List Int) : ∀ u ∈ L.map (Value.int .u8), u.oneCell' = true := by
  intro u hu; obtain ⟨y, _, rfl⟩ := List.mem_map.1 hu; rfl
theorem row_cells {w : World} {B : Nat} {T : TypeId} {x y z : Value} (h : w.heap[B]? = some (.cells #[x, y, z] T (0, 0))) :
    w.cell? ⟨B, 0, none⟩ = some x ∧ w.cell? ⟨B, 1, none⟩ = some y ∧ w.cell? ⟨B, 2, none⟩ = some z :=
  ⟨by rw [cell_of_row w _ 0 _ _ (0, 0) h]; rfl, by rw [cell_of_row w _ 1 _ _ (0, 0) h]; rfl, by rw [cell_of_row w _ 2 _ _ (0, 0) h]; rfl⟩
theorem word_bytes (v : Int) : bytesL v 4 4 = wordOf v := rfl
theorem run_toInt32 (d : Nat) : ∀ w : World, (convert 165 3 (.int .u32 d)).run Tryz.prog w = .ok (.int .i64 (IntKind.i64.wrap d)) w := fun w => by
  have hs := Tryz.underlying165
  have hd := Tryz.underlying3
  simp [convert, run_underlying hs, run_underlying hd, Conv.intToInt]

set_option maxRecDepth 100000 in
set_option maxHeartbeats 6400000 in
theorem refPack_any (W H : Nat) (b o c n : Nat) (xs : List Nat) (ks : List Int) (w : World) (hA : RightMap w W H b o n xs ks) (hb : b < w.heap.size) :
    Calls Tryz.prog 33 #[.agg #[.int .i64 W, .int .i64 H, .slice (some ⟨b, o, none⟩) n c]] w fun e w' =>
      ∃ v, e = .returned v ∧ w'.ownsRow w.heap.size 5 1 v (10 + 4 * n) ((packL W H ks).map (Value.int .u8)) ∧ Below w.heap.size w w' := by
  obtain ⟨i0, hi, hz0, hz1, hz2⟩ := info_parts Tryz.infoByte
  obtain ⟨W0, hW0⟩ : ∃ W0, w.alloc (.cells #[.int .i64 W, .int .i64 H, .slice (some ⟨b, o, none⟩) n c] 66) = W0 := ⟨_, rfl⟩
  have hB0 : Below w.heap.size w W0 := by rw [← hW0]; exact (Below.refl _ w).alloc (Nat.le_refl _) _
  have hS0 : W0.heap.size = w.heap.size + 1 := by rw [← hW0]; simp
  have r0 : W0.heap[w.heap.size]? = some (.cells #[.int .i64 W, .int .i64 H, .slice (some ⟨b, o, none⟩) n c] 66 (0, 0)) := by rw [← hW0]; exact blk_alloc_new _ _
  obtain ⟨W1, hW1⟩ : ∃ W1, W0.alloc (.cells #[.int .u8 76, .int .u8 77, .int .u8 65, .int .u8 80] 5 (4, 5)) = W1 := ⟨_, rfl⟩
  have kc := Lib.run_convert_bytes_const (P := Tryz.prog) W0 45 5 #[.int .u8 76, .int .u8 77, .int .u8 65, .int .u8 80] 4 4 Tryz.underlying45 Tryz.underlying5
  have hm1 := magic_row W0
  rw [hW1] at hm1
  have hB1 : Below w.heap.size w W1 := by rw [← hW1]; exact hB0.alloc (by omega) _
  have hS1 : W1.heap.size = w.heap.size + 2 := by rw [← hW1]; simp [hS0]
  have r1 : W1.heap[w.heap.size]? = some (.cells #[.int .i64 W, .int .i64 H, .slice (some ⟨b, o, none⟩) n c] 66 (0, 0)) := by rw [← hW1]; exact blk_alloc_other r0 _
  obtain ⟨c0, c1, c2⟩ := row_cells r1
  have kc' : (convert 45 45 (.slice (some ⟨W0.heap.size, 0, none⟩) 4 4)).run Tryz.prog (W0.alloc (.cells #[.int .u8 76, .int .u8 77, .int .u8 65, .int .u8 80] 5)) = .ok (.slice (some ⟨W0.heap.size, 0, none⟩) 4 4) W1 := by rw [← hW1]; exact kc
  have hWi := hA.wid
  have hHe := hA.hei
  have hW64 : W ≤ 64 := by omega
  have hH64 : H ≤ 64 := by omega
  have hN : W * H = n := by have := hA.area; exact_mod_cast this
  have hsm := hA.small
  have u1 : IntKind.u8.wrap (W : Int) = (W : Int) := IntWalk.u8_in _ ⟨by omega, by omega⟩
  have u2 : IntKind.u8.wrap (H : Int) = (H : Int) := IntWalk.u8_in _ ⟨by omega, by omega⟩
  have hn1 : 1 ≤ n := by have := Nat.mul_le_mul (show 1 ≤ W by omega) (show 1 ≤ H by omega); omega
  obtain ⟨W2, hW2⟩ : ∃ W2, W1.alloc (.cells #[.int .u8 W, .int .u8 H] 5) = W2 := ⟨_, rfl⟩
  have hB2 : Below w.heap.size w W2 := by rw [← hW2]; exact hB1.alloc (by omega) _
  have hS2 : W2.heap.size = w.heap.size + 3 := by rw [← hW2]; simp [hS1]
  have r2 : W2.heap[w.heap.size]? = some (.cells #[.int .i64 W, .int .i64 H, .slice (some ⟨b, o, none⟩) n c] 66 (0, 0)) := by rw [← hW2]; exact blk_alloc_other r1 _
  have hm2 : W2.rangeAt W0.heap.size 0 (magicL.map (Value.int .u8)) := range_below hm1 (show Below W1.heap.size W1 W2 by rw [← hW2]; exact (Below.refl _ W1).alloc (Nat.le_refl _) _) (by omega)
  have bN : W2.heap[W1.heap.size]? = some (.cells #[.int .u8 W, .int .u8 H] 5 (0, 0)) := by rw [← hW2]; exact blk_alloc_new _ _
  have HC : Hid (∀ j u, ([.int .u8 W, .int .u8 H] : List Value)[j]? = some u → W2.cell? ((⟨W1.heap.size, 0, none⟩ : Addr).add j) = some u) := Lib.hid fun j u hu => by
    rw [Addr.add_mid, Nat.zero_add, cell_of_row _ _ j _ _ (0, 0) bN]
    simpa using hu
  have HM2 : Hid (∀ bb : Addr, some (⟨W0.heap.size, 0, none⟩ : Addr) = some bb → ∀ j u, (magicL.map (Value.int .u8))[j]? = some u → W2.cell? (bb.add j) = some u) := Lib.hid fun bb hbb j u hu => by
    cases hbb
    rw [Addr.add_mid]
    exact hm2 j u hu
  have HB2 := Lib.hid hB2
  have HR2 := Lib.hid r2
  have HRA := Lib.hid hA
  have HN := Lib.hid hN
  have HW2 := Lib.hid hW2
  have HS1 := Lib.hid hS1
  rw [hS0] at kc' HM2
  rw [hS1] at HC
  have HW1 := Lib.hid hW1
  clear hA hB0 hB1 hB2 hW1 r0 r1 r2 hm1 hm2 bN kc hN hW2
  go_enter Tryz.func33, Tryz.ntmps33
  go_upto_region 1 with fail
  try rw [hW0]
  clear hW0
  go_upto_region 2 with (
    (at_builtin; try rw [HW2.out]; refine wpList_append_grows _ rfl (.tmp 8) (.tmp 15) 45 rfl 5 i0 (.int .u8 0) 1 1 Tryz.underlying45 hi hz0 hz1 hz2 rfl (by decide) (some ⟨w.heap.size + 1, 0, none⟩) 4 4 (magicL.map (Value.int .u8)) rfl (fun h => by cases h) rfl HM2.out ⟨w.heap.size + 2, 0, none⟩ 2 2 [.int .u8 W, .int .u8 H] rfl rfl HC.out (by intro u hu; simp at hu; rcases hu with rfl | rfl <;> rfl) (by omega) (by unfold maxLen; omega) (by omega) ?_; intro v3 w3 hown3 hgrow3))
  have hown3' : w3.ownsRow W2.heap.size 5 1 v3 6 ((packHead W H).map (Value.int .u8)) := hown3
  have hb3 : Below w.heap.size w w3 := HB2.out.grown hgrow3 (by omega) (fun k hk => by cases hk)
  have r3 : w3.heap[w.heap.size]? = some (.cells #[.int .i64 W, .int .i64 H, .slice (some ⟨b, o, none⟩) n c] 66 (0, 0)) := (hgrow3.block _ (by omega) (by simp)).trans HR2.out
  have hs3 : W2.heap.size ≤ w3.heap.size := hgrow3.size
  have HO3 := Lib.hid hown3'
  have HB3 := Lib.hid hb3
  have HR3 := Lib.hid r3
  clear hown3 hown3' hgrow3 hb3 r3 HC HM2
  go_wp2_with fail
  go_loopw [3, 4, 5] (fun v i _ wr => ∃ k : Nat, k ≤ n ∧ i = .int .i64 k ∧ wr.ownsRow W2.heap.size 5 1 v (6 + 4 * k) ((packHead W H ++ packBody (ks.take k)).map (Value.int .u8)) ∧ Below w.heap.size w wr ∧ W2.heap.size ≤ wr.heap.size ∧ wr.heap[w.heap.size]? = some (.cells #[.int .i64 W, .int .i64 H, .slice (some ⟨b, o, none⟩) n c] 66 (0, 0)))
    (fun _ i _ _ => n - (intOf i).toNat)
  case atStart => exact ⟨0, Nat.zero_le _, rfl, HO3.out, HB3.out, hs3, HR3.out⟩
  case round =>
    obtain ⟨k, hk, rfl, hown, hnx, hsz, hrow⟩ := hrel
    obtain ⟨_, _, m2⟩ := row_cells hrow
    obtain ⟨ga, ca, rfl, hga, hgB⟩ := owns_some hown (by omega)
    by_cases hlt : k < n
    · have hcell : wr.cell? ⟨b, o + k, none⟩ = some (.float .f32 (xs[k]?.getD 0)) := (hnx.cell (by exact hb)).trans (HRA.out.cells k hlt)
      have hsmp := HRA.out.smps k hlt
      have hwd := HRA.out.words k hlt
      have hb16 := HRA.out.sizes k hlt
      obtain ⟨kj, hkj⟩ : ∃ kj : Int, ks[k]?.getD 0 = kj := ⟨_, rfl⟩
      obtain ⟨xj, hxj⟩ : ∃ xj : Nat, xs[k]?.getD 0 = xj := ⟨_, rfl⟩
      rw [hkj] at hsmp hb16
      rw [hxj] at hcell hsmp hwd
      have hsl := smpOf_word kj (Nat.lt_of_le_of_lt hb16 (by decide))
      have hsu := packBody_succ ks k (by rw [HRA.out.lenk]; exact hlt)
      rw [hkj] at hsu
      have KB := Lib.hid (refBytes_any (smpOf kj : Nat) 4 (by omega) (by omega) (by omega))
      have HSU := Lib.hid hsu
      have HO := Lib.hid hown
      have HNX := Lib.hid hnx
      have HRW := Lib.hid hrow
      have h4 : (k : Int) < (n : Int) := by omega
      have h5 : (0 : Int) ≤ (k : Int) := by omega
      by_cases h0 : kj = 0
      · subst h0
        have t1 := order_zero hsmp
        rw [smpOf_zero] at KB
        clear hown hnx hsu hkj hxj hsmp hwd hb16 hsl
        rw [show ((0 : Nat) : Int) = 0 from rfl] at KB
        go_wp2_with (first
          | (go_at_call 84; refine (KB.out _).mono ?_; rintro e w8 ⟨v8, rfl, hown8, hb8⟩;
             obtain ⟨g8, c8, rfl, hg8, _⟩ := owns_some hown8 (by omega);
             have ho8 := owns_kept HO.out hb8 (Nat.le_refl _);
             have hz8 := hb8.size)
          | (at_builtin; refine wpList_append_own _ rfl (.tmp 37) (.tmp 39) 45 rfl W2.heap.size 5 i0 (.int .u8 0) 1 1 Tryz.underlying45 hi hz0 hz1 hz2 rfl (by decide) _ (6 + 4 * k) _ rfl ho8 ⟨g8, 0, none⟩ 4 c8 ((bytesL 0 4 4).map (Value.int .u8)) rfl rfl (fun j u hu => by rw [Addr.add_mid, Nat.zero_add]; exact owns_cell hown8 hu) (one_bytes _) (by unfold maxLen; omega) (by omega) (by omega) ?_; intro v9 w9 hown9 hgrow9 _))
        have hlw := ho8.lt
        have r9 : w9.heap[w.heap.size]? = some (.cells #[.int .i64 W, .int .i64 H, .slice (some ⟨b, o, none⟩) n c] 66 (0, 0)) := (hgrow9.block _ (by omega) (fun e => by have := (hlw _ e.symm).1; omega)).trans ((hb8.block _ (by omega)).trans HRW.out)
        have hb9 : Below w.heap.size w w9 := ((HNX.out.trans (hb8.mono HNX.out.size))).grown hgrow9 (by omega) (fun j hj => by have := (hlw _ hj).1; omega)
        have hs9 := hgrow9.size
        have HO9 := Lib.hid hown9
        have HB9 := Lib.hid hb9
        have HR9 := Lib.hid r9
        clear hown9 hb9 r9 hgrow9 hown8 hb8 ho8 hlw
        go_roundw
        case rel =>
          refine ⟨k + 1, by omega, by go_num, ?_, HB9.out, by omega, HR9.out⟩
          rw [HSU.out, smpOf_zero, ← List.append_assoc, List.map_append]
          exact HO9.out
        case measure => simp [intOf]; omega
      · have t1 := order_nonzero hsmp h0
        have hxe : xj = smpOf kj := smp_word hwd hsmp h0 (by omega) hsl
        have hb32 := run_bits32 xj
        have hcv := run_toInt32 xj
        have hwr : IntKind.i64.wrap (xj : Int) = (xj : Int) := IntWalk.i64_in _ ⟨by omega, by omega⟩
        rw [hwr] at hcv
        rw [← hxe] at KB
        have HXE := Lib.hid hxe
        clear hown hnx hsu hkj hxj hsmp hwd hb16 hsl hxe h0
        go_wp2_with (first
          | (go_at_call 84; refine (KB.out _).mono ?_; rintro e w8 ⟨v8, rfl, hown8, hb8⟩;
             obtain ⟨g8, c8, rfl, hg8, _⟩ := owns_some hown8 (by omega);
             have ho8 := owns_kept HO.out hb8 (Nat.le_refl _);
             have hz8 := hb8.size)
          | (at_builtin; refine wpList_append_own _ rfl (.tmp 37) (.tmp 39) 45 rfl W2.heap.size 5 i0 (.int .u8 0) 1 1 Tryz.underlying45 hi hz0 hz1 hz2 rfl (by decide) _ (6 + 4 * k) _ rfl ho8 ⟨g8, 0, none⟩ 4 c8 ((bytesL xj 4 4).map (Value.int .u8)) rfl rfl (fun j u hu => by rw [Addr.add_mid, Nat.zero_add]; exact owns_cell hown8 hu) (one_bytes _) (by unfold maxLen; omega) (by omega) (by omega) ?_; intro v9 w9 hown9 hgrow9 _))
        have hlw := ho8.lt
        have r9 : w9.heap[w.heap.size]? = some (.cells #[.int .i64 W, .int .i64 H, .slice (some ⟨b, o, none⟩) n c] 66 (0, 0)) := (hgrow9.block _ (by omega) (fun e => by have := (hlw _ e.symm).1; omega)).trans ((hb8.block _ (by omega)).trans HRW.out)
        have hb9 : Below w.heap.size w w9 := ((HNX.out.trans (hb8.mono HNX.out.size))).grown hgrow9 (by omega) (fun j hj => by have := (hlw _ hj).1; omega)
        have hs9 := hgrow9.size
        have HO9 := Lib.hid hown9
        have HB9 := Lib.hid hb9
        have HR9 := Lib.hid r9
        clear hown9 hb9 r9 hgrow9 hown8 hb8 ho8 hlw
        go_roundw
        case rel =>
          refine ⟨k + 1, by omega, by go_num, ?_, HB9.out, by omega, HR9.out⟩
          rw [HSU.out, ← HXE.out, ← List.append_assoc, List.map_append]
          exact HO9.out
        case measure => simp [intOf]; omega
    · obtain rfl : k = n := by omega
      rw [List.take_of_length_le (by rw [HRA.out.lenk]; omega)] at hown
      have hpl : (packS W H ks).length = 6 + 4 * k := by rw [packS, List.length_append, packBody_len, HRA.out.lenk]; rfl
      have hbyte := byte_bd (ks := ks) hW64 hH64
      have hck := chk_bd (packS W H ks)
      have hget : ∀ j, j < 6 + 4 * k → (packS W H ks)[j]?.getD 0 ∈ packS W H ks := fun j hj => by
        rw [List.getElem?_eq_getElem (by rw [hpl]; exact hj)]; exact List.getElem_mem _
      have KC := Lib.hid (refChecksum_any ga 0 (6 + 4 * k) ca (packS W H ks) wr hpl (by omega) (fun j hj => hbyte _ (hget j hj)) (fun j hj => by
        rw [Nat.zero_add]
        exact owns_cell hown (by
          show ((packS W H ks).map (Value.int .u8))[j]? = _
          rw [List.getElem?_map, List.getElem?_eq_getElem (by rw [hpl]; exact hj)]; rfl)))
      have KB := Lib.hid (refBytes_any (chkOf (packS W H ks)) 4 hck.1 (by omega) (by omega))
      have HO : Hid (wr.ownsRow W2.heap.size 5 1 (.slice (some ⟨ga, 0, none⟩) (6 + 4 * k) ca) (6 + 4 * k) ((packS W H ks).map (Value.int .u8))) := Lib.hid hown
      have HNX := Lib.hid hnx
      clear hpl hbyte hck hget hown hnx hrow
      go_wp2_with (first
        | (go_at_call 86; refine KC.out.mono ?_; rintro e w7 ⟨rfl, rfl⟩)
        | (go_at_call 84; refine (KB.out _).mono ?_; rintro e w8 ⟨v8, rfl, hown8, hb8⟩;
           obtain ⟨g8, c8, rfl, hg8, _⟩ := owns_some hown8 (by omega);
           have ho8 := owns_kept HO.out hb8 (Nat.le_refl _);
           have hz8 := hb8.size)
        | (at_builtin; refine wpList_append_own _ rfl (.tmp 43) (.tmp 45) 45 rfl W2.heap.size 5 i0 (.int .u8 0) 1 1 Tryz.underlying45 hi hz0 hz1 hz2 rfl (by decide) _ (6 + 4 * k) _ rfl ho8 ⟨g8, 0, none⟩ 4 c8 ((bytesL (chkOf (packS W H ks)) 4 4).map (Value.int .u8)) rfl rfl (fun j u hu => by rw [Addr.add_mid, Nat.zero_add]; exact owns_cell hown8 hu) (one_bytes _) (by unfold maxLen; omega) (by omega) (by omega) ?_; intro v9 w9 hown9 hgrow9 _))
      have hlw := ho8.lt
      have hb9 : Below w.heap.size w w9 := ((HNX.out.trans (hb8.mono HNX.out.size))).grown hgrow9 (by omega) (fun j hj => by have := (hlw _ hj).1; omega)
      go_ret
      refine ⟨_, rfl, owns_base ?_ (show w.heap.size ≤ W2.heap.size by omega), hb9⟩
      rw [show 10 + 4 * k = 6 + 4 * k + 4 by omega, packL, List.map_append]
      exact hown9
end Go.Proofs.YthmaoeajbmfmaaaGreatDoor

/-
  Contracts of the reference's Total and Level of a right map, and of number.
-/
namespace Go.Proofs.YthmaoeajbmfmaaaGreatDoor
open Go.RowKit
set_option linter.unusedVariables false
set_option linter.unusedSimpArgs false

set_option maxRecDepth 100000 in
set_option maxHeartbeats 3200000 in
theorem refLevel_any (W H : Nat) (b o n c : Nat) (xs : List Nat) (ks : List Int) (w : World) (hw : RightMap w W H b o n xs ks) (hb : b < w.heap.size) (X Y : Nat) (hX : X < W) (hY : Y < H) :
    Calls Tryz.prog 113 #[.agg #[.int .i64 W, .int .i64 H, .slice (some ⟨b, o, none⟩) n c], .int .i64 X, .int .i64 Y] w fun e w' => e = .returned (.int .i64 (ks[Y * W + X]?.getD 0)) ∧ Below w.heap.size w w' := by
  have hW := hw.wid
  have hH := hw.hei
  have hN : W * H = n := by have := hw.area; exact_mod_cast this
  have hlt : Y * W + X < n := idx_lt (p := (X, Y)) hX hY hN
  have hsm := hw.small
  have hcell := hw.cells _ hlt
  have K := Lib.hid (hw.smps _ hlt)
  have K2 := Lib.hid (Nat.lt_of_le_of_lt (hw.sizes _ hlt) (show 16384 < 2 ^ 40 by decide))
  have m1 : Y * W ≤ 64 * 64 := Nat.mul_le_mul (by omega) (by omega)
  have e2 : (Y : Int) * (W : Int) = ((Y * W : Nat) : Int) := by push_cast; rfl
  have w2 : IntKind.wrap .i64 (((Y * W : Nat) : Int)) = ((Y * W : Nat) : Int) := IntWalk.i64_in _ (by omega)
  have e1 : (((Y * W : Nat) : Int) + (X : Int)) = ((Y * W + X : Nat) : Int) := by push_cast; rfl
  clear hw
  have t1 : ((X : Int) < 0) = False := by simp
  have t2 : ((W : Int) ≤ (X : Int)) = False := by simp; omega
  have t3 : ((Y : Int) < 0) = False := by simp
  have t4 : ((H : Int) ≤ (Y : Int)) = False := by simp; omega
  generalize hp : Y * W + X = P at *
  have w1 : IntKind.wrap .i64 (P : Int) = (P : Int) := IntWalk.i64_in _ (by omega)
  generalize hq : Y * W = Q at *
  go_enter Tryz.func113, Tryz.ntmps113
  go_wp2_with (go_at_call 54; refine (sixteenths_any _ _ K.out K2.out _).mono ?_; rintro e w' ⟨rfl, rfl⟩)
  go_ret
  exact ⟨rfl, (Below.refl _ w).alloc (Nat.le_refl _) _⟩

end Go.Proofs.YthmaoeajbmfmaaaGreatDoor
