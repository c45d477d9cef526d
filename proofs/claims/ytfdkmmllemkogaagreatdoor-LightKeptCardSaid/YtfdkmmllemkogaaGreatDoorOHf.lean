/-
  Contracts of the reference's Checksum, Number and Bytes.
-/
import Derived.Test.YtfdkmmllemkogaaGreatDoorOHa
import Derived.Test.YtfdkmmllemkogaaGreatDoorOWk
namespace Go.Proofs.YtfdkmmllemkogaaGreatDoor
open Go.RowKit
set_option linter.unusedVariables false
set_option linter.unusedSimpArgs false

set_option maxHeartbeats 1600000 in
theorem refChecksum_any (f o n c : Nat) (l : List Int) (w : World) (hl : l.length = n) (hm : n ≤ 100000) (hbd : ∀ j, j < n → 0 ≤ l[j]?.getD 0 ∧ l[j]?.getD 0 ≤ 255)
    (hc : ∀ j, j < n → w.cell? ⟨f, o + j, none⟩ = some (.int .u8 (l[j]?.getD 0))) :
    Calls Tryz.prog 169 #[.slice (some ⟨f, o, none⟩) n c] w fun e w' => e = .returned (.int .i64 (chkOf l)) ∧ w = w' := by
  have Hl := Lib.hid hl
  have Hc := Lib.hid hc
  have Hb := Lib.hid hbd
  clear hl hc hbd
  go_enter Tryz.func169, Tryz.ntmps169
  go_wp2
  go_loop [3, 4] (fun x i => ∃ k : Nat, k ≤ n ∧ i = .int .i64 k ∧ x = .int .i64 (chkOf (l.take k))) (fun _ i => n - (intOf i).toNat)
  case atStart => exact ⟨0, Nat.zero_le _, rfl, rfl⟩
  case round =>
    obtain ⟨k, hk, rfl, rfl⟩ := hrel
    have hx := chk_bd (l.take k)
    by_cases hlt : k < n
    · have hcell := Hc.out k hlt
      have hb := Hb.out k hlt
      have HS : Hid (chkOf (l.take (k + 1)) = (277 * chkOf (l.take k) + l[k]?.getD 0) % 16777199) := foldl_take_succ _ _ _ _ (by have := Hl.out; omega) 0
      go_wp2
      go_round
      case rel => exact ⟨k + 1, by omega, by go_num, by rw [HS.out]⟩
      case measure => simp [intOf]; omega
    · go_wp2
      go_ret
      exact ⟨ret_int (by rw [List.take_of_length_le (by have := Hl.out; omega)]), rfl⟩

set_option maxHeartbeats 1600000 in
theorem refNumber_any (f o n c : Nat) (l : List Int) (w : World) (hl : l.length = n) (hm : n ≤ 4) (hbd : ∀ j, j < n → 0 ≤ l[j]?.getD 0 ∧ l[j]?.getD 0 ≤ 255)
    (hc : ∀ j, j < n → w.cell? ⟨f, o + j, none⟩ = some (.int .u8 (l[j]?.getD 0))) :
    Calls Tryz.prog 170 #[.slice (some ⟨f, o, none⟩) n c] w fun e w' => e = .returned (.int .i64 (numOf l)) ∧ w = w' := by
  have Hl := Lib.hid hl
  have Hc := Lib.hid hc
  have Hb := Lib.hid hbd
  clear hl hc hbd
  go_enter Tryz.func170, Tryz.ntmps170
  go_wp2
  go_loop [3, 4] (fun x i => ∃ k : Nat, k ≤ n ∧ i = .int .i64 k ∧ x = .int .i64 (numOf (l.take k)) ∧ 0 ≤ numOf (l.take k) ∧ numOf (l.take k) < lim k) (fun _ i => n - (intOf i).toNat)
  case atStart => exact ⟨0, Nat.zero_le _, rfl, rfl, by simp [numOf], by simp [numOf, lim]⟩
  case round =>
    obtain ⟨k, hk, rfl, rfl, hx0, hx1⟩ := hrel
    by_cases hlt : k < n
    · have hcell := Hc.out k hlt
      have hb := Hb.out k hlt
      have HS : Hid (numOf (l.take (k + 1)) = numOf (l.take k) * 256 + l[k]?.getD 0) := foldl_take_succ _ _ _ _ (by have := Hl.out; omega) 0
      have hL := lim_succ k (by omega)
      have hx2 : numOf (l.take k) ≤ 4294967295 := by omega
      have H1 := Lib.hid hx1
      have HL := Lib.hid hL
      clear hx1 hL
      go_wp2
      go_round
      case rel => exact ⟨k + 1, by omega, by go_num, by rw [HS.out, Int.mul_comm], by rw [HS.out]; omega, by rw [HS.out, HL.out.1]; have := H1.out; omega⟩
      case measure => simp [intOf]; omega
    · go_wp2
      go_ret
      exact ⟨ret_int (by rw [List.take_of_length_le (by have := Hl.out; omega)]), rfl⟩

/-- The first so many of a number's bytes, the highest one first. -/
def bytesL (v : Int) (m k : Nat) : List Int := (List.range k).map (fun j => byt v (m - 1 - j))
theorem bytesL_succ (v : Int) (m k : Nat) : (bytesL v m (k + 1)).map (Value.int .u8) = (bytesL v m k).map (Value.int .u8) ++ [.int .u8 (byt v (m - 1 - k))] := by
  simp [bytesL, List.range_succ]
theorem bytesL_4 (v : Int) : bytesL v 4 4 = [byt v 3, byt v 2, byt v 1, byt v 0] := rfl
theorem bytesL_2 (v : Int) : bytesL v 2 2 = [byt v 1, byt v 0] := rfl
theorem pow_div (v : Int) (j : Nat) : v / 256 ^ j / 256 = v / 256 ^ (j + 1) := by
  rw [Int.pow_succ, Int.ediv_ediv_of_nonneg (Int.pow_nonneg (by decide))]
theorem pow_div_bd (v : Int) (j : Nat) (h0 : 0 ≤ v) (h1 : v ≤ 4294967295) : 0 ≤ v / 256 ^ j ∧ v / 256 ^ j ≤ 4294967295 := by
  have h : (0 : Int) < 256 ^ j := Int.pow_pos (by decide)
  exact ⟨Int.ediv_nonneg h0 (by omega), Int.le_trans (Int.ediv_le_self _ h0) h1⟩
theorem Tryz.infoByteH : (Tryz.prog.info? 5).map (fun i => (i.zero, i.size, i.bytes)) = some (some (.int .u8 0), 1, 1) := by kernel_rfl

set_option maxRecDepth 100000 in
set_option maxHeartbeats 3200000 in
theorem refBytes_any (v : Int) (m : Nat) (h0 : 0 ≤ v) (h1 : v ≤ 4294967295) (hm : m ≤ 4) (w : World) :
    Calls Tryz.prog 167 #[.int .i64 v, .int .i64 m] w fun e w' => ∃ u, e = .returned u ∧ w'.ownsRow w.heap.size 5 1 u m ((bytesL v m m).map (Value.int .u8)) ∧ Below w.heap.size w w' := by
  obtain ⟨i0, hi, hz0, hz1, hz2⟩ := info_parts Tryz.infoByteH
  have i1 : (m : Int) ≤ 4 := by omega
  go_enter Tryz.func167, Tryz.ntmps167
  go_wp2
  go_loopw [5, 6] (fun out i wr => ∃ k : Nat, k ≤ m ∧ i = .int .i64 ((m : Int) - 1 - (k : Int)) ∧ wr.ownsRow w.heap.size 5 1 out k ((bytesL v m k).map (Value.int .u8)) ∧ Below w.heap.size w wr)
    (fun _ i _ => (intOf i + 1).toNat)
  case atStart => exact ⟨0, Nat.zero_le _, by simp, World.ownsRow_nil _ _ _ _, Below.refl _ _⟩
  case round =>
    obtain ⟨k, hk, rfl, hown, hnx⟩ := hrel
    have hsz : w.heap.size ≤ wr.heap.size := hnx.size
    by_cases hlt : k < m
    · obtain ⟨d, hd⟩ : ∃ d : Nat, m - 1 - k = d := ⟨_, rfl⟩
      have ed : (m : Int) - 1 - (k : Int) = (d : Int) := by omega
      have ed2 : (m : Int) - 1 - ((k + 1 : Nat) : Int) = (d : Int) - 1 := by omega
      have hS := bytesL_succ v m k
      rw [hd] at hS
      rw [ed]
      have HS := Lib.hid hS
      have HD2 := Lib.hid ed2
      have hd4 : (d : Int) ≤ 4 := by omega
      have hd0 : (0 : Int) ≤ (d : Int) := by omega
      clear hd ed ed2 hS
      go_wp2_with fail
      go_loop [7, 8] (fun x y => ∃ j : Nat, j ≤ d ∧ x = .int .i64 (v / 256 ^ j) ∧ y = .int .i64 j) (fun _ y => d - (intOf y).toNat)
      case atStart => exact ⟨0, Nat.zero_le _, by simp, rfl⟩
      case round =>
        obtain ⟨j, hj, rfl, rfl⟩ := hrel
        have hb := pow_div_bd v j h0 h1
        have HP := Lib.hid (pow_div v j)
        by_cases hjl : j < d
        · have h4 : (j : Int) < (d : Int) := by omega
          obtain ⟨x, hx⟩ : ∃ x, v / 256 ^ j = x := ⟨_, rfl⟩
          rw [hx] at hb HP ⊢
          clear hx
          go_wp2_with fail
          go_round
          case rel => exact ⟨j + 1, by omega, by rw [HP.out], by go_num⟩
          case measure => first | (simp [intOf]; done) | (simp [intOf]; omega)
        · obtain rfl : j = d := by omega
          have h4 : ¬ ((j : Int) < (j : Int)) := by omega
          have hbb := byt_bd v j
          have hby : v / 256 ^ j % 256 = byt v j := rfl
          obtain ⟨x, hx⟩ : ∃ x, v / 256 ^ j = x := ⟨_, rfl⟩
          rw [hx] at hb hby ⊢
          obtain ⟨y, hy⟩ : ∃ y, byt v j = y := ⟨_, rfl⟩
          rw [hy] at hby hbb HS
          have hm4 : x % 256 = y := hby
          clear hx hy HP hby
          go_wp2_with (at_builtin; refine wpList_append_own _ rfl (.tmp 23) (.tmp 27) 109 rfl w.heap.size 5 i0 (.int .u8 0) 1 1 Tryz.underlying109 hi hz0 hz1 hz2 rfl (by decide) _ k _ rfl (hown.alloc _) ⟨wr.heap.size, 0, none⟩ 1 1 [.int .u8 y] rfl rfl (cell_one_new _ _ _) (by intro u hu; simp at hu; subst hu; rfl) (by unfold maxLen; omega) (by omega) (by simp; omega) ?_; intro v' w3 hown3 hgrow3 _)
          have hlt' := hown.lt
          go_roundw
          case rel => exact ⟨k + 1, by omega, by rw [HD2.out], by rw [HS.out]; exact hown3, (hnx.alloc hsz _).grown hgrow3 (by simp; omega) (fun q hq => (hlt' q hq).1)⟩
          case measure => simp [intOf]
    · obtain rfl : k = m := by omega
      have i2 : ¬ (0 ≤ (k : Int) - 1 - (k : Int)) := by omega
      have HO := Lib.hid hown
      have HX := Lib.hid hnx
      clear hown hnx
      go_wp2
      go_ret
      exact ⟨_, rfl, HO.out, HX.out⟩
end Go.Proofs.YtfdkmmllemkogaaGreatDoor
