/-
  Contracts of writeNumber and readNumber for two and four bytes, and of checksum.
-/
import Derived.Test.YtfdkmmllemkogaaOWa
import Derived.Handy
import Derived.Deep.RegionHeld3
namespace Go.Proofs.Ytfdkmmllemkogaa
open Go.RowKit
set_option linter.unusedVariables false

/-- Byte k of a number, the lowest one first. -/
def byt (v : Int) (k : Nat) : Int := v / 256 ^ k % 256
theorem byt_bd (v : Int) (k : Nat) : 0 ≤ byt v k ∧ byt v k ≤ 255 := by unfold byt; omega

theorem byt_0 (v : Int) : v % 256 = byt v 0 := by unfold byt; simp
theorem byt_1 (v : Int) : v / 256 % 256 = byt v 1 := by unfold byt; simp
theorem byt_2 (v : Int) : v / 256 / 256 % 256 = byt v 2 := by unfold byt; omega
theorem byt_3' (v : Int) (h0 : 0 ≤ v) (h1 : v ≤ 4294967295) : v / 256 / 256 / 256 = byt v 3 := by unfold byt; omega
theorem byt_1' (v : Int) (h0 : 0 ≤ v) (h1 : v ≤ 65535) : v / 256 = byt v 1 := by unfold byt; omega

set_option maxRecDepth 100000 in
set_option maxHeartbeats 3200000 in
theorem write4_any {x0 x1 x2 x3 : Int} (w : World) (f o : Nat) (c : Nat) (v : Int) (h0 : 0 ≤ v) (h1 : v ≤ 4294967295)
    (c0 : w.cell? ⟨f, o, none⟩ = some (.int .u8 x0)) (c1 : w.cell? ⟨f, o + 1, none⟩ = some (.int .u8 x1)) (c2 : w.cell? ⟨f, o + 2, none⟩ = some (.int .u8 x2)) (c3 : w.cell? ⟨f, o + 3, none⟩ = some (.int .u8 x3))
    (f0 : w.frozen? ⟨f, o, none⟩ = false) (f1 : w.frozen? ⟨f, o + 1, none⟩ = false) (f2 : w.frozen? ⟨f, o + 2, none⟩ = false) (f3 : w.frozen? ⟨f, o + 3, none⟩ = false) :
    Calls Try.prog 48 #[.slice (some ⟨f, o, none⟩) 4 c, .int .i64 v] w fun e w' => e = .returned (.tuple #[]) ∧
      w' = (((w.setCell ⟨f, o + 3, none⟩ (.int .u8 (byt v 0))).setCell ⟨f, o + 2, none⟩ (.int .u8 (byt v 1))).setCell ⟨f, o + 1, none⟩ (.int .u8 (byt v 2))).setCell ⟨f, o, none⟩ (.int .u8 (byt v 3)) := by
  go_enter Try.func48, Try.ntmps48
  go_wp2
  refine wp_loop_rounds 5 ?_
  rw [rounds_succ]
  go_wp2
  rw [rounds_succ]
  go_wp2
  rw [rounds_succ]
  go_wp2
  rw [rounds_succ]
  go_wp2
  rw [rounds_succ]
  go_wp2
  go_end0
  refine ⟨rfl, ?_⟩
  rw [byt_0, byt_1, byt_2, byt_3' v h0 h1]

set_option maxRecDepth 100000 in
set_option maxHeartbeats 3200000 in
theorem write2_any {x0 x1 : Int} (w : World) (f o : Nat) (c : Nat) (v : Int) (h0 : 0 ≤ v) (h1 : v ≤ 65535)
    (c0 : w.cell? ⟨f, o, none⟩ = some (.int .u8 x0)) (c1 : w.cell? ⟨f, o + 1, none⟩ = some (.int .u8 x1))
    (f0 : w.frozen? ⟨f, o, none⟩ = false) (f1 : w.frozen? ⟨f, o + 1, none⟩ = false) :
    Calls Try.prog 48 #[.slice (some ⟨f, o, none⟩) 2 c, .int .i64 v] w fun e w' => e = .returned (.tuple #[]) ∧
      w' = (w.setCell ⟨f, o + 1, none⟩ (.int .u8 (byt v 0))).setCell ⟨f, o, none⟩ (.int .u8 (byt v 1)) := by
  go_enter Try.func48, Try.ntmps48
  go_wp2
  refine wp_loop_rounds 3 ?_
  rw [rounds_succ]
  go_wp2
  rw [rounds_succ]
  go_wp2
  rw [rounds_succ]
  go_wp2
  go_end0
  refine ⟨rfl, ?_⟩
  rw [byt_0, byt_1' v h0 h1]

/-- The number of some bytes, the highest first. -/
def numOf (l : List Int) : Int := l.foldl (fun n b => n * 256 + b) 0
/-- The checksum of some bytes. -/
def chkOf (l : List Int) : Int := l.foldl (fun x b => (277 * x + b) % 16777199) 1
theorem chk_bd (l : List Int) : 0 ≤ chkOf l ∧ chkOf l ≤ 16777198 := by
  unfold chkOf
  suffices h : ∀ x : Int, 0 ≤ x ∧ x ≤ 16777198 → 0 ≤ l.foldl (fun x b => (277 * x + b) % 16777199) x ∧ l.foldl (fun x b => (277 * x + b) % 16777199) x ≤ 16777198 from h 1 (by omega)
  induction l with
  | nil => intro x h; exact h
  | cons b r ih => intro x h; rw [List.foldl_cons]; exact ih _ (by omega)
theorem foldl_take_succ {α β : Type} (f : β → α → β) (x : β) (l : List α) (k : Nat) (hk : k < l.length) (d : α) : (l.take (k + 1)).foldl f x = f ((l.take k).foldl f x) (l[k]?.getD d) := by
  rw [List.take_succ_eq_append_getElem hk, List.foldl_append, List.getElem?_eq_getElem hk]; rfl

set_option maxHeartbeats 1600000 in
theorem checksum_any (f o n c : Nat) (l : List Int) (w : World) (hl : l.length = n) (hm : n ≤ 100000) (hbd : ∀ j, j < n → 0 ≤ l[j]?.getD 0 ∧ l[j]?.getD 0 ≤ 255)
    (hc : ∀ j, j < n → w.cell? ⟨f, o + j, none⟩ = some (.int .u8 (l[j]?.getD 0))) :
    Calls Try.prog 49 #[.slice (some ⟨f, o, none⟩) n c] w fun e w' => e = .returned (.int .i64 (chkOf l)) ∧ w = w' := by
  have Hl := Lib.hid hl
  have Hc := Lib.hid hc
  have Hb := Lib.hid hbd
  clear hl hc hbd
  go_enter Try.func49, Try.ntmps49
  go_wp2
  go_loop [3, 8] (fun x i => ∃ k : Nat, k ≤ n ∧ i = .int .i64 k ∧ x = .int .i64 (chkOf (l.take k))) (fun _ i => n - (intOf i).toNat)
  case atStart => exact ⟨0, Nat.zero_le _, rfl, rfl⟩
  case round =>
    obtain ⟨k, hk, rfl, rfl⟩ := hrel
    have hx := chk_bd (l.take k)
    by_cases hlt : k < n
    · have hcell := Hc.out k hlt
      have hb := Hb.out k hlt
      have HS : Hid (chkOf (l.take (k + 1)) = (277 * chkOf (l.take k) + l[k]?.getD 0) % 16777199) := foldl_take_succ _ _ _ _ (by have := Hl.out; omega) 0
      go_wp2
      go_round
      case rel => exact ⟨k + 1, by omega, by go_num, by rw [HS.out]⟩
      case measure => simp [intOf]; omega
    · go_wp2
      go_ret
      exact ⟨ret_int (by rw [List.take_of_length_le (by have := Hl.out; omega)]), rfl⟩

theorem ofInt_i64 (a : Nat) (h : a < 9223372036854775808) : (BitVec.ofInt 64 (a : Int)).toNat = a := by
  simp; omega
theorem or_shift (a b : Int) (h0 : 0 ≤ a) (h1 : a ≤ 1099511627776) (h2 : 0 ≤ b) (h3 : b ≤ 255) : bits BinOp.or IntKind.i64 (a * 256) b = a * 256 + b := by
  obtain ⟨A, rfl⟩ := Int.eq_ofNat_of_zero_le h0
  obtain ⟨B, rfl⟩ := Int.eq_ofNat_of_zero_le h2
  have e : ((A : Int) * 256) = ((A * 256 : Nat) : Int) := by omega
  rw [e]
  show IntKind.i64.wrap ((BitVec.ofInt 64 ((A * 256 : Nat) : Int) ||| BitVec.ofInt 64 (B : Int)).toNat : Int) = _
  have k := Nat.two_pow_add_eq_or_of_lt (i := 8) (b := B) (by omega) A
  rw [BitVec.toNat_or, ofInt_i64 _ (by omega), ofInt_i64 _ (by omega), Nat.mul_comm A 256, ← k, IntWalk.i64_in _ ⟨by omega, by omega⟩]
  omega

/-- One more than the greatest number of k bytes. -/
def lim : Nat → Int
  | 0 => 1
  | 1 => 256
  | 2 => 65536
  | 3 => 16777216
  | _ => 4294967296
theorem lim_succ (k : Nat) (h : k < 4) : lim (k + 1) = lim k * 256 ∧ lim k ≤ 16777216 := by
  match k, h with
  | 0, _ => decide
  | 1, _ => decide
  | 2, _ => decide
  | 3, _ => decide

set_option maxHeartbeats 1600000 in
theorem readNumber_any (f o n c : Nat) (l : List Int) (w : World) (hl : l.length = n) (hm : n ≤ 4) (hbd : ∀ j, j < n → 0 ≤ l[j]?.getD 0 ∧ l[j]?.getD 0 ≤ 255)
    (hc : ∀ j, j < n → w.cell? ⟨f, o + j, none⟩ = some (.int .u8 (l[j]?.getD 0))) :
    Calls Try.prog 74 #[.slice (some ⟨f, o, none⟩) n c] w fun e w' => e = .returned (.int .i64 (numOf l)) ∧ w = w' := by
  have Hl := Lib.hid hl
  have Hc := Lib.hid hc
  have Hb := Lib.hid hbd
  clear hl hc hbd
  go_enter Try.func74, Try.ntmps74
  go_wp2
  go_loop [3, 8] (fun x i => ∃ k : Nat, k ≤ n ∧ i = .int .i64 k ∧ x = .int .i64 (numOf (l.take k)) ∧ 0 ≤ numOf (l.take k) ∧ numOf (l.take k) < lim k) (fun _ i => n - (intOf i).toNat)
  case atStart => exact ⟨0, Nat.zero_le _, rfl, rfl, by simp [numOf], by simp [numOf, lim]⟩
  case round =>
    obtain ⟨k, hk, rfl, rfl, hx0, hx1⟩ := hrel
    by_cases hlt : k < n
    · have hcell := Hc.out k hlt
      have hb := Hb.out k hlt
      have HS : Hid (numOf (l.take (k + 1)) = numOf (l.take k) * 256 + l[k]?.getD 0) := foldl_take_succ _ _ _ _ (by have := Hl.out; omega) 0
      have hL := lim_succ k (by omega)
      have hx2 : numOf (l.take k) ≤ 4294967295 := by omega
      have hor := or_shift (numOf (l.take k)) (l[k]?.getD 0) hx0 (by omega) hb.1 hb.2
      have H1 := Lib.hid hx1
      have HL := Lib.hid hL
      clear hx1 hL
      go_wp2
      go_round
      case rel => exact ⟨k + 1, by omega, by go_num, by rw [HS.out], by rw [HS.out]; omega, by rw [HS.out, HL.out.1]; have := H1.out; omega⟩
      case measure => simp [intOf]; omega
    · go_wp2
      go_ret
      exact ⟨ret_int (by rw [List.take_of_length_le (by have := Hl.out; omega)]), rfl⟩
end Go.Proofs.Ytfdkmmllemkogaa
