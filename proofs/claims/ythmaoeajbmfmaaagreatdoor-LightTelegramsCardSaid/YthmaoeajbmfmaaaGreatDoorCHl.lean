/-
  Contracts of the comparisons of telegrams and of spans, for equal lists.
-/
import Derived.Test.YthmaoeajbmfmaaaGreatDoorCHd
import Derived.Test.YthmaoeajbmfmaaaGreatDoorCHj
import Derived.Laws.StructEq
import Derived.Test.YthmaoeajbmfmaaaGreatDoorCGd
import Derived.Shelf.Strings.Builder1
import Derived.Shelf.Strings.OnBuilder
import Derived.Shelf.LaysM
import Derived.Shelf.Strconv.Itoa3
import Derived.Test.YthmaoeajbmfmaaaGreatDoorProg
import Derived.Lib.AppendIntMem
import Derived.Lib.ItoaLen
import Derived.Test.YthmaoeajbmfmaaaGreatDoorCHb
import Derived.Test.YthmaoeajbmfmaaaGreatDoorCXd
import Derived.Test.YthmaoeajbmfmaaaGreatDoorCWx
import Derived.OrdersHeld
import Derived.OrdersIn
import Derived.AtR
namespace Go.Proofs.YthmaoeajbmfmaaaGreatDoor
open Go.RowKit
set_option linter.unusedVariables false
set_option linter.unusedSimpArgs false

/-- A slice, nil or not, of spans. -/
def AnySpans (w : World) (a : Option Addr) (n : Nat) (L : List (Int × Int)) : Prop := L.length = n ∧ ∀ j, j < n → ∃ b q, a = some ⟨b, q, none⟩ ∧ b < w.heap.size ∧
  ∀ k, k < n → w.cell? ⟨b, q + k * 2, none⟩ = some (.int .i64 (L[k]?.getD (0, 0)).1) ∧ w.cell? ⟨b, q + k * 2 + 1, none⟩ = some (.int .i64 (L[k]?.getD (0, 0)).2)
theorem AnySpans.kept {w w' : World} {a : Option Addr} {n : Nat} {L : List (Int × Int)} (h : AnySpans w a n L) (hb : Below w.heap.size w w') : AnySpans w' a n L :=
  ⟨h.1, fun j hj => by
    obtain ⟨b, q, e, h1, h2⟩ := h.2 j hj
    exact ⟨b, q, e, Nat.lt_of_lt_of_le h1 hb.size, fun k hk => ⟨(hb.cell (p := ⟨b, q + k * 2, none⟩) h1).trans (h2 k hk).1, (hb.cell (p := ⟨b, q + k * 2 + 1, none⟩) h1).trans (h2 k hk).2⟩⟩⟩
theorem AnySpans.of_row {w : World} {B : Nat} {v : Value} {L : List (Int × Int)} (h : w.ownsRow B 92 2 v L.length (L.flatMap qval)) : ∃ a c, v = .slice a L.length c ∧ AnySpans w a L.length L := by
  rcases h.2 with ⟨rfl, h0⟩ | ⟨g, cap, cur, rfl, hb, hg, _⟩
  · exact ⟨none, 0, by rw [h0], rfl, fun j hj => absurd hj (by omega)⟩
  · refine ⟨_, _, rfl, rfl, fun j hj => ⟨g, 0, rfl, lt_of_blk hg, fun k hk => ?_⟩⟩
    obtain ⟨h1, h2⟩ := flat_at2 L k hk
    have e1 := h.cells (g := g) rfl (k * 2) _ h1
    have e2 := h.cells (g := g) rfl (k * 2 + 1) _ h2
    rw [Addr.add_mid] at e1 e2
    exact ⟨e1, by rw [Nat.add_assoc]; exact e2⟩
theorem AnyTels.of_rowR {w : World} {B : Nat} {v : Value} {n : Nat} {L : List Tel} (hl : L.length = n) (h : w.ownsRow B 43 6 v n (L.flatMap Tel.val)) : ∃ a c, v = .slice a n c ∧ AnyTels w a n L := by
  rcases h.2 with ⟨rfl, rfl⟩ | ⟨g, cap, cur, rfl, hb, hg, _⟩
  · exact ⟨none, 0, rfl, hl, fun j hj => absurd hj (by omega)⟩
  · refine ⟨_, _, rfl, hl, fun j hj => ⟨g, 0, rfl, lt_of_blk hg, fun k hk i u hu => ?_⟩⟩
    have h1 := h.cells (g := g) rfl (6 * k + i) u (flat_val_at L k i u hk hu)
    rw [Addr.add_mid, Nat.zero_add] at h1
    rw [Nat.zero_add, Nat.mul_comm k 6]
    exact h1

set_option maxRecDepth 100000 in
set_option maxHeartbeats 6400000 in
theorem sameTels_any (L : List Tel) (a a' : Option Addr) (n c c' : Nat) (w : World) (hm : n ≤ 13000) (h1 : AnyTels w a n L) (h2 : AnyTels w a' n L) :
    Calls Tryz.prog 26 #[.slice a n c, .slice a' n c'] w fun e w' => e = .returned (.bool true) ∧ Below w.heap.size w w' := by
  have HA := Lib.hid h1.2
  have HA' := Lib.hid h2.2
  have HN := Lib.hid h1.1
  have e0 : ((n : Int) != n) = false := by simp
  have i1 : (n : Int) ≤ 13000 := by omega
  clear h1 h2
  go_enter Tryz.func26, Tryz.ntmps26
  go_wp2
  go_loopw [13] (fun i wr => ∃ k : Nat, k ≤ n ∧ i = .int .i64 k ∧ Below w.heap.size w wr) (fun i _ => n - (intOf i).toNat)
  case atStart => exact ⟨0, Nat.zero_le _, rfl, Below.refl _ _⟩
  case round =>
    obtain ⟨k, hk, rfl, hnx⟩ := hrel
    by_cases hlt : k < n
    · obtain ⟨b, q, rfl, hb, hc⟩ := HA.out k hlt
      obtain ⟨b', q', rfl, hb', hc'⟩ := HA'.out k hlt
      have p0 : wr.cell? ⟨b, q + k * 6, none⟩ = some (.int .i64 (L[k]?.getD tel0).s) := (hnx.cell (p := ⟨b, q + k * 6, none⟩) (by assumption)).trans (hc k (by have := HN.out; omega) 0 _ rfl)
      have p1 : wr.cell? ⟨b, q + k * 6 + 1, none⟩ = some (.int .i64 (L[k]?.getD tel0).c) := (hnx.cell (p := ⟨b, q + k * 6 + 1, none⟩) (by assumption)).trans (hc k (by have := HN.out; omega) 1 _ rfl)
      have p2 : wr.cell? ⟨b, q + k * 6 + 2, none⟩ = some (.int .i64 (L[k]?.getD tel0).o) := (hnx.cell (p := ⟨b, q + k * 6 + 2, none⟩) (by assumption)).trans (hc k (by have := HN.out; omega) 2 _ rfl)
      have p3 : wr.cell? ⟨b, q + k * 6 + 3, none⟩ = some (.int .i64 (L[k]?.getD tel0).x) := (hnx.cell (p := ⟨b, q + k * 6 + 3, none⟩) (by assumption)).trans (hc k (by have := HN.out; omega) 3 _ rfl)
      have p4 : wr.cell? ⟨b, q + k * 6 + 4, none⟩ = some (.int .i64 (L[k]?.getD tel0).y) := (hnx.cell (p := ⟨b, q + k * 6 + 4, none⟩) (by assumption)).trans (hc k (by have := HN.out; omega) 4 _ rfl)
      have p5 : wr.cell? ⟨b, q + k * 6 + 5, none⟩ = some (.int .i64 (L[k]?.getD tel0).z) := (hnx.cell (p := ⟨b, q + k * 6 + 5, none⟩) (by assumption)).trans (hc k (by have := HN.out; omega) 5 _ rfl)
      have r0 : wr.cell? ⟨b', q' + k * 6, none⟩ = some (.int .i64 (L[k]?.getD tel0).s) := (hnx.cell (p := ⟨b', q' + k * 6, none⟩) (by assumption)).trans (hc' k (by have := HN.out; omega) 0 _ rfl)
      have r1 : wr.cell? ⟨b', q' + k * 6 + 1, none⟩ = some (.int .i64 (L[k]?.getD tel0).c) := (hnx.cell (p := ⟨b', q' + k * 6 + 1, none⟩) (by assumption)).trans (hc' k (by have := HN.out; omega) 1 _ rfl)
      have r2 : wr.cell? ⟨b', q' + k * 6 + 2, none⟩ = some (.int .i64 (L[k]?.getD tel0).o) := (hnx.cell (p := ⟨b', q' + k * 6 + 2, none⟩) (by assumption)).trans (hc' k (by have := HN.out; omega) 2 _ rfl)
      have r3 : wr.cell? ⟨b', q' + k * 6 + 3, none⟩ = some (.int .i64 (L[k]?.getD tel0).x) := (hnx.cell (p := ⟨b', q' + k * 6 + 3, none⟩) (by assumption)).trans (hc' k (by have := HN.out; omega) 3 _ rfl)
      have r4 : wr.cell? ⟨b', q' + k * 6 + 4, none⟩ = some (.int .i64 (L[k]?.getD tel0).y) := (hnx.cell (p := ⟨b', q' + k * 6 + 4, none⟩) (by assumption)).trans (hc' k (by have := HN.out; omega) 4 _ rfl)
      have r5 : wr.cell? ⟨b', q' + k * 6 + 5, none⟩ = some (.int .i64 (L[k]?.getD tel0).z) := (hnx.cell (p := ⟨b', q' + k * 6 + 5, none⟩) (by assumption)).trans (hc' k (by have := HN.out; omega) 5 _ rfl)
      obtain ⟨t, ht⟩ : ∃ t, L[k]?.getD tel0 = t := ⟨_, rfl⟩
      rw [ht] at p0 p1 p2 p3 p4 p5 r0 r1 r2 r3 r4 r5
      clear ht
      have h4 : (k : Int) < (n : Int) := by omega
      have h5 : (0 : Int) ≤ (k : Int) := by omega
      clear HA HA' hc hc' HN
      go_wp2_with fail
      go_quiet (fail)
      go_wp2
      go_roundw
      case rel => exact ⟨k + 1, by omega, by go_num, below_drewN hnx _⟩
      case measure => simp [intOf]; omega
    · go_wp2
      go_ret
      exact ⟨rfl, hnx⟩

set_option maxRecDepth 100000 in
set_option maxHeartbeats 6400000 in
theorem sameSpans_any (L : List (Int × Int)) (a a' : Option Addr) (n c c' : Nat) (w : World) (hm : n ≤ 13000) (h1 : AnySpans w a n L) (h2 : AnySpans w a' n L) :
    Calls Tryz.prog 27 #[.slice a n c, .slice a' n c'] w fun e w' => e = .returned (.bool true) ∧ Below w.heap.size w w' := by
  have HA := Lib.hid h1.2
  have HA' := Lib.hid h2.2
  have HN := Lib.hid h1.1
  have e0 : ((n : Int) != n) = false := by simp
  have i1 : (n : Int) ≤ 13000 := by omega
  clear h1 h2
  go_enter Tryz.func27, Tryz.ntmps27
  go_wp2
  go_loopw [5] (fun i wr => ∃ k : Nat, k ≤ n ∧ i = .int .i64 k ∧ Below w.heap.size w wr) (fun i _ => n - (intOf i).toNat)
  case atStart => exact ⟨0, Nat.zero_le _, rfl, Below.refl _ _⟩
  case round =>
    obtain ⟨k, hk, rfl, hnx⟩ := hrel
    by_cases hlt : k < n
    · obtain ⟨b, q, rfl, hb, hc⟩ := HA.out k hlt
      obtain ⟨b', q', rfl, hb', hc'⟩ := HA'.out k hlt
      have p0 := (hnx.cell (p := ⟨b, q + k * 2, none⟩) hb).trans (hc k hlt).1
      have p1 := (hnx.cell (p := ⟨b, q + k * 2 + 1, none⟩) hb).trans (hc k hlt).2
      have r0 := (hnx.cell (p := ⟨b', q' + k * 2, none⟩) hb').trans (hc' k hlt).1
      have r1 := (hnx.cell (p := ⟨b', q' + k * 2 + 1, none⟩) hb').trans (hc' k hlt).2
      obtain ⟨p, hp⟩ : ∃ p, L[k]?.getD (0, 0) = p := ⟨_, rfl⟩
      rw [hp] at p0 p1 r0 r1
      clear hp
      have h4 : (k : Int) < (n : Int) := by omega
      have h5 : (0 : Int) ≤ (k : Int) := by omega
      clear HA HA' hc hc' HN
      go_wp2_with fail
      go_quiet (fail)
      go_wp2
      go_roundw
      case rel => exact ⟨k + 1, by omega, by go_num, below_drewN hnx _⟩
      case measure => simp [intOf]; omega
    · go_wp2
      go_ret
      exact ⟨rfl, hnx⟩

end Go.Proofs.YthmaoeajbmfmaaaGreatDoor

/-
  Contract of the reference's Lost, for right telegrams.
-/
namespace Go.Proofs.YthmaoeajbmfmaaaGreatDoor
open Go.RowKit
set_option linter.unusedVariables false
set_option linter.unusedSimpArgs false

theorem cycTo_app (xs ys : List Int) : ∀ k, k < xs.length → cycTo (xs ++ ys) k = cycTo xs k
  | 0, _ => by simp [cycTo]
  | k + 1, h => by
    rw [cycTo_succ, cycTo_succ, cycTo_app xs ys k (by omega), List.getElem?_append_left (by omega), List.getElem?_append_left (by omega)]
def endOf (xs : List Int) : Int := if xs.length = 0 then -1 else xs[xs.length - 1]?.getD 0
/-- What is lost between the counters. -/
def lostOf (xs : List Int) : List Int := cycTo xs (xs.length - 1)
theorem lostOf_one (xs : List Int) (c : Int) (h : xs.length = 0) : lostOf (xs ++ [c]) = [] ∧ lostOf xs = [] := by
  obtain rfl := List.length_eq_zero_iff.1 h
  exact ⟨rfl, rfl⟩
theorem lostOf_more (xs : List Int) (c : Int) (h : xs.length ≠ 0) : lostOf (xs ++ [c]) = lostOf xs ++ cyc (endOf xs) c := by
  unfold lostOf endOf
  obtain ⟨m, hm⟩ : ∃ m, xs.length = m + 1 := ⟨xs.length - 1, by omega⟩
  rw [if_neg h, List.length_append, hm]
  show cycTo (xs ++ [c]) (m + 1) = _
  rw [cycTo_succ, cycTo_app xs [c] m (by omega), List.getElem?_append_left (by omega), List.getElem?_append_right (by omega), hm]
  simp
theorem endOf_app (xs : List Int) (c : Int) : endOf (xs ++ [c]) = c := by
  unfold endOf
  rw [if_neg (by simp)]
  simp
theorem lostOf_pre (xs : List Int) (c : Int) : lostOf xs <+: lostOf (xs ++ [c]) := by
  by_cases h : xs.length = 0
  · rw [(lostOf_one xs c h).2]; exact List.nil_prefix
  · rw [lostOf_more xs c h]; exact List.prefix_append _ _
theorem lostTo_step (L : List Tel) (st : Int) (k : Nat) (hk : k < L.length) : lostOf (countsOf (L.take k) st) <+: lostOf (countsOf (L.take (k + 1)) st) := by
  rw [countsOf_succ L st k hk]
  split
  · exact lostOf_pre _ _
  · exact List.prefix_refl _
theorem lostTo_pre (L : List Tel) (st : Int) : ∀ d k, k + d = L.length → lostOf (countsOf (L.take k) st) <+: lostOf (countsOf L st)
  | 0, k, h => by rw [List.take_of_length_le (by omega)]; exact List.prefix_refl _
  | d + 1, k, h => (lostTo_step L st k (by omega)).trans (lostTo_pre L st d (k + 1) (by omega))
theorem lostOf_L (L : List Tel) (st : Int) : lostL L st = lostOf (countsOf L st) := rfl
theorem some_pre (pre : List Int) (a b : Int) (j : Nat) (hj : j ≤ wide a b) : someOf pre a j <+: pre ++ cyc a b := by
  unfold someOf cyc
  refine (List.prefix_append_right_inj _).2 (List.IsPrefix.map _ ?_)
  obtain ⟨d, hd⟩ : ∃ d, wide a b = j + d := ⟨_, (Nat.add_sub_of_le hj).symm⟩
  rw [hd, List.range_add]
  exact List.prefix_append _ _
theorem endOf_bd (xs : List Int) (h : ∀ j, j < xs.length → 0 ≤ xs[j]?.getD 0 ∧ xs[j]?.getD 0 ≤ 65535) : -1 ≤ endOf xs ∧ endOf xs ≤ 65535 ∧ (xs.length ≠ 0 → 0 ≤ endOf xs) ∧ (xs.length = 0 → endOf xs = -1) := by
  unfold endOf
  by_cases h0 : xs.length = 0
  · rw [if_pos h0]; exact ⟨by omega, by omega, fun h => absurd h0 h, fun _ => rfl⟩
  · rw [if_neg h0]
    have := h (xs.length - 1) (by omega)
    exact ⟨by omega, by omega, fun _ => this.1, fun h => absurd h h0⟩

/-- What the reference's Lost answers. -/
def RefLost (X : List Int) (w : World) (e : Ending) (w' : World) : Prop := ∃ v, e = .returned (.tuple #[v, .int .i64 (if 256 < X.length then 5 else 0)]) ∧ IntsV w' v (if 256 < X.length then 0 else X.length) X ∧ Below w.heap.size w w'
theorem RefLost.many {X : List Int} {w w' : World} (h : 256 < X.length) (hb : Below w.heap.size w w') : RefLost X w (.returned (.tuple #[.slice none 0 0, .int .i64 5])) w' :=
  ⟨_, by rw [if_pos h], by rw [if_pos h]; exact IntsV.nil _ _, hb⟩
theorem RefLost.few {X : List Int} {w w' : World} {v : Value} (h : ¬ 256 < X.length) (hi : IntsV w' v X.length X) (hb : Below w.heap.size w w') : RefLost X w (.returned (.tuple #[v, .int .i64 0])) w' :=
  ⟨_, by rw [if_neg h], by rw [if_neg h]; exact hi, hb⟩

end Go.Proofs.YthmaoeajbmfmaaaGreatDoor

/-
  The shelf's contracts of strings.Join, Builder.String and strconv.Itoa over this program, as the kit's command lays them in plain words.
-/
namespace Go.Proofs
open Go.Shelf
def Tryz.lays169_ren : Go.Shelf.Ren := ⟨fun | 169 => 105 | n => n, fun | 70 => 171 | 9 => 9 | 0 => 0 | 72 => 173 | 37 => 45 | 127 => 230 | 3 => 3 | 5 => 5 | n => n, fun | n => n⟩
theorem Tryz.lays169 : Go.Proofs.Lays.n169 Tryz.prog Tryz.lays169_ren := {
  mixed := by kernel_rfl
  f169 := Tryz.func105.trans (congrArg some (by kernel_rfl))
  t0 := Tryz.underlying0
  a0 := Tryz.isAgg0
  z0 := Tryz.sizeOf0
  v0 := Tryz.zeroValue0
  t3 := Tryz.underlying3
  a3 := Tryz.isAgg3
  z3 := Tryz.sizeOf3
  v3 := Tryz.zeroValue3
  t9 := Tryz.underlying9
  a9 := Tryz.isAgg9
  z9 := Tryz.sizeOf9
  v9 := Tryz.zeroValue9
  t37 := Tryz.underlying45
  a37 := Tryz.isAgg45
  z37 := Tryz.sizeOf45
  v37 := Tryz.zeroValue45
  t70 := Tryz.underlying171
  a70 := Tryz.isAgg171
  z70 := Tryz.sizeOf171
  v70 := Tryz.zeroValue171
  t72 := Tryz.underlying173
  a72 := Tryz.isAgg173
  z72 := Tryz.sizeOf173
  v72 := Tryz.zeroValue173
  t127 := Tryz.underlying230
  a127 := Tryz.isAgg230
  z127 := Tryz.sizeOf230
  v127 := Tryz.zeroValue230 }
theorem Tryz.Builder_Extra_169 : Builder.Extra Tryz.prog Tryz.lays169_ren := {
  sizeBuilder := by kernel_rfl
  liesBuilder := by kernel_rfl
  t5 := Tryz.underlying5
  a5 := Tryz.isAgg5
  z5 := Tryz.sizeOf5
  v5 := Tryz.zeroValue5
  infoByte := by kernel_rfl
  cellsByte := by kernel_rfl
  sizeByte := by kernel_rfl
  neB5 := by decide }
open Go.RowKit in
theorem Tryz.Builder_String_any (B b : Nat) (l : List UInt8) (w : World) (h : Lib.IsBuilder 173 5 B b (Lib.byteCells l) w) (hBw : B ≤ w.heap.size) :
    Calls Tryz.prog 105 #[.pointer (some ⟨b, 0, none⟩)] w fun e w' => e = .returned (.string ⟨l.toArray⟩) ∧ Below B w w' := Any.Builder_String_any Tryz.lays169 Tryz.Builder_Extra_169 B b l w h hBw
def Tryz.lays156_ren : Go.Shelf.Ren := ⟨fun | 156 => 153 | 165 => 176 | 166 => 102 | 169 => 105 | 240 => 152 | 241 => 187 | 276 => 175 | 277 => 196 | n => n, fun | 31 => 127 | 9 => 9 | 3 => 3 | 4 => 4 | 0 => 0 | 20 => 20 | 72 => 173 | 76 => 176 | 70 => 171 | 37 => 45 | 75 => 175 | 127 => 230 | 164 => 247 | 5 => 5 | 80 => 182 | n => n, fun | n => n⟩
theorem Tryz.lays156 : Go.Proofs.Lays.n156 Tryz.prog Tryz.lays156_ren := {
  mixed := by kernel_rfl
  f156 := Tryz.func153.trans (congrArg some (by kernel_rfl))
  f165 := Tryz.func176.trans (congrArg some (by kernel_rfl))
  f166 := Tryz.func102.trans (congrArg some (by kernel_rfl))
  f169 := Tryz.func105.trans (congrArg some (by kernel_rfl))
  f240 := Tryz.func152.trans (congrArg some (by kernel_rfl))
  f241 := Tryz.func187.trans (congrArg some (by kernel_rfl))
  f276 := Tryz.func175.trans (congrArg some (by kernel_rfl))
  f277 := Tryz.func196.trans (congrArg some (by kernel_rfl))
  t0 := Tryz.underlying0
  a0 := Tryz.isAgg0
  z0 := Tryz.sizeOf0
  v0 := Tryz.zeroValue0
  t3 := Tryz.underlying3
  a3 := Tryz.isAgg3
  z3 := Tryz.sizeOf3
  v3 := Tryz.zeroValue3
  t4 := Tryz.underlying4
  a4 := Tryz.isAgg4
  z4 := Tryz.sizeOf4
  v4 := Tryz.zeroValue4
  t9 := Tryz.underlying9
  a9 := Tryz.isAgg9
  z9 := Tryz.sizeOf9
  v9 := Tryz.zeroValue9
  t20 := Tryz.underlying20
  a20 := Tryz.isAgg20
  z20 := Tryz.sizeOf20
  v20 := Tryz.zeroValue20
  t31 := Tryz.underlying127
  a31 := Tryz.isAgg127
  z31 := Tryz.sizeOf127
  v31 := Tryz.zeroValue127
  t37 := Tryz.underlying45
  a37 := Tryz.isAgg45
  z37 := Tryz.sizeOf45
  v37 := Tryz.zeroValue45
  t70 := Tryz.underlying171
  a70 := Tryz.isAgg171
  z70 := Tryz.sizeOf171
  v70 := Tryz.zeroValue171
  t72 := Tryz.underlying173
  a72 := Tryz.isAgg173
  z72 := Tryz.sizeOf173
  v72 := Tryz.zeroValue173
  t75 := Tryz.underlying175
  a75 := Tryz.isAgg175
  z75 := Tryz.sizeOf175
  v75 := Tryz.zeroValue175
  t76 := Tryz.underlying176
  a76 := Tryz.isAgg176
  z76 := Tryz.sizeOf176
  v76 := Tryz.zeroValue176
  t127 := Tryz.underlying230
  a127 := Tryz.isAgg230
  z127 := Tryz.sizeOf230
  v127 := Tryz.zeroValue230
  t164 := Tryz.underlying247
  a164 := Tryz.isAgg247
  z164 := Tryz.sizeOf247
  v164 := Tryz.zeroValue247 }
theorem Tryz.Builder_Extra_156 : Builder.Extra Tryz.prog Tryz.lays156_ren := {
  sizeBuilder := by kernel_rfl
  liesBuilder := by kernel_rfl
  t5 := Tryz.underlying5
  a5 := Tryz.isAgg5
  z5 := Tryz.sizeOf5
  v5 := Tryz.zeroValue5
  infoByte := by kernel_rfl
  cellsByte := by kernel_rfl
  sizeByte := by kernel_rfl
  neB5 := by decide }
open Go.RowKit in
theorem Tryz.strings_Join_none (a : Option Addr) (c : Nat) (sep : ByteArray) (w : World) :
    Calls Tryz.prog 153 #[.slice a 0 c, .string sep] w fun e w' => e = .returned (.string ⟨#[]⟩) ∧ w' = w := Any.strings_Join_none Tryz.lays156 Tryz.Builder_Extra_156 a c sep w
open Go.RowKit in
theorem Tryz.strings_Join (bk o c : Nat) (xs : List ByteArray) (sep : ByteArray) (w : World) (hcells : ∀ (j : Nat) x, xs[j]? = some x → w.cell? ⟨bk, o + j, none⟩ = some (.string x)) (hbk : bk < w.heap.size) (hN : xs.length ≤ 140737488355328) (hcap : xs.length ≤ c) (hlen : (Lib.join (xs.map (·.data.toList)) sep.data.toList).length ≤ 140737488355328) :
    Calls Tryz.prog 153 #[.slice (some ⟨bk, o, none⟩) xs.length c, .string sep] w fun e w' => e = .returned (.string ⟨(Lib.join (xs.map (·.data.toList)) sep.data.toList).toArray⟩) ∧ Below w.heap.size w w' := Any.strings_Join Tryz.lays156 Tryz.Builder_Extra_156 bk o c xs sep w hcells hbk hN hcap hlen
def Tryz.laysM171_ren : Go.Shelf.Ren := ⟨fun | 171 => 155 | 243 => 177 | 246 => 188 | 283 => 197 | 284 => 198 | 285 => 199 | 286 => 200 | 129 => 210 | 317 => 209 | 318 => 211 | 319 => 212 | 320 => 213 | 337 => 227 | 338 => 228 | n => n, fun | 3 => 3 | 9 => 9 | 2 => 2 | 4 => 4 | 171 => 44 | 0 => 0 | 53 => 245 | 37 => 45 | 5 => 5 | 173 => 265 | 212 => 272 | 51 => 165 | 20 => 20 | 213 => 273 | 46 => 225 | 232 => 294 | 233 => 295 | n => n, fun | 17 => 2 | 18 => 5 | 19 => 6 | n => n⟩
theorem Tryz.laysM171 : Go.Proofs.LaysM.n171 Tryz.prog Tryz.laysM171_ren := {
  mixed := by kernel_rfl
  f129 := Tryz.func210.trans (congrArg some (by kernel_rfl))
  f171 := Tryz.func155.trans (congrArg some (by kernel_rfl))
  f243 := Tryz.func177.trans (congrArg some (by kernel_rfl))
  f246 := Tryz.func188.trans (congrArg some (by kernel_rfl))
  f283 := Tryz.func197.trans (congrArg some (by kernel_rfl))
  f284 := Tryz.func198.trans (congrArg some (by kernel_rfl))
  f285 := Tryz.func199.trans (congrArg some (by kernel_rfl))
  f286 := Tryz.func200.trans (congrArg some (by kernel_rfl))
  f317 := Tryz.func209.trans (congrArg some (by kernel_rfl))
  f318 := Tryz.func211.trans (congrArg some (by kernel_rfl))
  f319 := Tryz.func212.trans (congrArg some (by kernel_rfl))
  f320 := Tryz.func213.trans (congrArg some (by kernel_rfl))
  f337 := Tryz.func227.trans (congrArg some (by kernel_rfl))
  f338 := Tryz.func228.trans (congrArg some (by kernel_rfl))
  t0 := Tryz.underlying0
  a0 := Tryz.isAgg0
  z0 := Tryz.sizeOf0
  v0 := Tryz.zeroValue0
  t2 := Tryz.underlying2
  a2 := Tryz.isAgg2
  z2 := Tryz.sizeOf2
  v2 := Tryz.zeroValue2
  t3 := Tryz.underlying3
  a3 := Tryz.isAgg3
  z3 := Tryz.sizeOf3
  v3 := Tryz.zeroValue3
  t4 := Tryz.underlying4
  a4 := Tryz.isAgg4
  z4 := Tryz.sizeOf4
  v4 := Tryz.zeroValue4
  t5 := Tryz.underlying5
  a5 := Tryz.isAgg5
  z5 := Tryz.sizeOf5
  v5 := Tryz.zeroValue5
  t9 := Tryz.underlying9
  a9 := Tryz.isAgg9
  z9 := Tryz.sizeOf9
  v9 := Tryz.zeroValue9
  t20 := Tryz.underlying20
  a20 := Tryz.isAgg20
  z20 := Tryz.sizeOf20
  v20 := Tryz.zeroValue20
  t37 := Tryz.underlying45
  a37 := Tryz.isAgg45
  z37 := Tryz.sizeOf45
  v37 := Tryz.zeroValue45
  t46 := Tryz.underlying225
  a46 := Tryz.isAgg225
  z46 := Tryz.sizeOf225
  v46 := Tryz.zeroValue225
  t51 := Tryz.underlying165
  a51 := Tryz.isAgg165
  z51 := Tryz.sizeOf165
  v51 := Tryz.zeroValue165
  t53 := Tryz.underlying245
  a53 := Tryz.isAgg245
  z53 := Tryz.sizeOf245
  v53 := Tryz.zeroValue245
  t171 := Tryz.underlying44
  a171 := Tryz.isAgg44
  z171 := Tryz.sizeOf44
  v171 := Tryz.zeroValue44
  t173 := Tryz.underlying265
  a173 := Tryz.isAgg265
  z173 := Tryz.sizeOf265
  v173 := Tryz.zeroValue265
  t212 := Tryz.underlying272
  a212 := Tryz.isAgg272
  z212 := Tryz.sizeOf272
  v212 := Tryz.zeroValue272
  t213 := Tryz.underlying273
  a213 := Tryz.isAgg273
  z213 := Tryz.sizeOf273
  t232 := Tryz.underlying294
  a232 := Tryz.isAgg294
  z232 := Tryz.sizeOf294
  v232 := Tryz.zeroValue294
  t233 := Tryz.underlying295
  a233 := Tryz.isAgg295
  z233 := Tryz.sizeOf295
  v233 := Tryz.zeroValue295
  g17 := by kernel_rfl
  g18 := by kernel_rfl
  g19 := by kernel_rfl
  i0 := by kernel_rfl
  i2 := by kernel_rfl
  i3 := by kernel_rfl
  i4 := by kernel_rfl
  i5 := by kernel_rfl
  i9 := by kernel_rfl
  i20 := by kernel_rfl
  i37 := by kernel_rfl
  i46 := by kernel_rfl
  i51 := by kernel_rfl
  i53 := by kernel_rfl
  i171 := by kernel_rfl
  i173 := by kernel_rfl
  i212 := by kernel_rfl
  i232 := by kernel_rfl
  i233 := by kernel_rfl
  m17 := by kernel_rfl
  m18 := by kernel_rfl
  m19 := by kernel_rfl }
open Go.RowKit Go.Sort Go.Lib in
theorem Tryz.strconv_Itoa (n : Int) (h0 : -9223372036854775808 ≤ n) (h1 : n ≤ 9223372036854775807) (w : World) (htab : Lib.TabIs Tryz.prog w "internal/strconv.uint64pow10" .u64 Lib.pow10Tab) :
    Calls Tryz.prog 155 #[.int .i64 n] w fun e w' => e = .returned (.string ⟨(Lib.itoa n).toArray⟩) ∧ ∃ k os, w' = grow (w.drewN k) os := Any.strconv_Itoa Tryz.laysM171 n h0 h1 w htab
end Go.Proofs

/-
  Contracts of strings.Builder.WriteString and strconv.Itoa over this program, off the shelf's.
-/
namespace Go.Proofs.YthmaoeajbmfmaaaGreatDoor
open Go.RowKit Go.Shelf
set_option linter.unusedVariables false

theorem writeString_any (B b : Nat) (bs : List Value) (s : ByteArray) (w : World) (h : Lib.IsBuilder 173 5 B b bs w) (hlen : bs.length + s.size ≤ 140737488355328) (hBw : B ≤ w.heap.size) :
    Calls Tryz.prog 102 #[.pointer (some ⟨b, 0, none⟩), .string s] w fun e w' => e = .returned (.tuple #[.int .i64 s.size, .nilIface]) ∧ Lib.BuilderAt 173 5 B b (.pointer (some ⟨b, 0, none⟩)) (bs ++ Lib.strCells s) w' ∧ Below B w w' :=
  Any.Builder_WriteString (P := Tryz.prog) (ρ := Tryz.lays156_ren) { Tryz.lays156 with } Tryz.Builder_Extra_156 B b bs s w h hlen hBw

/-- The library's table of the powers of ten. -/
def TabAt (w : World) : Prop := Lib.TabIs Tryz.prog w "internal/strconv.uint64pow10" .u64 Lib.pow10Tab
theorem TabAt.on {w w' : World} (h : TabAt w) (hb : Below w.heap.size w w') : TabAt w' := Lib.tabBelow_of_tabIs h w' hb
theorem itoa_any (n : Int) (h0 : -9223372036854775808 ≤ n) (h1 : n ≤ 9223372036854775807) (w : World) (ht : TabAt w) :
    Calls Tryz.prog 155 #[.int .i64 n] w fun e w' => e = .returned (.string ⟨(Lib.itoa n).toArray⟩) ∧ Below w.heap.size w w' :=
  (Tryz.strconv_Itoa n h0 h1 w ht).mono fun e w' ⟨he, k, os, hw⟩ => ⟨he, by subst hw; exact Lib.below_grow _ _ (Nat.le_refl _) k os⟩
end Go.Proofs.YthmaoeajbmfmaaaGreatDoor

/-
  Contract of common.Line: the word, then a space and the decimal numeral of each integer, then a line feed. Conditions: at most 4096 integers that lie in memory, a word of at most 64 bytes.
-/
namespace Go.Proofs.YthmaoeajbmfmaaaGreatDoor
open Go.RowKit Go.Shelf
set_option linter.unusedVariables false
set_option linter.unusedSimpArgs false

theorem Tryz.infoStr : (Tryz.prog.info? 9).map (fun i => (i.zero, i.size, i.bytes)) = some (some (.string ⟨#[]⟩), 1, 16) := by kernel_rfl
def strV (l : List UInt8) : Value := .string ⟨l.toArray⟩
theorem owns_single (w : World) (v : Value) (T : TypeId) : (w.alloc (.cells #[v] T)).ownsRow w.heap.size T 1 (.slice (some ⟨w.heap.size, 0, none⟩) 1 1) 1 [v] :=
  ⟨rfl, .inr ⟨w.heap.size, 1, #[v], rfl, Nat.le_refl _, heap_alloc_new w _, by decide, by unfold maxLen; omega, rfl, rfl⟩⟩

theorem owns_capW {w : World} {B T n c g : Nat} {xs : List Value} (h : w.ownsRow B T 1 (.slice (some ⟨g, 0, none⟩) n c) n xs) : n ≤ c ∧ c ≤ maxLen := by
  rcases h.2 with ⟨h, _⟩ | ⟨g', cap, cur, h1, h2, h3, h4, h5, _⟩
  · cases h
  · simp at h1
    obtain ⟨rfl, rfl⟩ := h1
    exact ⟨h4, h5⟩

set_option maxHeartbeats 2000000 in
set_option maxRecDepth 100000 in
theorem mapped_str {w : World} (b o n c : Nat) (ks : List Int) (hk : ks.length = n) (hn : n ≤ 4096) (hb : b < w.heap.size) (ht : TabAt w)
    (hc : ∀ j, j < n → w.cell? ⟨b, o + j, none⟩ = some (.int .i64 (ks[j]?.getD 0))) (hs : ∀ j, j < n → (ks[j]?.getD 0).natAbs < 2 ^ 40) :
    Calls Tryz.prog 154 #[.slice (some ⟨b, o, none⟩) n c, .func (.func 155) #[] #[]] w fun e w' =>
      e = .returned (.slice (some ⟨w.heap.size, 0, none⟩) n n) ∧ w'.ownsRow w.heap.size 9 1 (.slice (some ⟨w.heap.size, 0, none⟩) n n) n (ks.map (fun k => strV (Lib.itoa k))) ∧ Below w.heap.size w w' := by
  obtain ⟨i0, hi, hz0, hz1, hz2⟩ := info_parts Tryz.infoStr
  have Hk := Lib.hid hk
  have Hc := Lib.hid hc
  have Hs := Lib.hid hs
  have HT := Lib.hid ht
  clear hk hc hs ht
  go_enter Tryz.func154, Tryz.ntmps154
  go_wp2_with (at_make; refine wpList_make_own _ rfl _ _ 127 rfl w.heap.size 9 i0 (.string ⟨#[]⟩) 1 Tryz.underlying127 hi hz0 hz1 _ _ _ n rfl rfl (by omega) ?b2 ?b3 (Nat.le_refl _) ?_)
  case b2 => rw [hz2]; omega
  case b3 => unfold maxLen; omega
  intro w0 hown0 hgrow0
  go_wp2
  go_loopw [5, 13] (fun out i wr => ∃ k : Nat, k ≤ n ∧ i = .int .i64 k ∧ out = .slice (some ⟨w.heap.size, 0, none⟩) k n ∧
      wr.ownsRow w.heap.size 9 1 (.slice (some ⟨w.heap.size, 0, none⟩) k n) k ((ks.take k).map (fun k => strV (Lib.itoa k))) ∧ Below w.heap.size w wr)
    (fun _ i _ => n - (intOf i).toNat)
  case atStart => exact ⟨0, Nat.zero_le _, rfl, rfl, hown0, (Below.refl _ _).grown hgrow0 (Nat.le_refl _) (fun k h => by cases h)⟩
  case round =>
    obtain ⟨k, hk, rfl, rfl, hown, hnx⟩ := hrel
    by_cases hlt : k < n
    · have hcell : wr.cell? ⟨b, o + k, none⟩ = some (.int .i64 (ks[k]?.getD 0)) := (hnx.cell (by exact hb)).trans (Hc.out k hlt)
      obtain ⟨kk, hkk⟩ : ∃ kk : Int, ks[k]?.getD 0 = kk := ⟨_, rfl⟩
      have hks := Hs.out k hlt
      rw [hkk] at hcell hks
      have HKK := Lib.hid hkk
      have K := Lib.hid (itoa_any kk (by omega) (by omega) wr (HT.out.on hnx))
      have hsz := hnx.size
      have HOW := Lib.hid hown
      clear hown hkk hks
      go_wp2_with (first
        | (go_at_call 155; refine K.out.mono ?_; rintro e w1 ⟨rfl, hb1⟩
           have hown1 := owns_kept HOW.out hb1 (Nat.le_refl _)
           have hs1 := hb1.size)
        | (at_builtin; refine wpList_append_fits _ rfl (.tmp 17) (.tmp 21) 127 rfl w.heap.size 9 i0 1 Tryz.underlying127 hi hz1 w.heap.size k n _ rfl (hown1.alloc _) ⟨w1.heap.size, 0, none⟩ 1 1 [strV (Lib.itoa kk)] rfl rfl (cell_one_new _ _ _) (by intro u hu; simp at hu; subst hu; rfl) (by omega) ?_; intro w2 hown2 hgrow2))
      go_roundw
      case rel => exact ⟨k + 1, by omega, by go_num, rfl, by rw [take_map_succ (fun k => strV (Lib.itoa k)) ks k (by have := Hk.out; omega) 0, HKK.out]; exact hown2, ((hnx.trans (hb1.mono hsz)).alloc (by omega) _).grown hgrow2 (by simp; omega) (fun j hj => by cases hj; exact Nat.le_refl _)⟩
      case measure => simp [intOf]; omega
    · go_wp2
      go_ret
      obtain rfl : k = n := by omega
      rw [List.take_of_length_le (by have := Hk.out; omega)] at hown
      exact ⟨rfl, hown, hnx⟩

/-- A line of a text. -/
def lineL (wd : List UInt8) (ks : List Int) : List UInt8 := Lib.join (wd :: ks.map Lib.itoa) [32] ++ [10]
theorem joinTail_len (ls : List (List UInt8)) (h : ∀ l ∈ ls, l.length ≤ 21) : (Lib.joinTail [32] ls).length ≤ 22 * ls.length := by
  induction ls with
  | nil => simp [Lib.joinTail]
  | cons l ls ih =>
    have h1 := h l List.mem_cons_self
    have h2 := ih fun l' h' => h l' (List.mem_cons_of_mem _ h')
    simp only [Lib.joinTail, List.map_cons, List.flatten_cons, List.length_append, List.length_cons, List.length_nil] at h2 ⊢
    omega
theorem join_len (wd : List UInt8) (ks : List Int) (h : ∀ k ∈ ks, k.natAbs < 2 ^ 40) : (Lib.join (wd :: ks.map Lib.itoa) [32]).length ≤ wd.length + 22 * ks.length := by
  rw [Lib.join_cons, List.length_append]
  have := joinTail_len (ks.map Lib.itoa) (fun l hl => by obtain ⟨k, hk, rfl⟩ := List.mem_map.1 hl; have := h k hk; exact Lib.itoa_length_le k (by omega) (by omega))
  rw [List.length_map] at this
  omega

set_option maxHeartbeats 2000000 in
set_option maxRecDepth 100000 in
theorem line_any {w : World} (wd : List UInt8) (b o n c : Nat) (ks : List Int) (hwd : wd.length ≤ 64) (hk : ks.length = n) (hn : n ≤ 4096) (hb : b < w.heap.size) (ht : TabAt w)
    (hc : ∀ j, j < n → w.cell? ⟨b, o + j, none⟩ = some (.int .i64 (ks[j]?.getD 0))) (hs : ∀ j, j < n → (ks[j]?.getD 0).natAbs < 2 ^ 40) :
    Calls Tryz.prog 103 #[strV wd, .slice (some ⟨b, o, none⟩) n c] w fun e w' => e = .returned (strV (lineL wd ks)) ∧ Below w.heap.size w w' := by
  obtain ⟨i0, hi, hz0, hz1, hz2⟩ := info_parts Tryz.infoStr
  have hmem : ∀ k ∈ ks, k.natAbs < 2 ^ 40 := fun k hk' => by
    obtain ⟨j, hj, rfl⟩ := List.getElem_of_mem hk'
    have := hs j (by omega)
    rw [List.getElem?_eq_getElem hj] at this
    exact this
  have hjl := join_len wd ks hmem
  obtain ⟨W1, hW1⟩ : ∃ W1, w.alloc (.cells #[strV wd] 9) = W1 := ⟨_, rfl⟩
  have hB1 : Below w.heap.size w W1 := by rw [← hW1]; exact (Below.refl _ w).alloc (Nat.le_refl _) _
  have hS1 : W1.heap.size = w.heap.size + 1 := by rw [← hW1]; simp
  have hO1 : W1.ownsRow w.heap.size 9 1 (.slice (some ⟨w.heap.size, 0, none⟩) 1 1) 1 [strV wd] := by rw [← hW1]; exact owns_single w _ _
  have K := Lib.hid (mapped_str b o n c ks hk hn (by omega) (ht.on hB1) (fun j hj => (hB1.cell (p := ⟨b, o + j, none⟩) hb).trans (hc j hj)) hs : Calls _ _ _ W1 _)
  have Hk := Lib.hid hk
  have HB1 := Lib.hid hB1
  have HS1 := Lib.hid hS1
  have HO1 := Lib.hid hO1
  have HJL := Lib.hid hjl
  clear hk hc hs ht hB1 hS1 hO1 hjl hmem
  go_enter Tryz.func103, Tryz.ntmps103
  unfold strV at *
  obtain ⟨xs, hxs⟩ : ∃ xs : List ByteArray, xs = (wd :: ks.map Lib.itoa).map (fun l => ⟨l.toArray⟩) := ⟨_, rfl⟩
  have hxl : xs.length = 1 + n := by rw [hxs]; simp [Hk.out]; omega
  have hxm : xs.map (fun x : ByteArray => x.data.toList) = wd :: ks.map Lib.itoa := by rw [hxs, List.map_map]; exact List.map_id' _
  have hxv : [Value.string ⟨wd.toArray⟩] ++ ks.map (fun k => Value.string ⟨(Lib.itoa k).toArray⟩) = xs.map Value.string := by rw [hxs]; simp [List.map_map]
  have HXL := Lib.hid hxl
  have HXM := Lib.hid hxm
  have HXV := Lib.hid hxv
  clear hxs hxl hxm hxv
  go_wp2_with (first
    | (go_at_call 154; refine K.out.mono ?_; rintro e w2 ⟨rfl, hown2, hb2⟩
       have hown6 := owns_kept HO1.out hb2 (Nat.le_refl _)
       have hs2 := hb2.size)
    | (at_builtin; refine wpList_append_own _ rfl (.tmp 6) (.tmp 8) 127 rfl w.heap.size 9 i0 (.string ⟨#[]⟩) 1 16 Tryz.underlying127 hi hz0 hz1 hz2 rfl (by decide) _ 1 _ rfl hown6 ⟨W1.heap.size, 0, none⟩ n n (ks.map (fun k => .string ⟨(Lib.itoa k).toArray⟩)) rfl (by simp [Hk.out]) (fun j u hu => by
          have := hown2.cells (g := W1.heap.size) rfl j u hu
          simpa [Addr.add] using this) (by intro u hu; obtain ⟨k, _, rfl⟩ := List.mem_map.1 hu; rfl) (by unfold maxLen; omega) (by omega) (by have := HS1.out; omega) ?_; intro v' w3 hown3 hgrow3 _
       rw [HXV.out] at hown3
       obtain ⟨gv, cv, rfl, hgv, hgB⟩ := owns_some hown3 (by omega)
       have hcv := owns_capW hown3
       have KJ := Tryz.strings_Join gv 0 cv xs ⟨#[32]⟩ w3 (fun j x hx => by rw [Nat.zero_add]; exact owns_cell hown3 (by rw [List.getElem?_map, hx]; rfl)) hgv (by rw [HXL.out]; omega) (by rw [HXL.out]; omega) (by rw [HXM.out]; have := HJL.out; have := Hk.out; simp only [List.toList_toArray] at *; omega)
       rw [HXL.out, HXM.out] at KJ
       have KJH := Lib.hid KJ
       clear KJ)
    | (go_at_call 153; refine KJH.out.mono ?_; rintro e w4 ⟨rfl, hb4⟩))
  · exfalso
    rename_i h
    have := HJL.out
    have := Hk.out
    omega
  refine bodyPost_ret (results_tmp Tryz.results103 _ _ _) rfl ?_
  refine ⟨?_, ((HB1.out.trans (hb2.mono (by have := HS1.out; omega))).grown hgrow3 (by have := HS1.out; omega) (fun j hj => by cases hj; exact Nat.le_refl _)).trans (hb4.mono (by have := hgrow3.1; have := HS1.out; omega))⟩
  have : (⟨(Lib.join (wd :: ks.map Lib.itoa) [32]).toArray⟩ : ByteArray) ++ ⟨#[10]⟩ = ⟨(lineL wd ks).toArray⟩ := by
    apply ByteArray.ext
    simp [lineL, ByteArray.data_append]
  rw [this]
  rfl
end Go.Proofs.YthmaoeajbmfmaaaGreatDoor

/-
  A region that draws its order, inside a fence and inside a round: an operation that yields its value in every world of which S holds may be taken first; S is shown anew behind each other one, but not behind the last.
-/
namespace Go.Proofs.YthmaoeajbmfmaaaGreatDoor
open Go

section
variable {F : Fence} {n : Nat} {P : Program} {ops : Array Oper} {Q : Exit → Act → World → Prop} {md : Region.Mode} {S : World → Prop}

def YHIn (P : Program) (ops : Array Oper) (S : World → Prop) (o : Oper) (v : Value) (a : Act) : Prop := YieldsIf P ops S o v a ∧ ∀ w, o.about P w a.eval = none

theorem YHIn.wpOpIn {i : Nat} {o : Oper} {v : Value} {a : Act} (hi : ops[i]? = some o) (hd : ∀ c, o.op ≠ .defer c) (hy : YHIn P ops S o v a)
    {K : Act → World → Prop} {w : World} (hS : S w) (h : K (a.put o.dst v) w) : Go.wpOpIn F n P ops Q i K a w := by
  unfold Go.wpOpIn
  simp only [hi]
  have hab : ∀ f, o.about P w a.eval = some f → F.fn f := fun f hf => by rw [hy.2 w] at hf; cases hf
  rcases hy.1 with ⟨hw, hv⟩ | ⟨hw, rfl⟩
  · simp only [hw, if_true, Oper.wpIn, Oper.semAt_eq _ _ _ hd, hv w hS, Oper.uponIn]; exact ⟨hab, h⟩
  · simp only [hw, Bool.false_eq_true, if_false]; exact ⟨hab, h⟩

theorem YHIn.of_same {o : Oper} {v : Value} {a a' : Act} (hy : YHIn P ops S o v a) (he : execOp a'.eval o = execOp a.eval o)
    (hw : Region.wanted o (yielded ops a'.tmps) = Region.wanted o (yielded ops a.tmps)) (hb : ∀ w, o.about P w a'.eval = o.about P w a.eval) : YHIn P ops S o v a' :=
  ⟨hy.1.of_same he hw, fun w => by rw [hb w]; exact hy.2 w⟩

theorem wpOpIn_putH {j : Nat} {oi oj : Oper} {v : Value} (hj : ops[j]? = some oj) (hdj : ∀ c, oj.op ≠ .defer c) (hap : oi.apart ops oj = true)
    (hsi : ∀ cs b, oi.op ≠ .select cs b) (hsj : ∀ cs b, oj.op ≠ .select cs b)
    (hQ : ∀ c a w, Q (.panic c) (a.put oi.dst v) w → Q (.panic c) a w) {K : Act → World → Prop} {a : Act} {w : World}
    (hy : YHIn P ops S oi v a) (h : Go.wpOpIn F n P ops Q j K (a.put oi.dst v) w) :
    Go.wpOpIn F n P ops Q j (fun a' w' => YHIn P ops S oi v a' ∧ K (a'.put oi.dst v) w') a w := by
  obtain ⟨h1, h2, h3⟩ := Oper.apart_spec hap
  have keep : ∀ (a : Act), YHIn P ops S oi v a → ∀ u, YHIn P ops S oi v (a.put oj.dst u) := fun a hy u =>
    hy.of_same (execOp_put oi hsi a oj.dst u h3) (wanted_put oi a oj.dst u h3) (fun w => about_put oi w a oj.dst u h3)
  unfold Go.wpOpIn at *
  simp only [hj] at *
  rw [wanted_put oj a oi.dst v h1, about_put oj w a oi.dst v h1] at h
  split
  · rename_i hw
    simp only [hw, if_true] at h
    unfold Oper.wpIn at *
    rw [about_put oj w a oi.dst v h1] at h
    refine ⟨h.1, ?_⟩
    have h := h.2
    rw [Oper.semAt_eq _ _ _ hdj, execOp_put oj hsj a oi.dst v h1] at h
    rw [Oper.semAt_eq _ _ _ hdj]
    generalize (execOp a.eval oj).run P w = r at *
    cases r with
    | ok x w' =>
      cases x <;> simp only [Oper.uponIn] at h ⊢
      case value u => exact ⟨keep a hy u, by rw [← Act.put_comm a v u h2]; exact h⟩
      case skip => exact ⟨keep a hy _, by rw [← Act.put_comm a v undef h2]; exact h⟩
      case defer d =>
        refine ⟨(hy.of_same rfl rfl (fun _ => rfl) : YHIn P ops S oi v { a with defers := d :: a.defers }) |> fun q => keep _ q _, ?_⟩
        rw [← Act.put_comm _ v undef h2, ← Act.put_defers]
        exact h
      case enter f args =>
        refine ⟨h.1, CallsIn.mono h.2 fun e w'' he => ?_⟩
        cases e with
        | returned u => exact ⟨keep a hy u, by rw [← Act.put_comm a v u h2]; exact he⟩
        | panicked c => exact hQ _ _ _ he
        | outgrown => exact he
      case row row args => exact ⟨h.1, RowsIn.mono h.2 fun u w'' he => ⟨keep a hy u, by rw [← Act.put_comm a v u h2]; exact he⟩⟩
      case round l f tmps assign body =>
        refine ⟨h.1, RoundIn.mono h.2 fun e w'' he => ?_⟩
        cases e with
        | returned u => exact ⟨keep a hy u, by rw [← Act.put_comm a v u h2]; exact he⟩
        | panicked c => exact hQ _ _ _ he
        | outgrown => exact he
    | halt x w' =>
      cases x <;> simp only [Oper.uponIn] at h ⊢
      case panic u => exact hQ _ _ _ h
  · rename_i hw
    simp only [hw] at h
    exact ⟨h.1, keep a hy _, by rw [← Act.put_comm a v undef h2]; exact h.2⟩

/-- Operation j waits for every other one. -/
def lastB (md : Region.Mode) (ops : Array Oper) (j : Nat) : Bool := (List.range ops.size).all fun k => k == j || match ops[j]? with | some oj => oj.after.any (fun e => Region.binds md e && e.on == k) | none => false
def noDefer (ops : Array Oper) : Bool := ops.toList.all fun o => match o.op with | .defer _ => false | _ => true
theorem noDefer_spec {j : Nat} {o : Oper} (h : noDefer ops = true) (ho : ops[j]? = some o) : ∀ c, o.op ≠ .defer c := fun c e => by
  unfold noDefer at h
  rw [List.all_eq_true] at h
  have := h o (by rw [Array.mem_toList_iff]; exact Array.mem_of_getElem? ho)
  rw [e] at this
  cases this

def wpAnyHIn (F : Fence) (n : Nat) (P : Program) (md : Region.Mode) (ops : Array Oper) (Q : Exit → Act → World → Prop) (S : World → Prop) : Nat → Array Bool → Act → World → Prop
  | 0, listed, a, w => Region.ready md ops listed = [] ∧ Q .normal a w
  | fuel + 1, listed, a, w =>
    (Region.ready md ops listed = [] → Q .normal a w) ∧
    ∀ i ∈ Region.ready md ops listed, wpOpIn F n P ops Q i (fun a' w' => (S w' ∧ wpAnyHIn F n P md ops Q S fuel (listed.setIfInBounds i true) a' w') ∨ (lastB md ops i = true ∧ Region.ready md ops (listed.setIfInBounds i true) = [] ∧ Q .normal a' w')) a w

theorem wpAnyIn_of_held : ∀ (fuel : Nat) (listed : Array Bool) (a : Act) (w : World), wpAnyHIn F n P md ops Q S fuel listed a w → wpAnyIn F n P md ops Q fuel listed a w
  | 0, _, _, _, h => h
  | fuel + 1, _, _, _, h => ⟨h.1, fun i hi => wpOpIn_mono (fun a' w' h' => by
      rcases h' with h' | h'
      · exact wpAnyIn_of_held fuel _ a' w' h'.2
      · exact wpAnyIn_done h'.2.1 h'.2.2 fuel) (h.2 i hi)⟩

theorem wpAnyHIn_first {i : Nat} {oi : Oper} {v : Value} (hnd : noDefer ops = true) (hi : ops[i]? = some oi) (hsel : ∀ (j : Nat) (o : Oper) cs b, ops[j]? = some o → o.op ≠ .select cs b)
    (hQ : ∀ c a w, Q (.panic c) (a.put oi.dst v) w → Q (.panic c) a w) :
    ∀ (fuel : Nat) (listed : Array Bool) (a : Act) (w : World),
      (∀ j oj, ops[j]? = some oj → j ≠ i → listed.getD j true = false → (∀ e ∈ oj.after, Region.binds md e = true → e.on ≠ i) → oi.apart ops oj = true) →
      i ∈ Region.ready md ops listed → YHIn P ops S oi v a → S w →
      wpAnyHIn F n P md ops Q S fuel (listed.setIfInBounds i true) (a.put oi.dst v) w → wpAnyHIn F n P md ops Q S (fuel + 1) listed a w := by
  intro fuel
  have hil : i < ops.size := (Array.getElem?_eq_some_iff.1 hi).1
  induction fuel with
  | zero =>
    intro listed a w _ hr hy hS H
    refine ⟨fun h => (by rw [h] at hr; cases hr), fun j hj => ?_⟩
    by_cases hji : j = i
    · subst hji; exact hy.wpOpIn hi (noDefer_spec hnd hi) hS (.inl ⟨hS, H⟩)
    · have := ready_mono hj hji
      rw [H.1] at this
      cases this
  | succ fuel ih =>
    intro listed a w hfree hr hy hS H
    refine ⟨fun h => (by rw [h] at hr; cases hr), fun j hj => ?_⟩
    by_cases hji : j = i
    · subst hji; exact hy.wpOpIn hi (noDefer_spec hnd hi) hS (.inl ⟨hS, H⟩)
    · have h1 := H.2 j (ready_mono hj hji)
      obtain ⟨hjun, oj, hoj, hall⟩ := mem_ready.1 hj
      have hnot : ∀ e ∈ oj.after, Region.binds md e = true → e.on ≠ i := fun e he hb heq => by
        have h1 := hall e he hb
        have h0 := (mem_ready.1 hr).1
        rw [heq] at h1
        rcases Nat.lt_or_ge i listed.size with h' | h'
        · simp [h'] at h0 h1; rw [h0] at h1; cases h1
        · simp [Array.getElem?_eq_none h'] at h1
      have h2 := wpOpIn_putH hoj (noDefer_spec hnd hoj) (hfree j oj hoj hji hjun hnot) (fun cs b => hsel i oi cs b hi) (fun cs b => hsel j oj cs b hoj) hQ hy h1
      have hfree' : ∀ k ok, ops[k]? = some ok → k ≠ i → (listed.setIfInBounds j true).getD k true = false →
          (∀ e ∈ ok.after, Region.binds md e = true → e.on ≠ i) → oi.apart ops ok = true := fun k ok hk hki hun hno => by
        refine hfree k ok hk hki ?_ hno
        by_cases hjk : j = k
        · subst hjk; exact hjun
        · rw [getD_set_ne true hjk] at hun; exact hun
      refine wpOpIn_mono (fun a' w' h3 => ?_) h2
      rcases h3.2 with h4 | h4
      · refine .inl ⟨h4.1, ih (listed.setIfInBounds j true) a' w' hfree' (ready_mono hr (Ne.symm hji)) h3.1 h4.1 ?_⟩
        rw [Array.setIfInBounds_comm _ _ hji]
        exact h4.2
      · exfalso
        have hl := h4.1
        unfold lastB at hl
        rw [List.all_eq_true] at hl
        have hx := hl i (List.mem_range.2 hil)
        rw [hoj] at hx
        simp only [Bool.or_eq_true, beq_iff_eq] at hx
        rcases hx with hx | hx
        · exact hji hx.symm
        · rw [Array.any_eq_true] at hx
          obtain ⟨m, hm, he⟩ := hx
          simp only [Bool.and_eq_true, beq_iff_eq] at he
          exact hnot _ (Array.getElem_mem hm) he.1 he.2

theorem wpAnyHIn_take {i : Nat} {oi : Oper} {v : Value} {fuel : Nat} {listed : Array Bool} {a : Act} {w : World} (hi : ops[i]? = some oi)
    (hnd : noDefer ops = true) (hs : Region.noSelect ops = true) (hf : Region.free md ops listed i = true) (hr : (Region.ready md ops listed).contains i = true)
    (hQ : ∀ c a w, Q (.panic c) (a.put oi.dst v) w → Q (.panic c) a w) (hy : YHIn P ops S oi v a) (hS : S w)
    (h : wpAnyHIn F n P md ops Q S fuel (listed.setIfInBounds i true) (a.put oi.dst v) w) : wpAnyHIn F n P md ops Q S (fuel + 1) listed a w :=
  wpAnyHIn_first hnd hi (Region.noSelect_spec hs) hQ fuel listed a w (Region.free_spec hi hf) (by simpa using hr) hy hS h

/-- One operation alone may come up. -/
theorem wpAnyHIn_one {i : Nat} {o : Oper} {fuel : Nat} {listed : Array Bool} {a : Act} {w : World} (hr : Region.ready md ops listed = [i]) (ho : ops[i]? = some o)
    (h : ∀ K' : Act → World → Prop, (∀ a w, S w → wpAnyHIn F n P md ops Q S fuel (listed.setIfInBounds i true) a w → K' a w) → if Region.wanted o (yielded ops a.tmps) = true then Oper.wpIn F n P o a w K' Q else (∀ f, o.about P w a.eval = some f → F.fn f) ∧ K' (a.put o.dst undef) w) :
    wpAnyHIn F n P md ops Q S (fuel + 1) listed a w :=
  ⟨fun h0 => (by rw [hr] at h0; cases h0), fun j hj => by
    rw [hr] at hj
    obtain rfl : j = i := by simpa using hj
    exact wpOpIn_step ho fun K' hK => h K' fun a w hS hw => hK a w (.inl ⟨hS, hw⟩)⟩
/-- The last one: S is not asked behind it. -/
theorem wpAnyHIn_end {i : Nat} {o : Oper} {fuel : Nat} {listed : Array Bool} {a : Act} {w : World} (hr : Region.ready md ops listed = [i]) (ho : ops[i]? = some o) (hl : lastB md ops i = true) (he : Region.ready md ops (listed.setIfInBounds i true) = [])
    (h : ∀ K' : Act → World → Prop, (∀ a w, Q .normal a w → K' a w) → if Region.wanted o (yielded ops a.tmps) = true then Oper.wpIn F n P o a w K' Q else (∀ f, o.about P w a.eval = some f → F.fn f) ∧ K' (a.put o.dst undef) w) :
    wpAnyHIn F n P md ops Q S (fuel + 1) listed a w :=
  ⟨fun h0 => (by rw [hr] at h0; cases h0), fun j hj => by
    rw [hr] at hj
    obtain rfl : j = i := by simpa using hj
    exact wpOpIn_step ho fun K' hK => h K' fun a w hq => hK a w (.inr ⟨hl, he, hq⟩)⟩
theorem wpAnyHIn_done {listed : Array Bool} {a : Act} {w : World} (hr : Region.ready md ops listed = []) (h : Q .normal a w) : ∀ fuel, wpAnyHIn F n P md ops Q S fuel listed a w
  | 0 => ⟨hr, h⟩
  | _ + 1 => ⟨fun _ => h, by rw [hr]; simp⟩

theorem wpIn_region_heldI {id : Nat} {a : Act} {w : World} (S : World → Prop) (hm : P.follows .mixedOrders = true)
    (h : wpAnyHIn F n P .any ops Q S ops.size (Array.replicate ops.size false) a { w with drawn := w.drawn + 1 }) : (Code.region id ops true).wpIn F n P Q a w :=
  wpIn_region_any hm (wpAnyIn_of_held _ _ _ _ h)
end
end Go.Proofs.YthmaoeajbmfmaaaGreatDoor
