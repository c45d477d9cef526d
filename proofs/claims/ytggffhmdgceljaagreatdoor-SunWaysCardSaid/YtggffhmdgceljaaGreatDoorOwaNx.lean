/-
  Contracts of Mapped over parts, with Reduced and with Vector.
-/
import Derived.Test.YtggffhmdgceljaaGreatDoorRows
import Derived.WalkKit
import Derived.WalkSpells
import Derived.WalkLawsBesides
import Derived.Lib.Hide
import Derived.BigQuiet
import Derived.Deep.QuietTactic
import Derived.Handy
import Derived.Deep.RegionHeld3
import Derived.Deep.RegionWith
import Derived.StillTailTactics
import Derived.RangeFuncNested
import Derived.RangeFuncBound
import Derived.RangeFuncCalls
import Derived.RangeFuncLeaves
import Derived.RangeFuncBox
import Derived.Shelf.Abstract
import Derived.Shelf.RegionOpen
import Derived.OwnWalkIn
import Derived.TacticsInMore
import Derived.LoopNIn
import Derived.LoopIn
import Derived.Maps.AppendAt
import Derived.Test.YtggffhmdgceljaaGreatDoorProg
import Derived.Laws.FloatArith
import Derived.Laws.BitsAllLaws
import Derived.Deep.DeepCutAuto
import Derived.Stop.BytesEq
import Derived.Deep.MidRow
import Derived.Laws.CopyRow
import Derived.WalkMore
import Derived.Deep.DrawnRows
import Derived.Deep.CutBlock
import Derived.Orders
import Derived.LoopTactic
import Derived.Laws.StructEq
import Derived.Deep.RegionLaw
import Derived.RegionTactic
import Derived.StillTail
import Derived.Laws.RangeString
import Derived.Laws.RangeAny
import Derived.Test.YtggffhmdgceljaaGreatDoorOwaWn
import Derived.Test.YtggffhmdgceljaaGreatDoorOwaXe
import Derived.Test.YtggffhmdgceljaaGreatDoorOwaIb
import Derived.Test.YtggffhmdgceljaaGreatDoorOwaNd
import Derived.Test.YtggffhmdgceljaaGreatDoorOwaId
import Derived.Test.YtggffhmdgceljaaGreatDoorOwaNc
import Derived.Test.YtggffhmdgceljaaGreatDoorOwaNt
import Derived.Test.YtggffhmdgceljaaGreatDoorOwaWo
import Derived.Test.YtggffhmdgceljaaGreatDoorOwaNu
import Derived.Test.YtggffhmdgceljaaGreatDoorOwaNv
namespace Go.Proofs.YtggffhmdgceljaaGreatDoor
open Go.RowKit
set_option linter.unusedVariables false
set_option linter.unusedSimpArgs false

structure P3 where
  x : Int
  y : Int
  z : Int
def P3.val (s : P3) : List Value := [.int .i64 s.x, .int .i64 s.y, .int .i64 s.z]
def p3Z : P3 := ⟨0, 0, 0⟩
def P3sAt (w : World) (b q : Nat) (L : List P3) : Prop := ∀ k, k < L.length → w.rangeAt b (q + k * 3) (L[k]?.getD p3Z).val
theorem P3sAt.kept {w w' : World} {b q B : Nat} {L : List P3} (h : P3sAt w b q L) (hb : Below B w w') (hB : b < B) : P3sAt w' b q L := fun k hk j v hv => by
  rw [hb.cell (by exact hB)]; exact h k hk j v hv
def AnyP3 (w : World) (a : Option Addr) (n : Nat) (L : List P3) : Prop := L.length = n ∧ ∀ j, j < n → ∃ b q, a = some ⟨b, q, none⟩ ∧ b < w.heap.size ∧ P3sAt w b q L
theorem flat3_at : ∀ (L : List P3) (k j : Nat) (v : Value), k < L.length → (L[k]?.getD p3Z).val[j]? = some v → (L.flatMap P3.val)[k * 3 + j]? = some v
  | [], k, _, _, h, _ => by simp at h
  | t :: L, 0, j, v, _, hv => by
    simp at hv
    have hj : j < 3 := by
      rcases Nat.lt_or_ge j 3 with h | h
      · exact h
      · rw [List.getElem?_eq_none (show t.val.length ≤ j from h)] at hv; cases hv
    rw [List.flatMap_cons, List.getElem?_append_left (show 0 * 3 + j < t.val.length by show 0 * 3 + j < 3; omega)]
    simpa using hv
  | t :: L, k + 1, j, v, h, hv => by
    rw [List.flatMap_cons, List.getElem?_append_right (show t.val.length ≤ (k + 1) * 3 + j by show 3 ≤ (k + 1) * 3 + j; omega), show (k + 1) * 3 + j - t.val.length = k * 3 + j by show (k + 1) * 3 + j - 3 = k * 3 + j; omega]
    exact flat3_at L k j v (by simpa using h) (by simpa using hv)
theorem AnyP3.of_row {w : World} {B T : Nat} {v : Value} {n : Nat} {L : List P3} (hl : L.length = n) (h : w.ownsRow B T 3 v n (L.flatMap P3.val)) : ∃ a c, v = .slice a n c ∧ AnyP3 w a n L := by
  rcases h.2 with ⟨rfl, h0⟩ | ⟨g, cap, cur, rfl, _, hg, _⟩
  · subst h0
    exact ⟨_, _, rfl, hl, fun j hj => absurd hj (by omega)⟩
  · refine ⟨_, _, rfl, hl, fun j hj => ⟨g, 0, rfl, lt_of_blk hg, fun k hk i u hu => ?_⟩⟩
    have h2 := h.cells (g := g) rfl (k * 3 + i) u (flat3_at L k i u hk hu)
    rw [Addr.add_mid] at h2
    rw [Nat.zero_add] at h2 ⊢
    exact h2
theorem take_flat3 (L : List P3) (k : Nat) (hk : k < L.length) : (L.take (k + 1)).flatMap P3.val = (L.take k).flatMap P3.val ++ (L[k]?.getD p3Z).val := by
  rw [List.take_succ_eq_append_getElem hk, List.flatMap_append, List.getElem?_eq_getElem hk]
  simp
theorem cells_new3 (w : World) (T : TypeId) (a b c : Value) : ∀ j u, [a, b, c][j]? = some u → (w.alloc (.cells #[a, b, c] T)).cell? ((⟨w.heap.size, 0, none⟩ : Addr).add j) = some u := fun j u h => by
  rw [Addr.add_mid]
  rw [cell_of_row _ w.heap.size (0 + j) _ _ (0, 0) (World.alloc_heap_new w (.cells #[a, b, c] T))]
  simpa using h
theorem Tryz.infoParts3 : (Tryz.prog.info? 94).map (fun i => (i.zero, i.size, i.bytes)) = some (some (.agg #[.int .i64 0, .int .i64 0, .int .i64 0]), 3, 24) := by kernel_rfl
theorem Tryz.infoVector3 : (Tryz.prog.info? 23).map (fun i => (i.zero, i.size, i.bytes)) = some (some (.agg #[.int .i64 0, .int .i64 0, .int .i64 0]), 3, 24) := by kernel_rfl

set_option maxRecDepth 100000 in
set_option maxHeartbeats 6400000 in
theorem mapped_parts {w : World} (L R : List P3) (a : Option Addr) (n c : Nat) (hA : AnyP3 w a n L) (hr : R.length = n) (hn : n ≤ 64)
    (hK : ∀ j, j < n → ∀ w1 : World, Calls Tryz.prog 72 #[.agg #[.int .i64 (L[j]?.getD p3Z).x, .int .i64 (L[j]?.getD p3Z).y, .int .i64 (L[j]?.getD p3Z).z]] w1 fun e w' => e = .returned (.agg #[.int .i64 (R[j]?.getD p3Z).x, .int .i64 (R[j]?.getD p3Z).y, .int .i64 (R[j]?.getD p3Z).z]) ∧ Below w1.heap.size w1 w') :
    Calls Tryz.prog 93 #[.slice a n c, .func (.func 72) #[] #[]] w fun e w' =>
      e = .returned (.slice (some ⟨w.heap.size, 0, none⟩) n n) ∧ w'.ownsRow w.heap.size 94 3 (.slice (some ⟨w.heap.size, 0, none⟩) n n) n (R.flatMap P3.val) ∧ Below w.heap.size w w' := by
  obtain ⟨i0, hi, hz0, hz1, hz2⟩ := info_parts Tryz.infoParts3
  have HC := Lib.hid hA.2
  have HL := Lib.hid hA.1
  have HR := Lib.hid hr
  have HK := Lib.hid hK
  have s3 : (Tryz.prog.info? 94).map (·.size) = some 3 := by kernel_rfl
  clear hA hr hK
  go_enter Tryz.func93, Tryz.ntmps93
  go_wp2_with (at_make; refine wpList_make_own _ rfl _ _ 152 rfl w.heap.size 94 i0 (.agg #[.int .i64 0, .int .i64 0, .int .i64 0]) 3 Tryz.underlying152 hi hz0 hz1 _ _ _ n rfl rfl (by omega) ?b2 ?b3 (Nat.le_refl _) ?_)
  case b2 => rw [hz2]; omega
  case b3 => unfold maxLen; omega
  intro w0 hown0 hgrow0
  go_wp2
  go_loopw [5, 13] (fun out i wr => ∃ k : Nat, k ≤ n ∧ i = .int .i64 k ∧ out = .slice (some ⟨w.heap.size, 0, none⟩) k n ∧
      wr.ownsRow w.heap.size 94 3 (.slice (some ⟨w.heap.size, 0, none⟩) k n) k ((R.take k).flatMap P3.val) ∧ Below w.heap.size w wr)
    (fun _ i _ => n - (intOf i).toNat)
  case atStart => exact ⟨0, Nat.zero_le _, rfl, rfl, hown0, (Below.refl _ _).grown hgrow0 (Nat.le_refl _) (fun k h => by cases h)⟩
  case round =>
    obtain ⟨k, hk, rfl, rfl, hown, hnx⟩ := hrel
    by_cases hlt : k < n
    · obtain ⟨b, q, rfl, hb, hT0⟩ := HC.out k hlt
      have hr : wr.rangeAt b (q + k * 3) (L[k]?.getD p3Z).val := (hT0.kept hnx hb) k (by have := HL.out; omega)
      have K := HK.out k hlt
      have hS := take_flat3 R k (by have := HR.out; omega)
      obtain ⟨t, ht⟩ : ∃ t, L[k]?.getD p3Z = t := ⟨_, rfl⟩
      obtain ⟨u, hu⟩ : ∃ u, R[k]?.getD p3Z = u := ⟨_, rfl⟩
      rw [ht] at hr K
      rw [hu] at K hS
      have hv : t.val = [.int .i64 t.x, .int .i64 t.y, .int .i64 t.z] := rfl
      have HRG := Lib.hid hr
      have HS := Lib.hid hS
      have HKK := Lib.hid K
      have hsz := hnx.size
      clear hr hS K ht hu hT0 HC
      go_wp2_with (first
        | (refine wpList_load_mid rfl 94 _ rfl b (q + k * 3) rfl t.val _ HRG.out Tryz.underlying94 rfl (by rw [s3]; rfl) ?_)
        | (go_at_call 72; refine (HKK.out _).mono ?_; rintro e w2 ⟨rfl, hb2⟩
           have hown2 := owns_kept (hown.alloc (.cells #[.int .i64 t.x, .int .i64 t.y, .int .i64 t.z] 94)) hb2 (Nat.le_refl _)
           have hbb : Below w.heap.size w w2 := (hnx.alloc hnx.size _).trans (hb2.mono (by simp; omega))
           have hsz2 := hbb.size
           clear hown)
        | (at_builtin; refine wpList_append_fits _ rfl (.tmp 17) (.tmp 21) 152 rfl w.heap.size 94 i0 3 Tryz.underlying152 hi hz1 w.heap.size k n _ rfl (hown2.alloc _) ⟨w2.heap.size, 0, none⟩ 1 1 [.int .i64 u.x, .int .i64 u.y, .int .i64 u.z] rfl rfl (cells_new3 _ _ _ _ _) (by intro u hu; simp at hu; rcases hu with rfl | rfl | rfl <;> rfl) (by omega) ?_; intro w1 hown1 hgrow1))
      go_roundw
      case rel => exact ⟨k + 1, by omega, by go_num, rfl, by rw [HS.out]; exact hown1, (hbb.alloc hbb.size _).grown hgrow1 (by simp; omega) (fun j hj => by cases hj; exact Nat.le_refl _)⟩
      case measure => simp [intOf]; omega
    · have HO := Lib.hid hown
      have HX := Lib.hid hnx
      clear hown hnx
      go_wp2
      go_ret
      obtain rfl : k = n := by omega
      have h := HO.out
      rw [List.take_of_length_le (by have := HR.out; omega)] at h
      exact ⟨rfl, h, HX.out⟩

set_option maxRecDepth 100000 in
set_option maxHeartbeats 6400000 in
theorem mapped_vectors {w : World} (L R : List P3) (a : Option Addr) (n c : Nat) (hA : AnyP3 w a n L) (hr : R.length = n) (hn : n ≤ 64)
    (hK : ∀ j, j < n → ∀ w1 : World, Calls Tryz.prog 73 #[.agg #[.int .i64 (L[j]?.getD p3Z).x, .int .i64 (L[j]?.getD p3Z).y, .int .i64 (L[j]?.getD p3Z).z]] w1 fun e w' => e = .returned (.agg #[.int .i64 (R[j]?.getD p3Z).x, .int .i64 (R[j]?.getD p3Z).y, .int .i64 (R[j]?.getD p3Z).z]) ∧ Below w1.heap.size w1 w') :
    Calls Tryz.prog 92 #[.slice a n c, .func (.func 73) #[] #[]] w fun e w' =>
      e = .returned (.slice (some ⟨w.heap.size, 0, none⟩) n n) ∧ w'.ownsRow w.heap.size 23 3 (.slice (some ⟨w.heap.size, 0, none⟩) n n) n (R.flatMap P3.val) ∧ Below w.heap.size w w' := by
  obtain ⟨i0, hi, hz0, hz1, hz2⟩ := info_parts Tryz.infoVector3
  have HC := Lib.hid hA.2
  have HL := Lib.hid hA.1
  have HR := Lib.hid hr
  have HK := Lib.hid hK
  have s3 : (Tryz.prog.info? 94).map (·.size) = some 3 := by kernel_rfl
  clear hA hr hK
  go_enter Tryz.func92, Tryz.ntmps92
  go_wp2_with (at_make; refine wpList_make_own _ rfl _ _ 35 rfl w.heap.size 23 i0 (.agg #[.int .i64 0, .int .i64 0, .int .i64 0]) 3 Tryz.underlying35 hi hz0 hz1 _ _ _ n rfl rfl (by omega) ?b2 ?b3 (Nat.le_refl _) ?_)
  case b2 => rw [hz2]; omega
  case b3 => unfold maxLen; omega
  intro w0 hown0 hgrow0
  go_wp2
  go_loopw [5, 13] (fun out i wr => ∃ k : Nat, k ≤ n ∧ i = .int .i64 k ∧ out = .slice (some ⟨w.heap.size, 0, none⟩) k n ∧
      wr.ownsRow w.heap.size 23 3 (.slice (some ⟨w.heap.size, 0, none⟩) k n) k ((R.take k).flatMap P3.val) ∧ Below w.heap.size w wr)
    (fun _ i _ => n - (intOf i).toNat)
  case atStart => exact ⟨0, Nat.zero_le _, rfl, rfl, hown0, (Below.refl _ _).grown hgrow0 (Nat.le_refl _) (fun k h => by cases h)⟩
  case round =>
    obtain ⟨k, hk, rfl, rfl, hown, hnx⟩ := hrel
    by_cases hlt : k < n
    · obtain ⟨b, q, rfl, hb, hT0⟩ := HC.out k hlt
      have hr : wr.rangeAt b (q + k * 3) (L[k]?.getD p3Z).val := (hT0.kept hnx hb) k (by have := HL.out; omega)
      have K := HK.out k hlt
      have hS := take_flat3 R k (by have := HR.out; omega)
      obtain ⟨t, ht⟩ : ∃ t, L[k]?.getD p3Z = t := ⟨_, rfl⟩
      obtain ⟨u, hu⟩ : ∃ u, R[k]?.getD p3Z = u := ⟨_, rfl⟩
      rw [ht] at hr K
      rw [hu] at K hS
      have hv : t.val = [.int .i64 t.x, .int .i64 t.y, .int .i64 t.z] := rfl
      have HRG := Lib.hid hr
      have HS := Lib.hid hS
      have HKK := Lib.hid K
      have hsz := hnx.size
      clear hr hS K ht hu hT0 HC
      go_wp2_with (first
        | (refine wpList_load_mid rfl 94 _ rfl b (q + k * 3) rfl t.val _ HRG.out Tryz.underlying94 rfl (by rw [s3]; rfl) ?_)
        | (go_at_call 73; refine (HKK.out _).mono ?_; rintro e w2 ⟨rfl, hb2⟩
           have hown2 := owns_kept (hown.alloc (.cells #[.int .i64 t.x, .int .i64 t.y, .int .i64 t.z] 94)) hb2 (Nat.le_refl _)
           have hbb : Below w.heap.size w w2 := (hnx.alloc hnx.size _).trans (hb2.mono (by simp; omega))
           have hsz2 := hbb.size
           clear hown)
        | (at_builtin; refine wpList_append_fits _ rfl (.tmp 17) (.tmp 21) 35 rfl w.heap.size 23 i0 3 Tryz.underlying35 hi hz1 w.heap.size k n _ rfl (hown2.alloc _) ⟨w2.heap.size, 0, none⟩ 1 1 [.int .i64 u.x, .int .i64 u.y, .int .i64 u.z] rfl rfl (cells_new3 _ _ _ _ _) (by intro u hu; simp at hu; rcases hu with rfl | rfl | rfl <;> rfl) (by omega) ?_; intro w1 hown1 hgrow1))
      go_roundw
      case rel => exact ⟨k + 1, by omega, by go_num, rfl, by rw [HS.out]; exact hown1, (hbb.alloc hbb.size _).grown hgrow1 (by simp; omega) (fun j hj => by cases hj; exact Nat.le_refl _)⟩
      case measure => simp [intOf]; omega
    · have HO := Lib.hid hown
      have HX := Lib.hid hnx
      clear hown hnx
      go_wp2
      go_ret
      obtain rfl : k = n := by omega
      have h := HO.out
      rw [List.take_of_length_le (by have := HR.out; omega)] at h
      exact ⟨rfl, h, HX.out⟩
end Go.Proofs.YtggffhmdgceljaaGreatDoor
