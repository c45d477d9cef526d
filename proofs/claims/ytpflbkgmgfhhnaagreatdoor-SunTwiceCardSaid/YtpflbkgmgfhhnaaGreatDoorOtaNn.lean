/-
  Contract of Highest, for a valid sky.
-/
import Derived.Test.YtpflbkgmgfhhnaaGreatDoorRows
import Derived.WalkKit
import Derived.WalkSpells
import Derived.WalkLawsBesides
import Derived.Lib.Hide
import Derived.BigQuiet
import Derived.Deep.QuietTactic
import Derived.Laws.FloatArith
import Derived.Laws.BitsAllLaws
import Derived.Deep.CutBlock
import Derived.Deep.DeepCutAuto
import Derived.Deep.RegionHeld3
import Derived.StillTailTactics
import Derived.LoopTactic
import Derived.Handy
import Derived.Laws.StructEq
import Derived.RangeFuncNested
import Derived.RangeFuncBound
import Derived.RangeFuncCalls
import Derived.RangeFuncLeaves
import Derived.RangeFuncBox
import Derived.Shelf.Abstract
import Derived.Shelf.RegionOpen
import Derived.OwnWalkIn
import Derived.TacticsInMore
import Derived.LoopNIn
import Derived.LoopIn
import Derived.Maps.AppendAt
import Derived.Test.YtpflbkgmgfhhnaaGreatDoorProg
import Derived.Deep.RegionWith
import Derived.Stop.BytesEq
import Derived.Deep.MidRow
import Derived.Laws.CopyRow
import Derived.WalkMore
import Derived.Deep.DrawnRows
import Derived.Deep.RegionLaw
import Derived.Orders
import Derived.RegionTactic
import Derived.StillTail
import Derived.Laws.RangeString
import Derived.Laws.RangeAny
import Derived.Test.YtpflbkgmgfhhnaaGreatDoorOtaFlo
import Derived.Test.YtpflbkgmgfhhnaaGreatDoorOtaXc
import Derived.Test.YtpflbkgmgfhhnaaGreatDoorOtaXe
import Derived.Test.YtpflbkgmgfhhnaaGreatDoorOtaIb
import Derived.Test.YtpflbkgmgfhhnaaGreatDoorOtaFc
import Derived.Test.YtpflbkgmgfhhnaaGreatDoorOtaId
import Derived.Test.YtpflbkgmgfhhnaaGreatDoorOtaNd
import Derived.Test.YtpflbkgmgfhhnaaGreatDoorOtaNc
import Derived.Test.YtpflbkgmgfhhnaaGreatDoorOtaNh
import Derived.Test.YtpflbkgmgfhhnaaGreatDoorOtaNi
import Derived.Shelf.Strings.Builder1
import Derived.Shelf.Strings.OnBuilder
import Derived.Shelf.LaysM
import Derived.Shelf.Strconv.Itoa3
import Derived.Lib.AppendIntMem
import Derived.Lib.ItoaLen
import Derived.Test.YtpflbkgmgfhhnaaGreatDoorOtaIx
import Derived.Test.YtpflbkgmgfhhnaaGreatDoorOtaNt
import Derived.Test.YtpflbkgmgfhhnaaGreatDoorOtaWo
import Derived.Test.YtpflbkgmgfhhnaaGreatDoorOtaNu
import Derived.Test.YtpflbkgmgfhhnaaGreatDoorOtaNv
import Derived.Test.YtpflbkgmgfhhnaaGreatDoorOtaNx
import Derived.Test.YtpflbkgmgfhhnaaGreatDoorOtaWe
namespace Go.Proofs.YtpflbkgmgfhhnaaGreatDoor
open Go.RowKit
set_option linter.unusedVariables false
set_option linter.unusedSimpArgs false

/-- The index of the highest of the first suns. -/
def hiTo (L : List SunV) : Nat → Nat
  | 0 => 0
  | k + 1 => if (L[hiTo L k]?.getD sunZ).z < (L[k]?.getD sunZ).z then k else hiTo L k
theorem hiTo_le (L : List SunV) : ∀ k, hiTo L k ≤ k
  | 0 => Nat.le_refl _
  | k + 1 => by
    have := hiTo_le L k
    unfold hiTo
    split <;> omega
theorem hiTo_lt (L : List SunV) {k n : Nat} (h0 : 0 < n) (h : k ≤ n) : hiTo L k < n := by
  cases k with
  | zero => exact h0
  | succ k =>
    have := hiTo_le L k
    unfold hiTo
    split <;> omega

set_option maxRecDepth 100000 in
set_option maxHeartbeats 6400000 in
theorem highest_ok (s : ByteArray) (L : List SunV) (b q n c : Nat) (w : World) (hA : SunsAt w b q L) (hb : b < w.heap.size) (hn : L.length = n) (h0 : 0 < n) (hm : n ≤ 64)
    (KC : ∀ w1 : World, Below w.heap.size w w1 → Calls Tryz.prog 77 #[.agg #[.string s, .slice (some ⟨b, q, none⟩) n c]] w1 fun e w' => e = .returned (.int .i64 0) ∧ Below w1.heap.size w1 w') :
    Calls Tryz.prog 53 #[.agg #[.string s, .slice (some ⟨b, q, none⟩) n c]] w fun e w' => e = .returned (.tuple #[.int .i64 (hiTo L n : Nat), .int .i64 0]) ∧ Below w.heap.size w w' := by
  have HKC := Lib.hid KC
  clear KC
  have HA : Hid (∀ (k : Nat) (w1 : World), k < n → Below w.heap.size w w1 → w1.rangeAt b (q + k * 4) (L[k]?.getD sunZ).val) := Lib.hid fun k w1 hk hw => hA.kept hw hb k (by omega)
  have s4 : (Tryz.prog.info? 126).map (·.size) = some 4 := by kernel_rfl
  have i3 : (n : Int) ≤ 64 := by omega
  clear hA hb hn
  obtain ⟨W0, hW0⟩ : ∃ W0, (w.alloc (.cells #[.string s, .slice (some ⟨b, q, none⟩) n c] 90)) = W0 := ⟨_, rfl⟩
  have K0 : Hid (Kp w W0 [(w.heap.size, (.cells #[.string s, .slice (some ⟨b, q, none⟩) n c] 90 (0, 0)))]) := Lib.hid (by
    rw [← hW0]
    have k := ((Kp.none w).alloc (.cells #[.string s, .slice (some ⟨b, q, none⟩) n c] 90))
    simpa using k)
  go_enter Tryz.func53, Tryz.ntmps53
  go_upto_region 1 with fail
  try rw [hW0]
  clear hW0
  have hKC := Lib.hid (HKC.out W0 (Kp.below K0.out))
  obtain ⟨c0, c1⟩ := cells2 (K0.out.2 _ (.head _))
  go_upto_region 4 with (first
    | (go_at_call 77; (with_reducible refine hKC.out.mono ?_); rintro e w2 ⟨rfl, hb⟩; have K2 := Lib.hid (K0.out.call hb); clear hb K0 c0 c1 hKC HKC))
  obtain ⟨c0, c1⟩ := cells2 (K2.out.2 _ (.head _))
  go_wp2_with fail
  clear c0 c1
  go_loopw [5, 16] (fun hi i wr => ∃ k : Nat, k ≤ n ∧ i = .int .i64 k ∧ hi = .int .i64 (hiTo L k : Nat) ∧ Hid (Kp w wr [(w.heap.size, (.cells #[.string s, .slice (some ⟨b, q, none⟩) n c] 90 (0, 0)))])) (fun _ i _ => n - (intOf i).toNat)
  case atStart => exact ⟨0, Nat.zero_le _, rfl, rfl, K2⟩
  case round =>
    obtain ⟨k, hk, rfl, rfl, hkp⟩ := hrel
    clear K2
    by_cases hlt : k < n
    · have hr := HA.out k wr hlt (Kp.below hkp.out)
      have hh := hiTo_lt L h0 hk
      obtain ⟨sv, hsv⟩ : ∃ s, L[k]?.getD sunZ = s := ⟨_, rfl⟩
      obtain ⟨hi, hhi⟩ : ∃ hi, hiTo L k = hi := ⟨_, rfl⟩
      rw [hsv] at hr
      rw [hhi] at hh ⊢
      have hv : sv.val = [.int .i64 sv.t, .int .i64 sv.x, .int .i64 sv.y, .int .i64 sv.z] := rfl
      have HR := Lib.hid hr
      clear hr
      go_upto_region 8 with (first
        | (refine wpList_load_mid rfl 126 _ rfl b (q + k * 4) rfl sv.val _ HR.out Tryz.underlying126 rfl (by rw [s4]; rfl) ?_))
      refine wp_world (fun w' => Kp w w' [(wr.heap.size, (.cells #[.int .i64 sv.t, .int .i64 sv.x, .int .i64 sv.y, .int .i64 sv.z] 126 (0, 0))), (w.heap.size, (.cells #[.string s, .slice (some ⟨b, q, none⟩) n c] 90 (0, 0)))]) (by exact hkp.out.alloc (.cells #[.int .i64 sv.t, .int .i64 sv.x, .int .i64 sv.y, .int .i64 sv.z] 126)) fun w4 k4 => ?_
      have K4 := Lib.hid k4
      clear k4
      obtain ⟨B7, hB7⟩ : ∃ B7, wr.heap.size = B7 := ⟨_, rfl⟩
      rw [hB7] at K4 ⊢
      obtain ⟨x0, x1, x2, x3⟩ := cells4 (K4.out.2 _ (.head _))
      obtain ⟨c0, c1⟩ := cells2 (K4.out.2 _ (.tail _ (.head _)))
      have hg := HA.out hi w4 hh (Kp.below K4.out)
      obtain ⟨sh, hsh⟩ : ∃ s, L[hi]?.getD sunZ = s := ⟨_, rfl⟩
      rw [hsh] at hg
      have g3 := hg 3 _ rfl
      have xh : ∀ w1, (Instr.indexAt 88 (.slice (some ⟨b, q, none⟩) n c) (.int .i64 (hi : Int))).run Tryz.prog w1 = .ok (.pointer (some ⟨b, q + hi * 4, none⟩)) w1 := fun w1 => sun_index b q n c hi hh w1
      obtain ⟨oh, hoh⟩ : ∃ oh, q + hi * 4 = oh := ⟨_, rfl⟩
      simp only [hoh] at xh
      rw [hoh] at g3
      have hnext : hiTo L (k + 1) = if sh.z < sv.z then k else hi := by rw [hiTo, hhi, hsh, hsv]
      have HN := Lib.hid hnext
      clear hg hoh hhi hsh hsv hnext HR hv hB7
      by_cases hz : sh.z < sv.z
      · rw [if_pos hz] at HN
        go_quiet (fail)
        go_wp2_with fail
        go_roundw
        case rel => exact ⟨k + 1, by omega, by go_num, by rw [HN.out], Lib.hid ((K4.out.subs fun p hp => .tail _ hp).call (below_drewN (Below.refl _ _) _))⟩
        case measure => simp [intOf]; omega
      · rw [if_neg hz] at HN
        go_quiet (fail)
        go_wp2_with fail
        go_roundw
        case rel => exact ⟨k + 1, by omega, by go_num, by rw [HN.out], Lib.hid ((K4.out.subs fun p hp => .tail _ hp).call (below_drewN (Below.refl _ _) _))⟩
        case measure => simp [intOf]; omega
    · obtain rfl : k = n := by omega
      go_wp2_with fail
      go_ret2
      exact ⟨rfl, Kp.below hkp.out⟩
end Go.Proofs.YtpflbkgmgfhhnaaGreatDoor

/-
  Contract of Print, for a valid sky.
-/
namespace Go.Proofs.YtpflbkgmgfhhnaaGreatDoor
open Go.RowKit
set_option linter.unusedVariables false
set_option linter.unusedSimpArgs false

def sunLine (s : SunV) : List UInt8 := lineL [115, 117, 110] [s.t, s.x, s.y, s.z]
structure SunFit (s : SunV) : Prop where
  t : s.t.natAbs < 2 ^ 40
  x : s.x.natAbs < 2 ^ 40
  y : s.y.natAbs < 2 ^ 40
  z : s.z.natAbs < 2 ^ 40
theorem SunOk.fit {s f : SunV} (h : SunOk s f) : SunFit s := by
  obtain ⟨h1, h2, h3⟩ := h.parts
  have h4 := h.tick
  exact ⟨by omega, by omega, by omega, by omega⟩

set_option maxRecDepth 100000 in
set_option maxHeartbeats 6400000 in
theorem print1_any (s : SunV) (hs : SunFit s) (w : World) (ht : TabAt w) :
    Calls Tryz.prog 88 #[.agg #[.int .i64 s.t, .int .i64 s.x, .int .i64 s.y, .int .i64 s.z]] w fun e w' => e = .returned (strV (sunLine s)) ∧ Below w.heap.size w w' := by
  obtain ⟨W1, hW1⟩ : ∃ W1, (w.alloc (.cells #[.int .i64 s.t, .int .i64 s.x, .int .i64 s.y, .int .i64 s.z] 126)).alloc (.cells #[.int .i64 s.t, .int .i64 s.x, .int .i64 s.y, .int .i64 s.z] 3) = W1 := ⟨_, rfl⟩
  have hB : Below w.heap.size w W1 := by rw [← hW1]; exact ((Below.refl _ _).alloc (Nat.le_refl _) _).alloc (by simp) _
  have hrow : W1.heap[w.heap.size + 1]? = some (.cells #[.int .i64 s.t, .int .i64 s.x, .int .i64 s.y, .int .i64 s.z] 3 (0, 0)) := by
    rw [← hW1]
    have h := World.alloc_heap_new (w.alloc (.cells #[.int .i64 s.t, .int .i64 s.x, .int .i64 s.y, .int .i64 s.z] 126)) (.cells #[.int .i64 s.t, .int .i64 s.x, .int .i64 s.y, .int .i64 s.z] 3)
    rwa [World.size_alloc] at h
  have K := Lib.hid (line_any (w := W1) [115, 117, 110] (w.heap.size + 1) 0 4 4 [s.t, s.x, s.y, s.z] (by decide) rfl (by omega) (lt_of_blk hrow) (ht.on hB)
    (fun j hj => by
      rw [cell_of_row _ (w.heap.size + 1) (0 + j) _ _ (0, 0) hrow]
      match j, hj with
      | 0, _ => rfl
      | 1, _ => rfl
      | 2, _ => rfl
      | 3, _ => rfl)
    (fun j hj => by
      match j, hj with
      | 0, _ => exact hs.t
      | 1, _ => exact hs.x
      | 2, _ => exact hs.y
      | 3, _ => exact hs.z))
  have HB := Lib.hid hB
  clear hB hrow ht hs
  go_enter Tryz.func88, Tryz.ntmps88
  go_wp2_with (first
    | (go_at_call 89; try rw [hW1]
       refine K.out.mono ?_; rintro e w2 ⟨rfl, hb2⟩))
  refine bodyPost_ret (v := strV (sunLine s)) (by simp [results, Tryz.results88, go_sem, strV, sunLine]) rfl ⟨rfl, HB.out.trans (hb2.mono HB.out.size)⟩


set_option maxRecDepth 100000 in
set_option maxHeartbeats 6400000 in
theorem mapped_suns {w : World} (L : List SunV) (b q n c : Nat) (hA : SunsAt w b q L) (hb : b < w.heap.size) (hl : L.length = n) (hn : n ≤ 64) (ht : TabAt w) (hF : ∀ j, j < n → SunFit (L[j]?.getD sunZ)) :
    Calls Tryz.prog 87 #[.slice (some ⟨b, q, none⟩) n c, .func (.func 88) #[] #[]] w fun e w' =>
      e = .returned (.slice (some ⟨w.heap.size, 0, none⟩) n n) ∧ w'.ownsRow w.heap.size 9 1 (.slice (some ⟨w.heap.size, 0, none⟩) n n) n (L.map fun s => strV (sunLine s)) ∧ Below w.heap.size w w' := by
  obtain ⟨i0, hi, hz0, hz1, hz2⟩ := info_parts Tryz.infoStr
  have HA := Lib.hid hA
  have HL := Lib.hid hl
  have HF := Lib.hid hF
  have HT := Lib.hid ht
  have s4 : (Tryz.prog.info? 126).map (·.size) = some 4 := by kernel_rfl
  clear hA hl hF ht
  go_enter Tryz.func87, Tryz.ntmps87
  go_wp2_with (at_make; refine wpList_make_own _ rfl _ _ 145 rfl w.heap.size 9 i0 (.string ⟨#[]⟩) 1 Tryz.underlying145 hi hz0 hz1 _ _ _ n rfl rfl (by omega) ?b2 ?b3 (Nat.le_refl _) ?_)
  case b2 => rw [hz2]; omega
  case b3 => unfold maxLen; omega
  intro w0 hown0 hgrow0
  go_wp2
  go_loopw [5, 13] (fun out i wr => ∃ k : Nat, k ≤ n ∧ i = .int .i64 k ∧ out = .slice (some ⟨w.heap.size, 0, none⟩) k n ∧
      wr.ownsRow w.heap.size 9 1 (.slice (some ⟨w.heap.size, 0, none⟩) k n) k ((L.take k).map fun s => strV (sunLine s)) ∧ Below w.heap.size w wr)
    (fun _ i _ => n - (intOf i).toNat)
  case atStart => exact ⟨0, Nat.zero_le _, rfl, rfl, hown0, (Below.refl _ _).grown hgrow0 (Nat.le_refl _) (fun k h => by cases h)⟩
  case round =>
    obtain ⟨k, hk, rfl, rfl, hown, hnx⟩ := hrel
    by_cases hlt : k < n
    · have hkl : k < L.length := by have := HL.out; omega
      have hr : wr.rangeAt b (q + k * 4) (L[k]?.getD sunZ).val := (HA.out.kept hnx hb) k hkl
      have hfit := HF.out k hlt
      have hS : (L.take (k + 1)).map (fun s => strV (sunLine s)) = (L.take k).map (fun s => strV (sunLine s)) ++ [strV (sunLine (L[k]?.getD sunZ))] := by
        rw [List.take_succ_eq_append_getElem hkl, List.map_append, List.getElem?_eq_getElem hkl]
        rfl
      obtain ⟨t, ht⟩ : ∃ t, L[k]?.getD sunZ = t := ⟨_, rfl⟩
      rw [ht] at hr hfit hS
      have hsz := hnx.size
      obtain ⟨st, hst⟩ : ∃ st, strV (sunLine t) = st := ⟨_, rfl⟩
      have K : ∀ w1 : World, Below w.heap.size w w1 → Calls Tryz.prog 88 #[.agg #[.int .i64 t.t, .int .i64 t.x, .int .i64 t.y, .int .i64 t.z]] w1 fun e w' => e = .returned st ∧ Below w1.heap.size w1 w' := fun w1 hb1 => by
        rw [← hst]
        exact print1_any t hfit w1 (HT.out.on hb1)
      rw [hst] at hS
      have hstr : ∃ sb, st = .string sb := ⟨_, hst.symm⟩
      obtain ⟨sb, rfl⟩ := hstr
      have hv : t.val = [.int .i64 t.t, .int .i64 t.x, .int .i64 t.y, .int .i64 t.z] := rfl
      have HRG := Lib.hid hr
      have HS := Lib.hid hS
      have HKK := Lib.hid K
      clear hr hS K ht hst hfit
      go_wp2_with (first
        | (refine wpList_load_mid rfl 126 _ rfl b (q + k * 4) rfl t.val _ HRG.out Tryz.underlying126 rfl (by rw [s4]; rfl) ?_)
        | (go_at_call 88; refine (HKK.out _ (hnx.alloc hnx.size _)).mono ?_; rintro e w2 ⟨rfl, hb2⟩
           have hown2 := owns_kept (hown.alloc (.cells #[.int .i64 t.t, .int .i64 t.x, .int .i64 t.y, .int .i64 t.z] 126)) hb2 (Nat.le_refl _)
           have hbb : Below w.heap.size w w2 := (hnx.alloc hnx.size _).trans (hb2.mono (by simp; omega))
           have hsz2 := hbb.size
           clear hown)
        | (at_builtin; refine wpList_append_fits _ rfl (.tmp 17) (.tmp 21) 145 rfl w.heap.size 9 i0 1 Tryz.underlying145 hi hz1 w.heap.size k n _ rfl (hown2.alloc _) ⟨w2.heap.size, 0, none⟩ 1 1 [.string sb] rfl rfl (cell_one_new _ _ _) (by intro u hu; simp at hu; subst hu; rfl) (by omega) ?_; intro w1 hown1 hgrow1))
      go_roundw
      case rel => exact ⟨k + 1, by omega, by go_num, rfl, by rw [HS.out]; exact hown1, (hbb.alloc hbb.size _).grown hgrow1 (by simp; omega) (fun j hj => by cases hj; exact Nat.le_refl _)⟩
      case measure => simp [intOf]; omega
    · have HO := Lib.hid hown
      have HX := Lib.hid hnx
      clear hown hnx
      go_wp2
      go_ret
      obtain rfl : k = n := by omega
      have h := HO.out
      rw [List.take_of_length_le (by have := HL.out; omega)] at h
      exact ⟨rfl, h, HX.out⟩
end Go.Proofs.YtpflbkgmgfhhnaaGreatDoor
