/-
  Contract of Print, for a valid sky.
-/
import Derived.Test.YtggffhmdgceljaaGreatDoorRows
import Derived.WalkKit
import Derived.WalkSpells
import Derived.WalkLawsBesides
import Derived.Lib.Hide
import Derived.BigQuiet
import Derived.Deep.QuietTactic
import Derived.Handy
import Derived.Deep.RegionHeld3
import Derived.Deep.RegionWith
import Derived.StillTailTactics
import Derived.RangeFuncNested
import Derived.RangeFuncBound
import Derived.RangeFuncCalls
import Derived.RangeFuncLeaves
import Derived.RangeFuncBox
import Derived.Shelf.Abstract
import Derived.Shelf.RegionOpen
import Derived.OwnWalkIn
import Derived.TacticsInMore
import Derived.LoopNIn
import Derived.LoopIn
import Derived.Maps.AppendAt
import Derived.Test.YtggffhmdgceljaaGreatDoorProg
import Derived.Laws.FloatArith
import Derived.Laws.BitsAllLaws
import Derived.Deep.DeepCutAuto
import Derived.Stop.BytesEq
import Derived.Deep.MidRow
import Derived.Laws.CopyRow
import Derived.WalkMore
import Derived.Deep.DrawnRows
import Derived.Deep.CutBlock
import Derived.Orders
import Derived.LoopTactic
import Derived.Laws.StructEq
import Derived.Deep.RegionLaw
import Derived.RegionTactic
import Derived.StillTail
import Derived.Laws.RangeString
import Derived.Laws.RangeAny
import Derived.Shelf.Strings.Builder1
import Derived.Shelf.Strings.OnBuilder
import Derived.Shelf.LaysM
import Derived.Shelf.Strconv.Itoa3
import Derived.Lib.AppendIntMem
import Derived.Lib.ItoaLen
import Derived.Test.YtggffhmdgceljaaGreatDoorOwaWn
import Derived.Test.YtggffhmdgceljaaGreatDoorOwaXe
import Derived.Test.YtggffhmdgceljaaGreatDoorOwaIb
import Derived.Test.YtggffhmdgceljaaGreatDoorOwaNd
import Derived.Test.YtggffhmdgceljaaGreatDoorOwaId
import Derived.Test.YtggffhmdgceljaaGreatDoorOwaNc
import Derived.Test.YtggffhmdgceljaaGreatDoorOwaNi
import Derived.Test.YtggffhmdgceljaaGreatDoorOwaIx
import Derived.Test.YtggffhmdgceljaaGreatDoorOwaNt
import Derived.Test.YtggffhmdgceljaaGreatDoorOwaWo
import Derived.Test.YtggffhmdgceljaaGreatDoorOwaNu
import Derived.Test.YtggffhmdgceljaaGreatDoorOwaNv
import Derived.Test.YtggffhmdgceljaaGreatDoorOwaNx
import Derived.RowKit
import Derived.Test.YtggffhmdgceljaaGreatDoorOwaWa
import Derived.Test.YtggffhmdgceljaaGreatDoorOwaIl
import Derived.Test.YtggffhmdgceljaaGreatDoorOwaNo
namespace Go.Proofs.YtggffhmdgceljaaGreatDoor
open Go.RowKit
set_option linter.unusedVariables false
set_option linter.unusedSimpArgs false

def sunLine (s : SunV) : List UInt8 := lineL [115, 117, 110] [s.t, s.x, s.y, s.z]
structure SunFit (s : SunV) : Prop where
  t : s.t.natAbs < 2 ^ 40
  x : s.x.natAbs < 2 ^ 40
  y : s.y.natAbs < 2 ^ 40
  z : s.z.natAbs < 2 ^ 40
theorem SunOk.fit {s f : SunV} (h : SunOk s f) : SunFit s := by
  obtain ⟨h1, h2, h3⟩ := h.parts
  have h4 := h.tick
  exact ⟨by omega, by omega, by omega, by omega⟩

set_option maxRecDepth 100000 in
set_option maxHeartbeats 6400000 in
theorem print1_any (s : SunV) (hs : SunFit s) (w : World) (ht : TabAt w) :
    Calls Tryz.prog 95 #[.agg #[.int .i64 s.t, .int .i64 s.x, .int .i64 s.y, .int .i64 s.z]] w fun e w' => e = .returned (strV (sunLine s)) ∧ Below w.heap.size w w' := by
  obtain ⟨W1, hW1⟩ : ∃ W1, (w.alloc (.cells #[.int .i64 s.t, .int .i64 s.x, .int .i64 s.y, .int .i64 s.z] 139)).alloc (.cells #[.int .i64 s.t, .int .i64 s.x, .int .i64 s.y, .int .i64 s.z] 3) = W1 := ⟨_, rfl⟩
  have hB : Below w.heap.size w W1 := by rw [← hW1]; exact ((Below.refl _ _).alloc (Nat.le_refl _) _).alloc (by simp) _
  have hrow : W1.heap[w.heap.size + 1]? = some (.cells #[.int .i64 s.t, .int .i64 s.x, .int .i64 s.y, .int .i64 s.z] 3 (0, 0)) := by
    rw [← hW1]
    have h := World.alloc_heap_new (w.alloc (.cells #[.int .i64 s.t, .int .i64 s.x, .int .i64 s.y, .int .i64 s.z] 139)) (.cells #[.int .i64 s.t, .int .i64 s.x, .int .i64 s.y, .int .i64 s.z] 3)
    rwa [World.size_alloc] at h
  have K := Lib.hid (line_any (w := W1) [115, 117, 110] (w.heap.size + 1) 0 4 4 [s.t, s.x, s.y, s.z] (by decide) rfl (by omega) (lt_of_blk hrow) (ht.on hB)
    (fun j hj => by
      rw [cell_of_row _ (w.heap.size + 1) (0 + j) _ _ (0, 0) hrow]
      match j, hj with
      | 0, _ => rfl
      | 1, _ => rfl
      | 2, _ => rfl
      | 3, _ => rfl)
    (fun j hj => by
      match j, hj with
      | 0, _ => exact hs.t
      | 1, _ => exact hs.x
      | 2, _ => exact hs.y
      | 3, _ => exact hs.z))
  have HB := Lib.hid hB
  clear hB hrow ht hs
  go_enter Tryz.func95, Tryz.ntmps95
  go_wp2_with (first
    | (go_at_call 96; try rw [hW1]
       refine K.out.mono ?_; rintro e w2 ⟨rfl, hb2⟩))
  refine bodyPost_ret (v := strV (sunLine s)) (by simp [results, Tryz.results95, go_sem, strV, sunLine]) rfl ⟨rfl, HB.out.trans (hb2.mono HB.out.size)⟩


set_option maxRecDepth 100000 in
set_option maxHeartbeats 6400000 in
theorem mapped_suns {w : World} (L : List SunV) (b q n c : Nat) (hA : SunsAt w b q L) (hb : b < w.heap.size) (hl : L.length = n) (hn : n ≤ 64) (ht : TabAt w) (hF : ∀ j, j < n → SunFit (L[j]?.getD sunZ)) :
    Calls Tryz.prog 94 #[.slice (some ⟨b, q, none⟩) n c, .func (.func 95) #[] #[]] w fun e w' =>
      e = .returned (.slice (some ⟨w.heap.size, 0, none⟩) n n) ∧ w'.ownsRow w.heap.size 9 1 (.slice (some ⟨w.heap.size, 0, none⟩) n n) n (L.map fun s => strV (sunLine s)) ∧ Below w.heap.size w w' := by
  obtain ⟨i0, hi, hz0, hz1, hz2⟩ := info_parts Tryz.infoStr
  have HA := Lib.hid hA
  have HL := Lib.hid hl
  have HF := Lib.hid hF
  have HT := Lib.hid ht
  have s4 : (Tryz.prog.info? 139).map (·.size) = some 4 := by kernel_rfl
  clear hA hl hF ht
  go_enter Tryz.func94, Tryz.ntmps94
  go_wp2_with (at_make; refine wpList_make_own _ rfl _ _ 156 rfl w.heap.size 9 i0 (.string ⟨#[]⟩) 1 Tryz.underlying156 hi hz0 hz1 _ _ _ n rfl rfl (by omega) ?b2 ?b3 (Nat.le_refl _) ?_)
  case b2 => rw [hz2]; omega
  case b3 => unfold maxLen; omega
  intro w0 hown0 hgrow0
  go_wp2
  go_loopw [5, 13] (fun out i wr => ∃ k : Nat, k ≤ n ∧ i = .int .i64 k ∧ out = .slice (some ⟨w.heap.size, 0, none⟩) k n ∧
      wr.ownsRow w.heap.size 9 1 (.slice (some ⟨w.heap.size, 0, none⟩) k n) k ((L.take k).map fun s => strV (sunLine s)) ∧ Below w.heap.size w wr)
    (fun _ i _ => n - (intOf i).toNat)
  case atStart => exact ⟨0, Nat.zero_le _, rfl, rfl, hown0, (Below.refl _ _).grown hgrow0 (Nat.le_refl _) (fun k h => by cases h)⟩
  case round =>
    obtain ⟨k, hk, rfl, rfl, hown, hnx⟩ := hrel
    by_cases hlt : k < n
    · have hkl : k < L.length := by have := HL.out; omega
      have hr : wr.rangeAt b (q + k * 4) (L[k]?.getD sunZ).val := (HA.out.kept hnx hb) k hkl
      have hfit := HF.out k hlt
      have hS : (L.take (k + 1)).map (fun s => strV (sunLine s)) = (L.take k).map (fun s => strV (sunLine s)) ++ [strV (sunLine (L[k]?.getD sunZ))] := by
        rw [List.take_succ_eq_append_getElem hkl, List.map_append, List.getElem?_eq_getElem hkl]
        rfl
      obtain ⟨t, ht⟩ : ∃ t, L[k]?.getD sunZ = t := ⟨_, rfl⟩
      rw [ht] at hr hfit hS
      have hsz := hnx.size
      obtain ⟨st, hst⟩ : ∃ st, strV (sunLine t) = st := ⟨_, rfl⟩
      have K : ∀ w1 : World, Below w.heap.size w w1 → Calls Tryz.prog 95 #[.agg #[.int .i64 t.t, .int .i64 t.x, .int .i64 t.y, .int .i64 t.z]] w1 fun e w' => e = .returned st ∧ Below w1.heap.size w1 w' := fun w1 hb1 => by
        rw [← hst]
        exact print1_any t hfit w1 (HT.out.on hb1)
      rw [hst] at hS
      have hstr : ∃ sb, st = .string sb := ⟨_, hst.symm⟩
      obtain ⟨sb, rfl⟩ := hstr
      have hv : t.val = [.int .i64 t.t, .int .i64 t.x, .int .i64 t.y, .int .i64 t.z] := rfl
      have HRG := Lib.hid hr
      have HS := Lib.hid hS
      have HKK := Lib.hid K
      clear hr hS K ht hst hfit
      go_wp2_with (first
        | (refine wpList_load_mid rfl 139 _ rfl b (q + k * 4) rfl t.val _ HRG.out Tryz.underlying139 rfl (by rw [s4]; rfl) ?_)
        | (go_at_call 95; refine (HKK.out _ (hnx.alloc hnx.size _)).mono ?_; rintro e w2 ⟨rfl, hb2⟩
           have hown2 := owns_kept (hown.alloc (.cells #[.int .i64 t.t, .int .i64 t.x, .int .i64 t.y, .int .i64 t.z] 139)) hb2 (Nat.le_refl _)
           have hbb : Below w.heap.size w w2 := (hnx.alloc hnx.size _).trans (hb2.mono (by simp; omega))
           have hsz2 := hbb.size
           clear hown)
        | (at_builtin; refine wpList_append_fits _ rfl (.tmp 17) (.tmp 21) 156 rfl w.heap.size 9 i0 1 Tryz.underlying156 hi hz1 w.heap.size k n _ rfl (hown2.alloc _) ⟨w2.heap.size, 0, none⟩ 1 1 [.string sb] rfl rfl (cell_one_new _ _ _) (by intro u hu; simp at hu; subst hu; rfl) (by omega) ?_; intro w1 hown1 hgrow1))
      go_roundw
      case rel => exact ⟨k + 1, by omega, by go_num, rfl, by rw [HS.out]; exact hown1, (hbb.alloc hbb.size _).grown hgrow1 (by simp; omega) (fun j hj => by cases hj; exact Nat.le_refl _)⟩
      case measure => simp [intOf]; omega
    · have HO := Lib.hid hown
      have HX := Lib.hid hnx
      clear hown hnx
      go_wp2
      go_ret
      obtain rfl : k = n := by omega
      have h := HO.out
      rw [List.take_of_length_le (by have := HL.out; omega)] at h
      exact ⟨rfl, h, HX.out⟩
end Go.Proofs.YtggffhmdgceljaaGreatDoor

/-
  Contract of Print, for a valid sky.
-/
namespace Go.Proofs.YtggffhmdgceljaaGreatDoor
open Go.RowKit
set_option linter.unusedVariables false
set_option linter.unusedSimpArgs false

/-- The text of a sky. -/
def skyT (name : List UInt8) (L : List SunV) : List UInt8 := [115, 107, 121, 32] ++ name ++ [10] ++ Lib.join (L.map sunLine) []

set_option maxRecDepth 100000 in
set_option maxHeartbeats 6400000 in
theorem print_ok (s : ByteArray) (L : List SunV) (b q n c : Nat) (w : World) (hA : SunsAt w b q L) (hb : b < w.heap.size) (hl : L.length = n) (h0 : 0 < n) (hn : n ≤ 64) (ht : TabAt w) (hF : ∀ j, j < n → SunFit (L[j]?.getD sunZ)) (hJ : (Lib.join (L.map sunLine) []).length ≤ 140737488355328) (hm : s.size ≤ 1000000)
    (KC : ∀ w1 : World, Below w.heap.size w w1 → Calls Tryz.prog 81 #[.agg #[.string s, .slice (some ⟨b, q, none⟩) n c]] w1 fun e w' => e = .returned (.int .i64 0) ∧ Below w1.heap.size w1 w') :
    Calls Tryz.prog 61 #[.agg #[.string s, .slice (some ⟨b, q, none⟩) n c]] w fun e w' => e = .returned (.tuple #[strV (skyT s.data.toList L), .int .i64 0]) ∧ Below w.heap.size w w' := by
  have HKC := Lib.hid KC
  clear KC
  have HT := Lib.hid ht
  have HM : Hid (∀ w1 : World, Below w.heap.size w w1 → Calls Tryz.prog 94 #[.slice (some ⟨b, q, none⟩) n c, .func (.func 95) #[] #[]] w1 fun e w' => e = .returned (.slice (some ⟨w1.heap.size, 0, none⟩) n n) ∧ w'.ownsRow w1.heap.size 9 1 (.slice (some ⟨w1.heap.size, 0, none⟩) n n) n (L.map fun s => strV (sunLine s)) ∧ Below w1.heap.size w1 w') := Lib.hid fun w1 hw => mapped_suns L b q n c (hA.kept hw hb) (Nat.lt_of_lt_of_le hb hw.size) hl hn (ht.on hw) hF
  obtain ⟨xs, hxs⟩ : ∃ xs : List ByteArray, xs = L.map fun s => (⟨(sunLine s).toArray⟩ : ByteArray) := ⟨_, rfl⟩
  have hxl : xs.length = n := by rw [hxs, List.length_map, hl]
  have hxm : xs.map (fun x : ByteArray => x.data.toList) = L.map sunLine := by rw [hxs, List.map_map]; exact List.map_congr_left fun a _ => rfl
  have hxv : L.map (fun s => strV (sunLine s)) = xs.map Value.string := by rw [hxs, List.map_map]; rfl
  obtain ⟨J, hJJ⟩ : ∃ J : List UInt8, Lib.join (L.map sunLine) [] = J := ⟨_, rfl⟩
  have hsk : skyT s.data.toList L = [115, 107, 121, 32] ++ s.data.toList ++ [10] ++ J := by unfold skyT; rw [hJJ]
  rw [hJJ] at hJ
  have hba : ((((⟨#[115, 107, 121, 32]⟩ : ByteArray) ++ s) ++ ⟨#[10]⟩) ++ ⟨J.toArray⟩) = ⟨([115, 107, 121, 32] ++ s.data.toList ++ [10] ++ J).toArray⟩ := by
    apply ByteArray.ext
    simp [ByteArray.data_append]
  have HXL := Lib.hid hxl
  have HXM : Hid (xs.map (fun x : ByteArray => x.data.toList) = L.map sunLine) := Lib.hid hxm
  have HXV := Lib.hid hxv
  have q1 : ¬ 9223372036854775807 < 4 + s.size := by omega
  have q2 : ¬ 9223372036854775807 < 4 + s.size + 1 := by omega
  have q3 : ¬ 9223372036854775807 < 4 + s.size + 1 + J.length := by omega
  have HJ := Lib.hid hJ
  have HJJ := Lib.hid hJJ
  have HBA := Lib.hid hba
  rw [hsk]
  clear hm hA hb hl ht hF hJ hxs hxl hxm hxv hsk hba hJJ
  obtain ⟨W0, hW0⟩ : ∃ W0, (w.alloc (.cells #[.string s, .slice (some ⟨b, q, none⟩) n c] 80)) = W0 := ⟨_, rfl⟩
  have K0 : Hid (Kp w W0 [(w.heap.size, (.cells #[.string s, .slice (some ⟨b, q, none⟩) n c] 80 (0, 0)))]) := Lib.hid (by
    rw [← hW0]
    have k := ((Kp.none w).alloc (.cells #[.string s, .slice (some ⟨b, q, none⟩) n c] 80))
    simpa using k)
  go_enter Tryz.func61, Tryz.ntmps61
  go_upto_region 1 with fail
  try rw [hW0]
  clear hW0
  have hKC := Lib.hid (HKC.out W0 (Kp.below K0.out))
  obtain ⟨c0, c1⟩ := cells2 (K0.out.2 _ (.head _))
  go_upto_region 4 with (first
    | (go_at_call 81; (with_reducible refine hKC.out.mono ?_); rintro e w2 ⟨rfl, hb⟩; have K2 := Lib.hid (K0.out.call hb); clear hb K0 c0 c1 hKC HKC))
  obtain ⟨c0, c1⟩ := cells2 (K2.out.2 _ (.head _))
  have hM := Lib.hid (HM.out w2 (Kp.below K2.out))
  clear HM
  go_upto_region 5 with (first
    | (go_at_call 94; (with_reducible refine hM.out.mono ?_); rintro e w3 ⟨rfl, hrow, hb⟩; have K3 := Lib.hid (K2.out.call hb); have HROW := Lib.hid hrow; clear hb hrow K2 c0 c1 hM))
  obtain ⟨g, hg⟩ : ∃ g, w2.heap.size = g := ⟨_, rfl⟩
  rw [hg] at HROW ⊢
  rw [HXV.out] at HROW
  have hgl : g < w3.heap.size := by
    rcases HROW.out.2 with ⟨h, _⟩ | ⟨g', cap, cur, e, _, hgb, _⟩
    · cases h
    · injection e with e1
      injection e1 with e2
      injection e2 with e3
      rw [e3]
      exact lt_of_blk hgb
  have KJ : Hid (∀ w1 : World, Blw w3.heap.size w3 w1 → Calls Tryz.prog 97 #[.slice (some ⟨g, 0, none⟩) n n, .string ⟨#[]⟩] w1 fun e w' => e = .returned (.string ⟨J.toArray⟩) ∧ Below w1.heap.size w1 w') := Lib.hid fun w1 hb => by
    have hb : Below w3.heap.size w3 w1 := hb
    have h := Tryz.strings_Join g 0 n xs ⟨#[]⟩ w1 (fun j x hx => by rw [Nat.zero_add]; exact (hb.cell (p := ⟨g, j, none⟩) hgl).trans (owns_cell HROW.out (by rw [List.getElem?_map, hx]; rfl))) (Nat.lt_of_lt_of_le hgl hb.size) (by rw [HXL.out]; omega) (by rw [HXL.out]; exact Nat.le_refl _) (by rw [HXM.out]; have := HJ.out; have e := HJJ.out; simp only [List.toList_toArray] at *; rw [e]; exact this)
    rw [HXL.out, HXM.out, show Lib.join (L.map sunLine) (⟨#[]⟩ : ByteArray).data.toList = J from HJJ.out] at h
    exact h
  apply wp_region_gives 8 (fun w' => Blw w3.heap.size w3 w') [.pointer (some ⟨w.heap.size, 0, none⟩), .string s, .string ((⟨#[115, 107, 121, 32]⟩ : ByteArray) ++ s), .string ((⟨#[115, 107, 121, 32]⟩ : ByteArray) ++ s ++ ⟨#[10]⟩), .slice (some ⟨g, 0, none⟩) n n, .string ⟨J.toArray⟩, .string ((⟨#[115, 107, 121, 32]⟩ : ByteArray) ++ s ++ ⟨#[10]⟩ ++ ⟨J.toArray⟩), .string ((⟨#[115, 107, 121, 32]⟩ : ByteArray) ++ s ++ ⟨#[10]⟩ ++ ⟨J.toArray⟩)] (by kernel_rfl) (by kernel_rfl) (by kernel_rfl) (show Below _ _ _ from (Below.refl _ _).drew)
  case haF =>
    simp [putJs, Act.put, List.range, List.range.loop]
    exact rfl
  case h =>
    have hBx := K3.out.2 _ (.head _)
    simp only [List.take_succ_cons, List.take_zero, GivesL]
    clear K3
    refine ⟨?_, ?_, ?_, ?_, ?_, ?_, ?_, ?_, trivial⟩
    all_goals
      intro w1 hw1
      obtain ⟨x_0, x_1⟩ := cells2 (((show Below _ _ _ from hw1).block _ (lt_of_blk hBx)).trans hBx)
      unfold Oper.wp
      simp only [execOp]
      go_simp <;> first
        | exact ⟨rfl, hw1⟩
        | ((with_reducible refine (KJ.out _ hw1).mono ?_); rintro e w2 ⟨rfl, hb⟩; exact ⟨rfl, below_call hb hw1⟩)
  case ht =>
    intro w5 hw5
    have K5 := Lib.hid (K3.out.call (show Below _ _ _ from hw5))
    clear hw5 K3
    simp only [List.drop_succ_cons, List.drop_zero]
    go_wp2_with fail
    rw [HBA.out]
    have HB := Lib.hid (Kp.below K5.out)
    go_ret2
    exact ⟨rfl, HB.out⟩
end Go.Proofs.YtggffhmdgceljaaGreatDoor
