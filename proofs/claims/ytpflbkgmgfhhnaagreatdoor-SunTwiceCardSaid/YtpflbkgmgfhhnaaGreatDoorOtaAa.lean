/-
  Contract of Print, for a valid sky.
-/
import Derived.Test.YtpflbkgmgfhhnaaGreatDoorRows
import Derived.WalkKit
import Derived.WalkSpells
import Derived.WalkLawsBesides
import Derived.Lib.Hide
import Derived.BigQuiet
import Derived.Deep.QuietTactic
import Derived.Laws.FloatArith
import Derived.Laws.BitsAllLaws
import Derived.Deep.CutBlock
import Derived.Deep.DeepCutAuto
import Derived.Deep.RegionHeld3
import Derived.StillTailTactics
import Derived.LoopTactic
import Derived.Handy
import Derived.Laws.StructEq
import Derived.RangeFuncNested
import Derived.RangeFuncBound
import Derived.RangeFuncCalls
import Derived.RangeFuncLeaves
import Derived.RangeFuncBox
import Derived.Shelf.Abstract
import Derived.Shelf.RegionOpen
import Derived.OwnWalkIn
import Derived.TacticsInMore
import Derived.LoopNIn
import Derived.LoopIn
import Derived.Maps.AppendAt
import Derived.Test.YtpflbkgmgfhhnaaGreatDoorProg
import Derived.Deep.RegionWith
import Derived.Stop.BytesEq
import Derived.Deep.MidRow
import Derived.Laws.CopyRow
import Derived.WalkMore
import Derived.Deep.DrawnRows
import Derived.Deep.RegionLaw
import Derived.Orders
import Derived.RegionTactic
import Derived.StillTail
import Derived.Laws.RangeString
import Derived.Laws.RangeAny
import Derived.Shelf.Strings.Builder1
import Derived.Shelf.Strings.OnBuilder
import Derived.Shelf.LaysM
import Derived.Shelf.Strconv.Itoa3
import Derived.Lib.AppendIntMem
import Derived.Lib.ItoaLen
import Derived.RowKit
import Derived.Test.YtpflbkgmgfhhnaaGreatDoorOtaWa
import Derived.Test.YtpflbkgmgfhhnaaGreatDoorOtaFlo
import Derived.Test.YtpflbkgmgfhhnaaGreatDoorOtaXc
import Derived.Test.YtpflbkgmgfhhnaaGreatDoorOtaXe
import Derived.Test.YtpflbkgmgfhhnaaGreatDoorOtaIb
import Derived.Test.YtpflbkgmgfhhnaaGreatDoorOtaId
import Derived.Test.YtpflbkgmgfhhnaaGreatDoorOtaIl
import Derived.Test.YtpflbkgmgfhhnaaGreatDoorOtaNd
import Derived.Test.YtpflbkgmgfhhnaaGreatDoorOtaNc
import Derived.Test.YtpflbkgmgfhhnaaGreatDoorOtaNi
import Derived.Test.YtpflbkgmgfhhnaaGreatDoorOtaIx
import Derived.Test.YtpflbkgmgfhhnaaGreatDoorOtaNt
import Derived.Test.YtpflbkgmgfhhnaaGreatDoorOtaWo
import Derived.Test.YtpflbkgmgfhhnaaGreatDoorOtaNv
import Derived.Test.YtpflbkgmgfhhnaaGreatDoorOtaNx
import Derived.Test.YtpflbkgmgfhhnaaGreatDoorOtaWe
import Derived.Test.YtpflbkgmgfhhnaaGreatDoorOtaNn
import Derived.Test.YtpflbkgmgfhhnaaGreatDoorOtaNo
import Derived.Test.YtpflbkgmgfhhnaaGreatDoorOtaNr
namespace Go.Proofs.YtpflbkgmgfhhnaaGreatDoor
open Go.RowKit
set_option linter.unusedVariables false
set_option linter.unusedSimpArgs false

/-- The text of a sky. -/
def skyT (name : List UInt8) (L : List SunV) : List UInt8 := [115, 107, 121, 32] ++ name ++ [10] ++ Lib.join (L.map sunLine) []

set_option maxRecDepth 100000 in
set_option maxHeartbeats 6400000 in
theorem print_ok (s : ByteArray) (L : List SunV) (b q n c : Nat) (w : World) (hA : SunsAt w b q L) (hb : b < w.heap.size) (hl : L.length = n) (h0 : 0 < n) (hn : n ≤ 64) (ht : TabAt w) (hF : ∀ j, j < n → SunFit (L[j]?.getD sunZ)) (hJ : (Lib.join (L.map sunLine) []).length ≤ 140737488355328) (hm : s.size ≤ 1000000)
    (KC : ∀ w1 : World, Below w.heap.size w w1 → Calls Tryz.prog 77 #[.agg #[.string s, .slice (some ⟨b, q, none⟩) n c]] w1 fun e w' => e = .returned (.int .i64 0) ∧ Below w1.heap.size w1 w') :
    Calls Tryz.prog 57 #[.agg #[.string s, .slice (some ⟨b, q, none⟩) n c]] w fun e w' => e = .returned (.tuple #[strV (skyT s.data.toList L), .int .i64 0]) ∧ Below w.heap.size w w' := by
  have HKC := Lib.hid KC
  clear KC
  have HT := Lib.hid ht
  have HM : Hid (∀ w1 : World, Below w.heap.size w w1 → Calls Tryz.prog 87 #[.slice (some ⟨b, q, none⟩) n c, .func (.func 88) #[] #[]] w1 fun e w' => e = .returned (.slice (some ⟨w1.heap.size, 0, none⟩) n n) ∧ w'.ownsRow w1.heap.size 9 1 (.slice (some ⟨w1.heap.size, 0, none⟩) n n) n (L.map fun s => strV (sunLine s)) ∧ Below w1.heap.size w1 w') := Lib.hid fun w1 hw => mapped_suns L b q n c (hA.kept hw hb) (Nat.lt_of_lt_of_le hb hw.size) hl hn (ht.on hw) hF
  obtain ⟨xs, hxs⟩ : ∃ xs : List ByteArray, xs = L.map fun s => (⟨(sunLine s).toArray⟩ : ByteArray) := ⟨_, rfl⟩
  have hxl : xs.length = n := by rw [hxs, List.length_map, hl]
  have hxm : xs.map (fun x : ByteArray => x.data.toList) = L.map sunLine := by rw [hxs, List.map_map]; exact List.map_congr_left fun a _ => rfl
  have hxv : L.map (fun s => strV (sunLine s)) = xs.map Value.string := by rw [hxs, List.map_map]; rfl
  obtain ⟨J, hJJ⟩ : ∃ J : List UInt8, Lib.join (L.map sunLine) [] = J := ⟨_, rfl⟩
  have hsk : skyT s.data.toList L = [115, 107, 121, 32] ++ s.data.toList ++ [10] ++ J := by unfold skyT; rw [hJJ]
  rw [hJJ] at hJ
  have hba : ((((⟨#[115, 107, 121, 32]⟩ : ByteArray) ++ s) ++ ⟨#[10]⟩) ++ ⟨J.toArray⟩) = ⟨([115, 107, 121, 32] ++ s.data.toList ++ [10] ++ J).toArray⟩ := by
    apply ByteArray.ext
    simp [ByteArray.data_append]
  have HXL := Lib.hid hxl
  have HXM : Hid (xs.map (fun x : ByteArray => x.data.toList) = L.map sunLine) := Lib.hid hxm
  have HXV := Lib.hid hxv
  have q1 : ¬ 9223372036854775807 < 4 + s.size := by omega
  have q2 : ¬ 9223372036854775807 < 4 + s.size + 1 := by omega
  have q3 : ¬ 9223372036854775807 < 4 + s.size + 1 + J.length := by omega
  have HJ := Lib.hid hJ
  have HJJ := Lib.hid hJJ
  have HBA := Lib.hid hba
  rw [hsk]
  clear hm hA hb hl ht hF hJ hxs hxl hxm hxv hsk hba hJJ
  obtain ⟨W0, hW0⟩ : ∃ W0, (w.alloc (.cells #[.string s, .slice (some ⟨b, q, none⟩) n c] 90)) = W0 := ⟨_, rfl⟩
  have K0 : Hid (Kp w W0 [(w.heap.size, (.cells #[.string s, .slice (some ⟨b, q, none⟩) n c] 90 (0, 0)))]) := Lib.hid (by
    rw [← hW0]
    have k := ((Kp.none w).alloc (.cells #[.string s, .slice (some ⟨b, q, none⟩) n c] 90))
    simpa using k)
  go_enter Tryz.func57, Tryz.ntmps57
  go_upto_region 1 with fail
  try rw [hW0]
  clear hW0
  have hKC := Lib.hid (HKC.out W0 (Kp.below K0.out))
  obtain ⟨c0, c1⟩ := cells2 (K0.out.2 _ (.head _))
  go_upto_region 4 with (first
    | (go_at_call 77; (with_reducible refine hKC.out.mono ?_); rintro e w2 ⟨rfl, hb⟩; have K2 := Lib.hid (K0.out.call hb); clear hb K0 c0 c1 hKC HKC))
  obtain ⟨c0, c1⟩ := cells2 (K2.out.2 _ (.head _))
  have hM := Lib.hid (HM.out w2 (Kp.below K2.out))
  clear HM
  go_upto_region 5 with (first
    | (go_at_call 87; (with_reducible refine hM.out.mono ?_); rintro e w3 ⟨rfl, hrow, hb⟩; have K3 := Lib.hid (K2.out.call hb); have HROW := Lib.hid hrow; clear hb hrow K2 c0 c1 hM))
  obtain ⟨g, hg⟩ : ∃ g, w2.heap.size = g := ⟨_, rfl⟩
  rw [hg] at HROW ⊢
  rw [HXV.out] at HROW
  have hgl : g < w3.heap.size := by
    rcases HROW.out.2 with ⟨h, _⟩ | ⟨g', cap, cur, e, _, hgb, _⟩
    · cases h
    · injection e with e1
      injection e1 with e2
      injection e2 with e3
      rw [e3]
      exact lt_of_blk hgb
  have KJ : Hid (∀ w1 : World, Blw w3.heap.size w3 w1 → Calls Tryz.prog 90 #[.slice (some ⟨g, 0, none⟩) n n, .string ⟨#[]⟩] w1 fun e w' => e = .returned (.string ⟨J.toArray⟩) ∧ Below w1.heap.size w1 w') := Lib.hid fun w1 hb => by
    have hb : Below w3.heap.size w3 w1 := hb
    have h := Tryz.strings_Join g 0 n xs ⟨#[]⟩ w1 (fun j x hx => by rw [Nat.zero_add]; exact (hb.cell (p := ⟨g, j, none⟩) hgl).trans (owns_cell HROW.out (by rw [List.getElem?_map, hx]; rfl))) (Nat.lt_of_lt_of_le hgl hb.size) (by rw [HXL.out]; omega) (by rw [HXL.out]; exact Nat.le_refl _) (by rw [HXM.out]; have := HJ.out; have e := HJJ.out; simp only [List.toList_toArray] at *; rw [e]; exact this)
    rw [HXL.out, HXM.out, show Lib.join (L.map sunLine) (⟨#[]⟩ : ByteArray).data.toList = J from HJJ.out] at h
    exact h
  apply wp_region_gives 8 (fun w' => Blw w3.heap.size w3 w') [.pointer (some ⟨w.heap.size, 0, none⟩), .string s, .string ((⟨#[115, 107, 121, 32]⟩ : ByteArray) ++ s), .string ((⟨#[115, 107, 121, 32]⟩ : ByteArray) ++ s ++ ⟨#[10]⟩), .slice (some ⟨g, 0, none⟩) n n, .string ⟨J.toArray⟩, .string ((⟨#[115, 107, 121, 32]⟩ : ByteArray) ++ s ++ ⟨#[10]⟩ ++ ⟨J.toArray⟩), .string ((⟨#[115, 107, 121, 32]⟩ : ByteArray) ++ s ++ ⟨#[10]⟩ ++ ⟨J.toArray⟩)] (by kernel_rfl) (by kernel_rfl) (by kernel_rfl) (show Below _ _ _ from (Below.refl _ _).drew)
  case haF =>
    simp [putJs, Act.put, List.range, List.range.loop]
    exact rfl
  case h =>
    have hBx := K3.out.2 _ (.head _)
    simp only [List.take_succ_cons, List.take_zero, GivesL]
    clear K3
    refine ⟨?_, ?_, ?_, ?_, ?_, ?_, ?_, ?_, trivial⟩
    all_goals
      intro w1 hw1
      obtain ⟨x_0, x_1⟩ := cells2 (((show Below _ _ _ from hw1).block _ (lt_of_blk hBx)).trans hBx)
      unfold Oper.wp
      simp only [execOp]
      go_simp <;> first
        | exact ⟨rfl, hw1⟩
        | ((with_reducible refine (KJ.out _ hw1).mono ?_); rintro e w2 ⟨rfl, hb⟩; exact ⟨rfl, below_call hb hw1⟩)
  case ht =>
    intro w5 hw5
    have K5 := Lib.hid (K3.out.call (show Below _ _ _ from hw5))
    clear hw5 K3
    simp only [List.drop_succ_cons, List.drop_zero]
    go_wp2_with fail
    rw [HBA.out]
    have HB := Lib.hid (Kp.below K5.out)
    go_ret2
    exact ⟨rfl, HB.out⟩
end Go.Proofs.YtpflbkgmgfhhnaaGreatDoor
