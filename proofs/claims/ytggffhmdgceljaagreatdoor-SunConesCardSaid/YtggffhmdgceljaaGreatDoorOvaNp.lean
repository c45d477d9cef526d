/-
  Mathematics of rays that are reflected twice at one ray.
-/
import Derived.Test.YtggffhmdgceljaaGreatDoorRows
import Derived.WalkKit
import Derived.WalkSpells
import Derived.WalkLawsBesides
import Derived.Lib.Hide
import Derived.BigQuiet
import Derived.Deep.QuietTactic
import Derived.Handy
import Derived.Deep.RegionHeld3
import Derived.Deep.RegionWith
import Derived.StillTailTactics
import Derived.RangeFuncNested
import Derived.RangeFuncBound
import Derived.RangeFuncCalls
import Derived.RangeFuncLeaves
import Derived.RangeFuncBox
import Derived.Shelf.Abstract
import Derived.Shelf.RegionOpen
import Derived.OwnWalkIn
import Derived.TacticsInMore
import Derived.LoopNIn
import Derived.LoopIn
import Derived.Maps.AppendAt
import Derived.Test.YtggffhmdgceljaaGreatDoorProg
import Derived.Laws.FloatArith
import Derived.Laws.BitsAllLaws
import Derived.Deep.DeepCutAuto
import Derived.Stop.BytesEq
import Derived.Deep.MidRow
import Derived.Laws.CopyRow
import Derived.WalkMore
import Derived.Deep.DrawnRows
import Derived.Deep.CutBlock
import Derived.Orders
import Derived.LoopTactic
import Derived.Laws.StructEq
import Derived.Deep.RegionLaw
import Derived.RegionTactic
import Derived.StillTail
import Derived.Test.YtggffhmdgceljaaGreatDoorOvaWn
import Derived.Test.YtggffhmdgceljaaGreatDoorOvaXn
import Derived.Test.YtggffhmdgceljaaGreatDoorOvaIi
import Derived.Laws.RangeString
import Derived.Laws.RangeAny
import Derived.Shelf.Strings.Builder1
import Derived.Shelf.Strings.OnBuilder
import Derived.Shelf.LaysM
import Derived.Shelf.Strconv.Itoa3
import Derived.Lib.AppendIntMem
import Derived.Lib.ItoaLen
import Derived.RowKit
import Derived.Test.YtggffhmdgceljaaGreatDoorOvaKa
import Derived.Test.YtggffhmdgceljaaGreatDoorOvaNo
import Derived.Test.YtggffhmdgceljaaGreatDoorOvaNy
import Derived.Test.YtggffhmdgceljaaGreatDoorOvaAh
import Derived.Test.YtggffhmdgceljaaGreatDoorOvaIh
import Derived.Test.YtggffhmdgceljaaGreatDoorOvaIl
import Derived.Test.YtggffhmdgceljaaGreatDoorOvaNd
import Derived.Test.YtggffhmdgceljaaGreatDoorOvaIg
import Derived.Test.YtggffhmdgceljaaGreatDoorOvaWa
import Derived.Test.YtggffhmdgceljaaGreatDoorOvaFlo
import Derived.Test.YtggffhmdgceljaaGreatDoorOvaXe
import Derived.Test.YtggffhmdgceljaaGreatDoorOvaIb
import Derived.Test.YtggffhmdgceljaaGreatDoorOvaId
import Derived.Test.YtggffhmdgceljaaGreatDoorOvaIx
import Derived.Test.YtggffhmdgceljaaGreatDoorOvaAr
import Derived.Test.YtggffhmdgceljaaGreatDoorOvaWi
import Derived.Test.YtggffhmdgceljaaGreatDoorOvaIp
import Derived.Test.YtggffhmdgceljaaGreatDoorOvaNc
import Derived.Test.YtggffhmdgceljaaGreatDoorOvaNi
import Derived.Test.YtggffhmdgceljaaGreatDoorOvaNv
import Derived.Test.YtggffhmdgceljaaGreatDoorOvaWo
import Derived.Test.YtggffhmdgceljaaGreatDoorOvaIq
import Derived.Test.YtggffhmdgceljaaGreatDoorOvaIs
import Derived.Test.YtggffhmdgceljaaGreatDoorOvaNa
import Derived.Test.YtggffhmdgceljaaGreatDoorCards
import Derived.Test.YtggffhmdgceljaaGreatDoorTie
import Derived.ProofKit
import Derived.OpenShut
import Derived.Lib.SmallJoins
import Derived.Laws.Cover2
import Derived.Carry
import Derived.SizedLaws
import Derived.Deep.Slices
import Derived.Deep.DeepHandedRow
import Derived.Lib.LaidTab
import Derived.Lay
import Derived.Test.YtggffhmdgceljaaGreatDoorOvaAf
namespace Go.Proofs.YtggffhmdgceljaaGreatDoor
open Go.RowKit
set_option linter.unusedVariables false
set_option linter.unusedSimpArgs false

theorem dot_lin (g x y z a b c : Int) : dot3 (g * x) (g * y) (g * z) a b c = g * dot3 x y z a b c := by
  unfold dot3
  grind
theorem dot_linr (g x y z a b c : Int) : dot3 x y z (g * a) (g * b) (g * c) = g * dot3 x y z a b c := by
  unfold dot3
  grind
section
variable {x y z a b c p1 p2 p3 r1 r2 r3 a1 a2 a3 : Int}

end
end Go.Proofs.YtggffhmdgceljaaGreatDoor

/-
  The walk of SunCones: what is left.
-/
namespace Go.Proofs.YtggffhmdgceljaaGreatDoor
open Go.RowKit
set_option linter.unusedVariables false
set_option linter.unusedSimpArgs false
noncomputable def conesOf (n : Nat) : Code := ((Tryz.f3.body.bind (sunTail n)).getD .skip)
set_option maxRecDepth 1000000 in
/-- What is still to be shown where the walk stands ahead of region 4. -/
def SCo4 (w : World) (x y z num den a b c d i f f1 f2 e2 : Int) (i1 m1 : Bool) : Prop :=
  ∀ (wx : World) (Bc Ba Bd : Nat) (u0 u1 u2 u13 u14 u15 u16 u17 u18 u19 u20 u21 u22 u23 u24 u25 u26 u27 u28 u29 u30 u31 u32 u33 u34 u35 u36 u37 u38 u39 u40 u41 u42 u43 u44 u45 u46 u47 u48 u49 u50 u51 u52 u53 u54 u55 u56 u57 u58 u59 u60 u61 u62 u63 u64 u65 u66 u67 u68 u69 u70 u71 u72 u73 u74 u75 u76 u77 u78 u79 u80 u81 u82 u83 u84 u85 u86 : Value), Kp w wx [(Bd, (.cells #[.int .i64 d, .int .i64 i, .int .i64 f] 23 (0, 0))), (Ba, (.cells #[.int .i64 a, .int .i64 b, .int .i64 c] 23 (0, 0))), (Bc, (.cells #[.int .i64 x, .int .i64 y, .int .i64 z, .int .i64 num, .int .i64 den] 25 (0, 0)))] → Code.wp Tryz.prog (conesOf 4) (bodyPost Tryz.prog Tryz.f3 (SunPost w)) ⟨#[u0, u1, u2, .pointer (some ⟨Bc, 0, none⟩), .pointer (some ⟨Ba, 0, none⟩), .pointer (some ⟨Bd, 0, none⟩), .bool false, .bool i1, .int .i64 f1, .bool m1, .int .i64 e2, .int .i64 f1, .int .i64 f2, u13, u14, u15, u16, u17, u18, u19, u20, u21, u22, u23, u24, u25, u26, u27, u28, u29, u30, u31, u32, u33, u34, u35, u36, u37, u38, u39, u40, u41, u42, u43, u44, u45, u46, u47, u48, u49, u50, u51, u52, u53, u54, u55, u56, u57, u58, u59, u60, u61, u62, u63, u64, u65, u66, u67, u68, u69, u70, u71, u72, u73, u74, u75, u76, u77, u78, u79, u80, u81, u82, u83, u84, u85, u86], []⟩ wx

set_option maxRecDepth 1000000 in
/-- What is still to be shown where the walk stands ahead of region 7. -/
def SCo7 (w : World) (x y z num den a b c d i f f1 f2 e2 : Int) (i1 m1 : Bool) : Prop :=
  ∀ (wx : World) (Bc Ba Bd : Nat) (u0 u1 u2 u15 u16 u17 u18 u19 u20 u21 u22 u23 u24 u25 u26 u27 u28 u29 u30 u31 u32 u33 u34 u35 u36 u37 u38 u39 u40 u41 u42 u43 u44 u45 u46 u47 u48 u49 u50 u51 u52 u53 u54 u55 u56 u57 u58 u59 u60 u61 u62 u63 u64 u65 u66 u67 u68 u69 u70 u71 u72 u73 u74 u75 u76 u77 u78 u79 u80 u81 u82 u83 u84 u85 u86 : Value), Kp w wx [(Bd, (.cells #[.int .i64 d, .int .i64 i, .int .i64 f] 23 (0, 0))), (Ba, (.cells #[.int .i64 a, .int .i64 b, .int .i64 c] 23 (0, 0))), (Bc, (.cells #[.int .i64 x, .int .i64 y, .int .i64 z, .int .i64 num, .int .i64 den] 25 (0, 0)))] → Code.wp Tryz.prog (conesOf 7) (bodyPost Tryz.prog Tryz.f3 (SunPost w)) ⟨#[u0, u1, u2, .pointer (some ⟨Bc, 0, none⟩), .pointer (some ⟨Ba, 0, none⟩), .pointer (some ⟨Bd, 0, none⟩), .bool false, .bool i1, .int .i64 f1, .bool m1, .int .i64 e2, .int .i64 f1, .int .i64 f2, .bool i1, .bool false, u15, u16, u17, u18, u19, u20, u21, u22, u23, u24, u25, u26, u27, u28, u29, u30, u31, u32, u33, u34, u35, u36, u37, u38, u39, u40, u41, u42, u43, u44, u45, u46, u47, u48, u49, u50, u51, u52, u53, u54, u55, u56, u57, u58, u59, u60, u61, u62, u63, u64, u65, u66, u67, u68, u69, u70, u71, u72, u73, u74, u75, u76, u77, u78, u79, u80, u81, u82, u83, u84, u85, u86], []⟩ wx

set_option maxRecDepth 1000000 in
/-- What is still to be shown where the walk stands ahead of region 11. -/
def SCo11 (w : World) (x y z num den a b c d i f f1 f2 e2 : Int) (i1 m1 : Bool) : Prop :=
  ∀ (wx : World) (Bc Ba Bd : Nat) (u0 u1 u2 u15 u16 u17 u18 u19 u20 u21 u22 u23 u24 u25 u26 u27 u28 u29 u30 u31 u32 u33 u34 u35 u36 u37 u38 u39 u40 u41 u42 u43 u44 u45 u46 u47 u48 u49 u50 u51 u52 u53 u54 u55 u56 u57 u58 u59 u60 u61 u62 u63 u64 u65 u66 u67 u68 u69 u70 u71 u72 u73 u74 u75 u76 u77 u78 u79 u80 u81 u82 u83 u84 u85 u86 : Value), Kp w wx [(Bd, (.cells #[.int .i64 d, .int .i64 i, .int .i64 f] 23 (0, 0))), (Ba, (.cells #[.int .i64 a, .int .i64 b, .int .i64 c] 23 (0, 0))), (Bc, (.cells #[.int .i64 x, .int .i64 y, .int .i64 z, .int .i64 num, .int .i64 den] 25 (0, 0)))] → Code.wp Tryz.prog (conesOf 11) (bodyPost Tryz.prog Tryz.f3 (SunPost w)) ⟨#[u0, u1, u2, .pointer (some ⟨Bc, 0, none⟩), .pointer (some ⟨Ba, 0, none⟩), .pointer (some ⟨Bd, 0, none⟩), .bool false, .bool i1, .int .i64 f1, .bool m1, .int .i64 e2, .int .i64 f1, .int .i64 e2, .bool i1, .bool m1, u15, u16, u17, u18, u19, u20, u21, u22, u23, u24, u25, u26, u27, u28, u29, u30, u31, u32, u33, u34, u35, u36, u37, u38, u39, u40, u41, u42, u43, u44, u45, u46, u47, u48, u49, u50, u51, u52, u53, u54, u55, u56, u57, u58, u59, u60, u61, u62, u63, u64, u65, u66, u67, u68, u69, u70, u71, u72, u73, u74, u75, u76, u77, u78, u79, u80, u81, u82, u83, u84, u85, u86], []⟩ wx

end Go.Proofs.YtggffhmdgceljaaGreatDoor

/-
  A law for a statement whose order Go leaves open, three of whose operations make slices, each for a call behind it.
-/
namespace Go.Proofs.YtggffhmdgceljaaGreatDoor
open Go.RowKit
set_option linter.unusedVariables false
set_option linter.unusedSimpArgs false

section
variable {P : Program} {ops : Array Oper} {S : World → Prop}
/-- What is known of a made slice of N elements. -/
def MadeN (wc : World) (N : Nat) (Z : Array Value) (T : TypeId) (v : Value) (w : World) : Prop := ∃ B, v = .slice (some ⟨B, 0, none⟩) N N ∧ wc.heap.size ≤ B ∧ w.heap[B]? = some (.cells Z T (0, 0))
theorem MadeN.kept {wc : World} {N : Nat} {Z : Array Value} {T : TypeId} {v : Value} {w w' : World} (h : MadeN wc N Z T v w) (hb : Below w.heap.size w w') : MadeN wc N Z T v w' := by
  obtain ⟨B, h1, h2, h3⟩ := h
  exact ⟨B, h1, h2, (hb.block _ (lt_of_blk h3)).trans h3⟩
theorem MadeN.fresh {wc w : World} {N M : Nat} {Z : Array Value} {T : TypeId} {v : Value} (h : MadeN wc N Z T v w) : v ≠ .slice (some ⟨w.heap.size, 0, none⟩) M M := by
  obtain ⟨B, h1, h2, h3⟩ := h
  have h4 := lt_of_blk h3
  intro h5
  rw [h1] at h5
  injection h5 with h6
  injection h6 with h7
  injection h7 with h8
  omega
def sel3 {α : Type} (k k2 : Nat) (x x2 x3 : α) (j : Nat) : α := if j = k then x else if j = k2 then x2 else x3
theorem sel3_a {α : Type} {k k2 : Nat} {x x2 x3 : α} : sel3 k k2 x x2 x3 k = x := if_pos rfl
theorem sel3_b {α : Type} {k k2 : Nat} {x x2 x3 : α} (h : k2 ≠ k) : sel3 k k2 x x2 x3 k2 = x2 := (if_neg h).trans (if_pos rfl)
theorem sel3_c {α : Type} {k k2 k3 : Nat} {x x2 x3 : α} (h : k3 ≠ k) (h2 : k3 ≠ k2) : sel3 k k2 x x2 x3 k3 = x3 := (if_neg h).trans (if_neg h2)

/-- Three operations of the head make slices, each for a call behind it. -/
theorem wp_region_slices3 {id : Nat} {Q : Exit → Act → World → Prop} {a : Act} {aF : Value → Value → Value → Act} {wc : World} {l : List Oper} (n k k2 k3 c c2 c3 N N2 N3 : Nat) (m : List Bool) (Z Z2 Z3 : Array Value) (T T2 T3 : TypeId) (vals : List Value) (o o2 o3 p p2 p3 : Oper) (hm : P.follows .mixedOrders = true) (hB : pureB l.toArray n = true)
    (hk : (k < n ∧ k2 < n ∧ k3 < n) ∧ (k2 ≠ k ∧ k3 ≠ k ∧ k3 ≠ k2) ∧ (c ≠ k ∧ c ≠ k2 ∧ c ≠ k3) ∧ (c2 ≠ k ∧ c2 ≠ k2 ∧ c2 ≠ k3) ∧ (c3 ≠ k ∧ c3 ≠ k2 ∧ c3 ≠ k3) ∧ m = (List.range n).map fun i => i == k || i == k2 || i == k3 || i == c || i == c2 || i == c3)
    (hwt : Region.waitsFor .any l.toArray c k = true ∧ Region.waitsFor .any l.toArray c2 k2 = true ∧ Region.waitsFor .any l.toArray c3 k3 = true)
    (ho : l[k]? = some o) (ho2 : l[k2]? = some o2) (ho3 : l[k3]? = some o3) (hp : l[c]? = some p) (hp2 : l[c2]? = some p2) (hp3 : l[c3]? = some p3)
    (haF : ∀ u v x, putJs l.toArray (upd1 (upd1 (upd1 (fun i => vals.getD i undef) k u) k2 v) k3 x) (List.range n) a = aF u v x)
    (hz : ∀ u v x (w1 : World), (execOp (aF u v x).eval o).run P w1 = .ok (.value (.slice (some ⟨w1.heap.size, 0, none⟩) N N)) (w1.alloc (.cells Z T)))
    (hz2 : ∀ u v x (w1 : World), (execOp (aF u v x).eval o2).run P w1 = .ok (.value (.slice (some ⟨w1.heap.size, 0, none⟩) N2 N2)) (w1.alloc (.cells Z2 T2)))
    (hz3 : ∀ u v x (w1 : World), (execOp (aF u v x).eval o3).run P w1 = .ok (.value (.slice (some ⟨w1.heap.size, 0, none⟩) N3 N3)) (w1.alloc (.cells Z3 T3)))
    (hw : ∀ u v x, Region.wanted o (yielded l.toArray (aF u v x).tmps) = true ∧ Region.wanted o2 (yielded l.toArray (aF u v x).tmps) = true ∧ Region.wanted o3 (yielded l.toArray (aF u v x).tmps) = true)
    (h : ∀ u v x Tt, Stable Tt → YieldsM P l.toArray (fun w => Blw wc.heap.size wc w ∧ Tt w) (aF u v x) m (l.take n) vals)
    (hc : ∀ u v x Tt, Stable Tt → (∀ w, Tt w → MadeN wc N Z T u w) → YieldsW P l.toArray (fun w => Blw wc.heap.size wc w ∧ Tt w) p (vals.getD c undef) (aF u v x))
    (hc2 : ∀ u v x Tt, Stable Tt → (∀ w, Tt w → MadeN wc N2 Z2 T2 v w) → YieldsW P l.toArray (fun w => Blw wc.heap.size wc w ∧ Tt w) p2 (vals.getD c2 undef) (aF u v x))
    (hc3 : ∀ u v x Tt, Stable Tt → (∀ w, Tt w → MadeN wc N3 Z3 T3 x w) → YieldsW P l.toArray (fun w => Blw wc.heap.size wc w ∧ Tt w) p3 (vals.getD c3 undef) (aF u v x))
    (ht : ∀ u v x w', Blw wc.heap.size wc w' → wpList P l.toArray Q (l.drop n) (aF u v x) w') : (Code.region id l.toArray true).wp P Q a wc := by
  obtain ⟨⟨hk1, hk2, hk3⟩, ⟨d1, d2, d3⟩, ⟨a1, a2, a3⟩, ⟨b1, b2, b3⟩, ⟨g1, g2, g3⟩, hmm⟩ := hk
  have hV : ∀ V : Nat → Value, (∀ j, j ∉ [k, k2, k3] → V j = vals.getD j undef) → putJs l.toArray V (List.range n) a = aF (V k) (V k2) (V k3) := fun V hV => by
    rw [← haF]
    refine putJs_congr _ a fun j _ => ?_
    by_cases h3 : j = k3
    · subst h3; rw [upd1_self]
    · rw [upd1_ne _ _ h3]
      by_cases h2 : j = k2
      · subst h2; rw [upd1_self]
      · rw [upd1_ne _ _ h2]
        by_cases h1 : j = k
        · subst h1; rw [upd1_self]
        · rw [upd1_ne _ _ h1]
          exact hV j (by simp [h1, h2, h3])
  refine wp_region_mades2 n [k, k2, k3] (fun w => Blw wc.heap.size wc w) (fun j v w => MadeN wc (sel3 k k2 N N2 N3 j) (sel3 k k2 Z Z2 Z3 j) (sel3 k k2 T T2 T3 j) v w) (fun i => vals.getD i undef) hm hB (by simp; omega) (fun k v w w' => MadeN.kept) (show Below _ _ _ from (Below.refl _ _).drew) (fun V k' o' hV' hk' ho' => ?_) (fun k' o' b w1 hk' ho' hwn hex hS => ?_) (fun V Tt i o' hV' hT hR hi hik ho' => ?_) (fun V w' hV' hS hR hD => ?_)
  · rw [hV V hV']
    rcases (show k' = k ∨ k' = k2 ∨ k' = k3 by simpa using hk') with rfl | rfl | rfl
    · obtain rfl : o = o' := Option.some.inj (ho.symm.trans ho')
      exact (hw _ _ _).1
    · obtain rfl : o2 = o' := Option.some.inj (ho2.symm.trans ho')
      exact (hw _ _ _).2.1
    · obtain rfl : o3 = o' := Option.some.inj (ho3.symm.trans ho')
      exact (hw _ _ _).2.2
  · obtain ⟨V, hV', hex⟩ := hex
    rw [hV V hV'] at hex
    unfold Go.wpOp
    simp only [show l.toArray[k']? = some o' by simpa using ho']
    rw [hwn]
    simp only [if_true]
    refine .inl ?_
    unfold Oper.wp
    rw [hex]
    rcases (show k' = k ∨ k' = k2 ∨ k' = k3 by simpa using hk') with rfl | rfl | rfl
    · obtain rfl : o = o' := Option.some.inj (ho.symm.trans ho')
      rw [hz]
      refine ⟨_, rfl, below_allocS (show Below _ _ _ from hS) _, below_allocS (Below.refl _ _) _, ⟨w1.heap.size, ?_, (show Below _ _ _ from hS).size, ?_⟩, fun k' v' h' => MadeN.fresh h'⟩
      · rw [sel3_a]
      · rw [sel3_a, sel3_a]
        exact blk_alloc_new _ _
    · obtain rfl : o2 = o' := Option.some.inj (ho2.symm.trans ho')
      rw [hz2]
      refine ⟨_, rfl, below_allocS (show Below _ _ _ from hS) _, below_allocS (Below.refl _ _) _, ⟨w1.heap.size, ?_, (show Below _ _ _ from hS).size, ?_⟩, fun k' v' h' => MadeN.fresh h'⟩
      · rw [sel3_b d1]
      · rw [sel3_b d1, sel3_b d1]
        exact blk_alloc_new _ _
    · obtain rfl : o3 = o' := Option.some.inj (ho3.symm.trans ho')
      rw [hz3]
      refine ⟨_, rfl, below_allocS (show Below _ _ _ from hS) _, below_allocS (Below.refl _ _) _, ⟨w1.heap.size, ?_, (show Below _ _ _ from hS).size, ?_⟩, fun k' v' h' => MadeN.fresh h'⟩
      · rw [sel3_c d2 d3]
      · rw [sel3_c d2 d3, sel3_c d2 d3]
        exact blk_alloc_new _ _
  · rw [hV V hV']
    by_cases hc1 : i = c
    · subst hc1
      obtain rfl : p = o' := Option.some.inj (hp.symm.trans ho')
      refine hc (V k) (V k2) (V k3) Tt hT fun w h1 => ?_
      have h2 := hR k (by simp) hwt.1 w h1
      rwa [sel3_a, sel3_a, sel3_a] at h2
    · by_cases hc4 : i = c2
      · subst hc4
        obtain rfl : p2 = o' := Option.some.inj (hp2.symm.trans ho')
        refine hc2 (V k) (V k2) (V k3) Tt hT fun w h1 => ?_
        have h2 := hR k2 (by simp) hwt.2.1 w h1
        rwa [sel3_b d1, sel3_b d1, sel3_b d1] at h2
      · by_cases hc5 : i = c3
        · subst hc5
          obtain rfl : p3 = o' := Option.some.inj (hp3.symm.trans ho')
          refine hc3 (V k) (V k2) (V k3) Tt hT fun w h1 => ?_
          have h2 := hR k3 (by simp) hwt.2.2 w h1
          rwa [sel3_c d2 d3, sel3_c d2 d3, sel3_c d2 d3] at h2
        · refine (h (V k) (V k2) (V k3) Tt hT).get i o' ?_ (by rw [List.getElem?_take]; simp [hi, ho'])
          rw [hmm, List.getElem?_map, List.getElem?_range hi]
          simp at hik
          simp [hik, hc1, hc4, hc5]
  · rw [hV V hV']
    exact ht _ _ _ w' hS
end
end Go.Proofs.YtggffhmdgceljaaGreatDoor

/-
  Contracts of the reference's check of two rays, and of the law's first error.
-/
namespace Go.Proofs.YtggffhmdgceljaaGreatDoor
open Go.RowKit
set_option linter.unusedVariables false
set_option linter.unusedSimpArgs false

set_option maxRecDepth 100000 in
set_option maxHeartbeats 6400000 in
theorem refCheckRays_1 (a b c d i f e1 e2 : Int) (n1 : (e1 != 0) = true) (T : TypeId) (B : Nat) (w : World) (hB : w.heap[B]? = some (.cells #[.int .i64 a, .int .i64 b, .int .i64 c, .int .i64 d, .int .i64 i, .int .i64 f] T (0, 0)))
    (KA : Hid (∀ w1 : World, Calls Tryz.prog 11 #[.agg #[.int .i64 a, .int .i64 b, .int .i64 c]] w1 fun e w' => e = .returned (.int .i64 e1) ∧ Below w1.heap.size w1 w')) :
    Calls Tryz.prog 12 #[.slice (some ⟨B, 0, none⟩) 2 2] w fun e w' => e = .returned (.int .i64 e1) ∧ Below w.heap.size w w' := by
  have K0 : Hid (Kp w w [(B, .cells #[.int .i64 a, .int .i64 b, .int .i64 c, .int .i64 d, .int .i64 i, .int .i64 f] T (0, 0))]) := Lib.hid (Kp.cons (Kp.none w) hB)
  clear hB
  obtain ⟨x0, x1, x2, x3, x4, x5⟩ := cells6 (K0.out.2 _ (.head _))
  go_enter Tryz.func12, Tryz.ntmps12
  go_wp2_with fail
  refine wp_loop_rounds 3 ?_
  rw [rounds_succ]
  go_wp2_with (first
    | (go_at_call 11; (with_reducible refine (KA.out _).mono ?_); rintro e w1 ⟨rfl, hb1⟩; have K1 := Lib.hid (K0.out.call hb1); clear hb1))
  go_ret
  exact ⟨rfl, Kp.below K1.out⟩

set_option maxRecDepth 100000 in
set_option maxHeartbeats 6400000 in
theorem refCheckRays_2 (a b c d i f e1 e2 : Int) (n1 : (e1 != 0) = false) (n2 : (e2 != 0) = true) (T : TypeId) (B : Nat) (w : World) (hB : w.heap[B]? = some (.cells #[.int .i64 a, .int .i64 b, .int .i64 c, .int .i64 d, .int .i64 i, .int .i64 f] T (0, 0)))
    (KA : Hid (∀ w1 : World, Calls Tryz.prog 11 #[.agg #[.int .i64 a, .int .i64 b, .int .i64 c]] w1 fun e w' => e = .returned (.int .i64 e1) ∧ Below w1.heap.size w1 w'))
    (KB : Hid (∀ w1 : World, Calls Tryz.prog 11 #[.agg #[.int .i64 d, .int .i64 i, .int .i64 f]] w1 fun e w' => e = .returned (.int .i64 e2) ∧ Below w1.heap.size w1 w')) :
    Calls Tryz.prog 12 #[.slice (some ⟨B, 0, none⟩) 2 2] w fun e w' => e = .returned (.int .i64 e2) ∧ Below w.heap.size w w' := by
  have K0 : Hid (Kp w w [(B, .cells #[.int .i64 a, .int .i64 b, .int .i64 c, .int .i64 d, .int .i64 i, .int .i64 f] T (0, 0))]) := Lib.hid (Kp.cons (Kp.none w) hB)
  clear hB
  obtain ⟨x0, x1, x2, x3, x4, x5⟩ := cells6 (K0.out.2 _ (.head _))
  go_enter Tryz.func12, Tryz.ntmps12
  go_wp2_with fail
  refine wp_loop_rounds 3 ?_
  rw [rounds_succ]
  go_wp2_with (first
    | (go_at_call 11; (with_reducible refine (KA.out _).mono ?_); rintro e w1 ⟨rfl, hb1⟩; have K1 := Lib.hid (K0.out.call hb1); clear hb1))
  clear x0 x1 x2 x3 x4 x5
  obtain ⟨x0, x1, x2, x3, x4, x5⟩ := cells6 (K1.out.2 _ (.head _))
  rw [rounds_succ]
  go_wp2_with (first
    | (go_at_call 11; (with_reducible refine (KB.out _).mono ?_); rintro e w2 ⟨rfl, hb2⟩; have K2 := Lib.hid (K1.out.call hb2); clear hb2))
  go_ret
  exact ⟨rfl, Kp.below K2.out⟩

set_option maxRecDepth 100000 in
set_option maxHeartbeats 6400000 in
theorem refCheckRays_0 (a b c d i f e1 e2 : Int) (n1 : (e1 != 0) = false) (n2 : (e2 != 0) = false) (T : TypeId) (B : Nat) (w : World) (hB : w.heap[B]? = some (.cells #[.int .i64 a, .int .i64 b, .int .i64 c, .int .i64 d, .int .i64 i, .int .i64 f] T (0, 0)))
    (KA : Hid (∀ w1 : World, Calls Tryz.prog 11 #[.agg #[.int .i64 a, .int .i64 b, .int .i64 c]] w1 fun e w' => e = .returned (.int .i64 e1) ∧ Below w1.heap.size w1 w'))
    (KB : Hid (∀ w1 : World, Calls Tryz.prog 11 #[.agg #[.int .i64 d, .int .i64 i, .int .i64 f]] w1 fun e w' => e = .returned (.int .i64 e2) ∧ Below w1.heap.size w1 w')) :
    Calls Tryz.prog 12 #[.slice (some ⟨B, 0, none⟩) 2 2] w fun e w' => e = .returned (.int .i64 0) ∧ Below w.heap.size w w' := by
  have K0 : Hid (Kp w w [(B, .cells #[.int .i64 a, .int .i64 b, .int .i64 c, .int .i64 d, .int .i64 i, .int .i64 f] T (0, 0))]) := Lib.hid (Kp.cons (Kp.none w) hB)
  clear hB
  obtain ⟨x0, x1, x2, x3, x4, x5⟩ := cells6 (K0.out.2 _ (.head _))
  go_enter Tryz.func12, Tryz.ntmps12
  go_wp2_with fail
  refine wp_loop_rounds 3 ?_
  rw [rounds_succ]
  go_wp2_with (first
    | (go_at_call 11; (with_reducible refine (KA.out _).mono ?_); rintro e w1 ⟨rfl, hb1⟩; have K1 := Lib.hid (K0.out.call hb1); clear hb1))
  clear x0 x1 x2 x3 x4 x5
  obtain ⟨x0, x1, x2, x3, x4, x5⟩ := cells6 (K1.out.2 _ (.head _))
  rw [rounds_succ]
  go_wp2_with (first
    | (go_at_call 11; (with_reducible refine (KB.out _).mono ?_); rintro e w2 ⟨rfl, hb2⟩; have K2 := Lib.hid (K1.out.call hb2); clear hb2))
  rw [rounds_succ]
  go_wp2_with fail
  go_ret
  exact ⟨rfl, Kp.below K2.out⟩

theorem refCheckRays_two (a b c d i f : Int) (T : TypeId) (B : Nat) (w : World) (hB : w.heap[B]? = some (.cells #[.int .i64 a, .int .i64 b, .int .i64 c, .int .i64 d, .int .i64 i, .int .i64 f] T (0, 0))) :
    Calls Tryz.prog 12 #[.slice (some ⟨B, 0, none⟩) 2 2] w fun e w' => e = .returned (.int .i64 (firstNZ [rayErr a b c, rayErr d i f])) ∧ Below w.heap.size w w' := by
  have KA := fun w1 => refCheckRay_all a b c w1
  have KB := fun w1 => refCheckRay_all d i f w1
  generalize rayErr a b c = e1 at *
  generalize rayErr d i f = e2 at *
  by_cases h1 : e1 = 0
  · by_cases h2 : e2 = 0
    · have h := refCheckRays_0 a b c d i f e1 e2 (by simp [h1]) (by simp [h2]) T B w hB (Lib.hid KA) (Lib.hid KB)
      rw [h1, h2]
      exact h
    · have h := refCheckRays_2 a b c d i f e1 e2 (by simp [h1]) (by simp [h2]) T B w hB (Lib.hid KA) (Lib.hid KB)
      rw [h1, show firstNZ [0, e2] = e2 by simp [firstNZ, h2]]
      exact h
  · have h := refCheckRays_1 a b c d i f e1 e2 (by simp [h1]) T B w hB (Lib.hid KA)
    rw [show firstNZ [e1, e2] = e1 by simp [firstNZ, h1]]
    exact h

set_option maxRecDepth 100000 in
set_option maxHeartbeats 6400000 in
theorem lawFirst_two (e1 e2 : Int) (T : TypeId) (B : Nat) (w : World) (hB : w.heap[B]? = some (.cells #[.int .i64 e1, .int .i64 e2] T (0, 0))) :
    Calls Tryz.prog 9 #[.slice (some ⟨B, 0, none⟩) 2 2] w fun e w' => e = .returned (.int .i64 (firstNZ [e1, e2])) ∧ w = w' := by
  obtain ⟨x0, x1⟩ := cells2 hB
  clear hB
  obtain ⟨E, hE⟩ : ∃ E : Int, firstNZ [e1, e2] = E := ⟨_, rfl⟩
  have KF : Hid (∀ (w1 : World) (b : Nat), (∀ j, j < 2 → w1.cell? ⟨b, 0 + j, none⟩ = some (.int .i64 (([e1, e2] : List Int)[j]?.getD 0))) → Calls Tryz.prog 49 #[.slice (some ⟨b, 0, none⟩) 2 2] w1 fun e w' => e = .returned (.int .i64 E) ∧ w1 = w') := Lib.hid fun w1 b h => by
    have k := refFirst_any b 0 2 2 [e1, e2] rfl (by omega) w1 h
    rwa [hE] at k
  rw [hE]
  clear hE
  go_enter Tryz.func9, Tryz.ntmps9
  go_wp2_with (first
    | (go_at_call 49; (with_reducible refine (KF.out _ _ ?_).mono ?_); rotate_left 1; rintro e w6 ⟨rfl, rfl⟩; rotate_left 1; (intro j hj; match j, hj with | 0, _ => simp [x0] | 1, _ => simp [x1])))
  go_ret
  exact ⟨rfl, rfl⟩
end Go.Proofs.YtggffhmdgceljaaGreatDoor

/-
  The walk of SunCones: the first regions.
-/
namespace Go.Proofs.YtggffhmdgceljaaGreatDoor
open Go.RowKit
set_option linter.unusedVariables false
set_option linter.unusedSimpArgs false
set_option maxRecDepth 1000000 in
set_option maxHeartbeats 12800000 in
theorem sco_first (w : World) (x y z num den a b c d i f f1 f2 e2 : Int) (i1 m1 : Bool) (ce ra rr : Int)
    (KI : Hid (∀ w1 : World, Calls Tryz.prog 7 #[.agg #[.int .i64 x, .int .i64 y, .int .i64 z, .int .i64 num, .int .i64 den], .agg #[.int .i64 a, .int .i64 b, .int .i64 c]] w1 fun e w' => e = .returned (.tuple #[.bool i1, .int .i64 f1]) ∧ Below w1.heap.size w1 w'))
    (KM : Hid (∀ w1 : World, Calls Tryz.prog 8 #[.agg #[.int .i64 x, .int .i64 y, .int .i64 z, .int .i64 num, .int .i64 den], .agg #[.int .i64 a, .int .i64 b, .int .i64 c], .agg #[.int .i64 d, .int .i64 i, .int .i64 f]] w1 fun e w' => e = .returned (.tuple #[.bool m1, .int .i64 e2]) ∧ Below w1.heap.size w1 w'))
    (KC : Hid (∀ w1 : World, Calls Tryz.prog 10 #[.agg #[.int .i64 x, .int .i64 y, .int .i64 z, .int .i64 num, .int .i64 den]] w1 fun e w' => e = .returned (.int .i64 ce) ∧ Below w1.heap.size w1 w'))
    (KR : Hid (∀ w1 : World, Calls Tryz.prog 11 #[.agg #[.int .i64 a, .int .i64 b, .int .i64 c]] w1 fun e w' => e = .returned (.int .i64 ra) ∧ Below w1.heap.size w1 w'))
    (F1 : Hid (∀ (w1 : World) (B : Nat) (T : TypeId), w1.heap[B]? = some (.cells #[.int .i64 ce, .int .i64 ra] T (0, 0)) → Calls Tryz.prog 9 #[.slice (some ⟨B, 0, none⟩) 2 2] w1 fun e w' => e = .returned (.int .i64 f1) ∧ w1 = w'))
    (F2 : Hid (∀ (w1 : World) (B : Nat) (T : TypeId), w1.heap[B]? = some (.cells #[.int .i64 a, .int .i64 b, .int .i64 c, .int .i64 d, .int .i64 i, .int .i64 f] T (0, 0)) → Calls Tryz.prog 12 #[.slice (some ⟨B, 0, none⟩) 2 2] w1 fun e w' => e = .returned (.int .i64 rr) ∧ Below w1.heap.size w1 w'))
    (F3 : Hid (∀ (w1 : World) (B : Nat) (T : TypeId), w1.heap[B]? = some (.cells #[.int .i64 ce, .int .i64 rr] T (0, 0)) → Calls Tryz.prog 9 #[.slice (some ⟨B, 0, none⟩) 2 2] w1 fun e w' => e = .returned (.int .i64 f2) ∧ w1 = w'))
    (hT : SCo4 w x y z num den a b c d i f f1 f2 e2 i1 m1) : Calls Tryz.prog 3 #[.agg #[.int .i64 x, .int .i64 y, .int .i64 z, .int .i64 num, .int .i64 den], .agg #[.int .i64 a, .int .i64 b, .int .i64 c], .agg #[.int .i64 d, .int .i64 i, .int .i64 f]] w (SunPost w) := by
  obtain ⟨W0, hW0⟩ : ∃ W0, (((w.alloc (.cells #[.int .i64 x, .int .i64 y, .int .i64 z, .int .i64 num, .int .i64 den] 25)).alloc (.cells #[.int .i64 a, .int .i64 b, .int .i64 c] 23)).alloc (.cells #[.int .i64 d, .int .i64 i, .int .i64 f] 23)) = W0 := ⟨_, rfl⟩
  have K0 : Hid (Kp w W0 [(w.heap.size + 1 + 1, (.cells #[.int .i64 d, .int .i64 i, .int .i64 f] 23 (0, 0))), (w.heap.size + 1, (.cells #[.int .i64 a, .int .i64 b, .int .i64 c] 23 (0, 0))), (w.heap.size, (.cells #[.int .i64 x, .int .i64 y, .int .i64 z, .int .i64 num, .int .i64 den] 25 (0, 0)))]) := Lib.hid (by
    rw [← hW0]
    have k := ((((Kp.none w).alloc (.cells #[.int .i64 x, .int .i64 y, .int .i64 z, .int .i64 num, .int .i64 den] 25)).alloc (.cells #[.int .i64 a, .int .i64 b, .int .i64 c] 23)).alloc (.cells #[.int .i64 d, .int .i64 i, .int .i64 f] 23))
    simpa using k)
  go_enter Tryz.func3, Tryz.ntmps3
  go_upto_region 1 with fail
  try rw [hW0]
  clear hW0
  go_upto_region 1 with fail
  go_cut [7, 8] (fun s7 s8 wr => s7 = .bool i1 ∧ s8 = .int .i64 f1 ∧ Kp w wr [(w.heap.size + 1 + 1, (.cells #[.int .i64 d, .int .i64 i, .int .i64 f] 23 (0, 0))), (w.heap.size + 1, (.cells #[.int .i64 a, .int .i64 b, .int .i64 c] 23 (0, 0))), (w.heap.size, (.cells #[.int .i64 x, .int .i64 y, .int .i64 z, .int .i64 num, .int .i64 den] 25 (0, 0)))])
  case first =>
    obtain ⟨g0, g1, g2, g3, g4⟩ := cells5 (K0.out.2 _ (.tail _ (.tail _ (.head _))))
    obtain ⟨h0, h1, h2⟩ := cells3 (K0.out.2 _ (.tail _ (.head _)))
    go_wp2_with (first
      | (go_at_call 7; (with_reducible refine (KI.out _).mono ?_); rintro e w91 ⟨rfl, hb91⟩; have K91 := Lib.hid (K0.out.call hb91)))
    go_meet
    exact ⟨rfl, rfl, K91.out⟩
  case rest =>
    rename_i hK
    obtain ⟨rfl, rfl, hk⟩ := hcut
    refine hK _ _ ?_
    clear hK
    have K1 := Lib.hid hk
    clear hk K0
    go_upto_region 2 with fail
    go_cut [9, 10] (fun s9 s10 wr => s9 = .bool m1 ∧ s10 = .int .i64 e2 ∧ Kp w wr [(w.heap.size + 1 + 1, (.cells #[.int .i64 d, .int .i64 i, .int .i64 f] 23 (0, 0))), (w.heap.size + 1, (.cells #[.int .i64 a, .int .i64 b, .int .i64 c] 23 (0, 0))), (w.heap.size, (.cells #[.int .i64 x, .int .i64 y, .int .i64 z, .int .i64 num, .int .i64 den] 25 (0, 0)))])
    case first =>
      obtain ⟨g0, g1, g2, g3, g4⟩ := cells5 (K1.out.2 _ (.tail _ (.tail _ (.head _))))
      obtain ⟨h0, h1, h2⟩ := cells3 (K1.out.2 _ (.tail _ (.head _)))
      obtain ⟨k0, k1, k2⟩ := cells3 (K1.out.2 _ (.head _))
      go_wp2_with (first
        | (go_at_call 8; (with_reducible refine (KM.out _).mono ?_); rintro e w91 ⟨rfl, hb91⟩; have K91 := Lib.hid (K1.out.call hb91)))
      go_meet
      exact ⟨rfl, rfl, K91.out⟩
    case rest =>
      rename_i hK
      obtain ⟨rfl, rfl, hk⟩ := hcut
      refine hK _ _ ?_
      clear hK
      have K2 := Lib.hid hk
      clear hk K1
      go_upto_region 3 with fail
      go_cut [11, 12] (fun s11 s12 wr => s11 = .int .i64 f1 ∧ s12 = .int .i64 f2 ∧ Kp w wr [(w.heap.size + 1 + 1, (.cells #[.int .i64 d, .int .i64 i, .int .i64 f] 23 (0, 0))), (w.heap.size + 1, (.cells #[.int .i64 a, .int .i64 b, .int .i64 c] 23 (0, 0))), (w.heap.size, (.cells #[.int .i64 x, .int .i64 y, .int .i64 z, .int .i64 num, .int .i64 den] 25 (0, 0)))])
      case first =>
        apply wp_region_slices3 14 4 10 12 5 11 13 2 2 2 [false, false, false, false, true, true, false, false, false, false, true, true, true, true] #[.int .i64 ce, .int .i64 ra] #[.int .i64 a, .int .i64 b, .int .i64 c, .int .i64 d, .int .i64 i, .int .i64 f] #[.int .i64 ce, .int .i64 rr] 3 23 3 [.agg #[.int .i64 x, .int .i64 y, .int .i64 z, .int .i64 num, .int .i64 den], .int .i64 ce, .agg #[.int .i64 a, .int .i64 b, .int .i64 c], .int .i64 ra, undef, .int .i64 f1, .agg #[.int .i64 x, .int .i64 y, .int .i64 z, .int .i64 num, .int .i64 den], .int .i64 ce, .agg #[.int .i64 a, .int .i64 b, .int .i64 c], .agg #[.int .i64 d, .int .i64 i, .int .i64 f], undef, .int .i64 rr, undef, .int .i64 f2] _ _ _ _ _ _ (by kernel_rfl) (by kernel_rfl) (by decide) ⟨by kernel_rfl, by kernel_rfl, by kernel_rfl⟩ rfl rfl rfl rfl rfl rfl
        case haF =>
          intro u v x
          simp [putJs, upd1, Act.put, List.range, List.range.loop]
          exact rfl
        case hz =>
          intro u v x w1
          simp only [execOp]
          go_simp
        case hz2 =>
          intro u v x w1
          simp only [execOp]
          go_simp
        case hz3 =>
          intro u v x w1
          simp only [execOp]
          go_simp
        case hw => exact fun u v x => ⟨rfl, rfl, rfl⟩
        case h =>
          intro u v x Tt hT
          have fg := K2.out.2 _ (.tail _ (.tail _ (.head _)))
          have fh := K2.out.2 _ (.tail _ (.head _))
          have fk := K2.out.2 _ (.head _)
          simp only [List.take_succ_cons, List.take_zero, YieldsM]
          clear K2
          refine ⟨.no rfl ?_, .no rfl ?_, .no rfl ?_, .no rfl ?_, .no rfl ?_, .no rfl ?_, .no rfl ?_, .no rfl ?_, trivial⟩
          all_goals
            intro w1 hw
            obtain ⟨hw1, ht1⟩ := hw
            obtain ⟨g0, g1, g2, g3, g4⟩ := cells5 (((show Below _ _ _ from hw1).block _ (lt_of_blk fg)).trans fg)
            obtain ⟨h0, h1, h2⟩ := cells3 (((show Below _ _ _ from hw1).block _ (lt_of_blk fh)).trans fh)
            obtain ⟨k0, k1, k2⟩ := cells3 (((show Below _ _ _ from hw1).block _ (lt_of_blk fk)).trans fk)
            unfold Oper.wp
            simp only [execOp]
            go_simp <;> first
              | exact ⟨rfl, hw1, ht1⟩
              | exact ht1
              | exact ⟨hw1, ht1⟩
              | ((with_reducible refine (KC.out _).mono ?_); rintro e w2 ⟨rfl, hb⟩; exact ⟨rfl, below_call hb hw1, hT _ _ ht1 hb⟩)
              | ((with_reducible refine (KR.out _).mono ?_); rintro e w2 ⟨rfl, hb⟩; exact ⟨rfl, below_call hb hw1, hT _ _ ht1 hb⟩)
        case hc =>
          intro u v x Tt hT hR
          refine .no rfl ?_
          intro w1 hw
          obtain ⟨hw1, ht1⟩ := hw
          obtain ⟨B, hv, hB1, hm⟩ := hR w1 ht1
          subst hv
          unfold Oper.wp
          simp only [execOp]
          go_simp
          refine (F1.out _ _ _ hm).mono ?_
          rintro e w2 ⟨rfl, rfl⟩
          exact ⟨rfl, hw1, ht1⟩
        case hc2 =>
          intro u v x Tt hT hR
          refine .no rfl ?_
          intro w1 hw
          obtain ⟨hw1, ht1⟩ := hw
          obtain ⟨B, hv, hB1, hm⟩ := hR w1 ht1
          subst hv
          unfold Oper.wp
          simp only [execOp]
          go_simp
          refine (F2.out _ _ _ hm).mono ?_
          rintro e w2 ⟨rfl, hb⟩
          exact ⟨rfl, below_call hb hw1, hT _ _ ht1 hb⟩
        case hc3 =>
          intro u v x Tt hT hR
          refine .no rfl ?_
          intro w1 hw
          obtain ⟨hw1, ht1⟩ := hw
          obtain ⟨B, hv, hB1, hm⟩ := hR w1 ht1
          subst hv
          unfold Oper.wp
          simp only [execOp]
          go_simp
          refine (F3.out _ _ _ hm).mono ?_
          rintro e w2 ⟨rfl, rfl⟩
          exact ⟨rfl, hw1, ht1⟩
        case ht =>
          intro u v x w5 hw5
          have K5 := Lib.hid (K2.out.call (show Below _ _ _ from hw5))
          simp only [List.drop_succ_cons, List.drop_zero]
          go_wp2_with fail
          go_meet
          exact ⟨rfl, rfl, K5.out⟩
      case rest =>
        rename_i hK
        obtain ⟨rfl, rfl, hk⟩ := hcut
        refine hK _ _ ?_
        clear hK
        unfold SCo4 at hT
        exact hT _ _ _ _ _ _ _ _ _ _ _ _ _ _ _ _ _ _ _ _ _ _ _ _ _ _ _ _ _ _ _ _ _ _ _ _ _ _ _ _ _ _ _ _ _ _ _ _ _ _ _ _ _ _ _ _ _ _ _ _ _ _ _ _ _ _ _ _ _ _ _ _ _ _ _ _ _ _ _ _ _ (hk)
end Go.Proofs.YtggffhmdgceljaaGreatDoor

/-
  The walk of SunCones: from region 4 on.
-/
namespace Go.Proofs.YtggffhmdgceljaaGreatDoor
open Go.RowKit
set_option linter.unusedVariables false
set_option linter.unusedSimpArgs false
set_option maxRecDepth 1000000 in
set_option maxHeartbeats 12800000 in
theorem sco4_bad (w : World) (x y z num den a b c d i f f1 f2 e2 : Int) (i1 m1 : Bool) (n1 : (f1 == 0) = false) (ei : i1 = false)
    (hT : SCo7 w x y z num den a b c d i f f1 f2 e2 i1 m1) : SCo4 w x y z num den a b c d i f f1 f2 e2 i1 m1 := by
  unfold SCo4
  intro wx Bc Ba Bd u0 u1 u2 u13 u14 u15 u16 u17 u18 u19 u20 u21 u22 u23 u24 u25 u26 u27 u28 u29 u30 u31 u32 u33 u34 u35 u36 u37 u38 u39 u40 u41 u42 u43 u44 u45 u46 u47 u48 u49 u50 u51 u52 u53 u54 u55 u56 u57 u58 u59 u60 u61 u62 u63 u64 u65 u66 u67 u68 u69 u70 u71 u72 u73 u74 u75 u76 u77 u78 u79 u80 u81 u82 u83 u84 u85 u86 hk
  have K0 := Lib.hid hk
  clear hk
  subst ei
  conv => arg 2; whnf
  dsimp only
  go_upto_region 5 with fail
  go_cut [43] (fun s43 wr => s43 = .bool false ∧ Kp w wr [(Bd, (.cells #[.int .i64 d, .int .i64 i, .int .i64 f] 23 (0, 0))), (Ba, (.cells #[.int .i64 a, .int .i64 b, .int .i64 c] 23 (0, 0))), (Bc, (.cells #[.int .i64 x, .int .i64 y, .int .i64 z, .int .i64 num, .int .i64 den] 25 (0, 0)))])
  case first =>
    go_wp2_with fail
    go_meet
    exact ⟨rfl, K0.out⟩
  case rest =>
    rename_i q1 hq1 q0 hq
    obtain ⟨rfl, hb⟩ := hcut
    refine hq _ _ ?_
    clear hq
    have HK1 := Lib.hid hq1
    clear hq1 K0
    have K0 := Lib.hid hb
    clear hb
    go_wp2_with fail
    refine HK1.out _ _ ?_
    unfold SCo7 at hT
    exact hT _ _ _ _ _ _ _ _ _ _ _ _ _ _ _ _ _ _ _ _ _ _ _ _ _ _ _ _ _ _ _ _ _ _ _ _ _ _ _ _ _ _ _ _ _ _ _ _ _ _ _ _ _ _ _ _ _ _ _ _ _ _ _ _ _ _ _ _ _ _ _ _ _ _ _ _ _ _ _ (K0.out)

set_option maxRecDepth 1000000 in
set_option maxHeartbeats 12800000 in
theorem sco4_ok (w : World) (x y z num den a b c d i f f1 f2 e2 : Int) (i1 m1 : Bool) (n1 : (f1 == 0) = true)
    (KJ : Hid (∀ w1 : World, Calls Tryz.prog 13 #[.agg #[.int .i64 x, .int .i64 y, .int .i64 z, .int .i64 num, .int .i64 den], .agg #[.int .i64 a, .int .i64 b, .int .i64 c]] w1 fun e w' => e = .returned (.bool i1) ∧ Below w1.heap.size w1 w'))
    (hT : SCo7 w x y z num den a b c d i f f1 f2 e2 i1 m1) : SCo4 w x y z num den a b c d i f f1 f2 e2 i1 m1 := by
  unfold SCo4
  intro wx Bc Ba Bd u0 u1 u2 u13 u14 u15 u16 u17 u18 u19 u20 u21 u22 u23 u24 u25 u26 u27 u28 u29 u30 u31 u32 u33 u34 u35 u36 u37 u38 u39 u40 u41 u42 u43 u44 u45 u46 u47 u48 u49 u50 u51 u52 u53 u54 u55 u56 u57 u58 u59 u60 u61 u62 u63 u64 u65 u66 u67 u68 u69 u70 u71 u72 u73 u74 u75 u76 u77 u78 u79 u80 u81 u82 u83 u84 u85 u86 hk
  have K0 := Lib.hid hk
  clear hk
  conv => arg 2; whnf
  dsimp only
  go_upto_region 5 with fail
  go_cut [43] (fun s43 wr => s43 = .bool true ∧ Kp w wr [(Bd, (.cells #[.int .i64 d, .int .i64 i, .int .i64 f] 23 (0, 0))), (Ba, (.cells #[.int .i64 a, .int .i64 b, .int .i64 c] 23 (0, 0))), (Bc, (.cells #[.int .i64 x, .int .i64 y, .int .i64 z, .int .i64 num, .int .i64 den] 25 (0, 0)))])
  case first =>
    go_wp2_with fail
    go_meet
    exact ⟨rfl, K0.out⟩
  case rest =>
    rename_i q1 hq1 q0 hq
    obtain ⟨rfl, hb⟩ := hcut
    refine hq _ _ ?_
    clear hq
    have HK1 := Lib.hid hq1
    clear hq1 K0
    have K0 := Lib.hid hb
    clear hb
    obtain ⟨x0, x1, x2, x3, x4⟩ := cells5 (K0.out.2 _ (.tail _ (.tail _ (.head _))))
    obtain ⟨a0, a1, a2⟩ := cells3 (K0.out.2 _ (.tail _ (.head _)))
    obtain ⟨d0, d1, d2⟩ := cells3 (K0.out.2 _ (.head _))
    go_wp2_with (first
      | (go_at_call 13; (with_reducible refine (KJ.out _).mono ?_); rintro e w5 ⟨rfl, hb5⟩; have K5 := Lib.hid (K0.out.call hb5)))
    refine HK1.out _ _ ?_
    unfold SCo7 at hT
    exact hT _ _ _ _ _ _ _ _ _ _ _ _ _ _ _ _ _ _ _ _ _ _ _ _ _ _ _ _ _ _ _ _ _ _ _ _ _ _ _ _ _ _ _ _ _ _ _ _ _ _ _ _ _ _ _ _ _ _ _ _ _ _ _ _ _ _ _ _ _ _ _ _ _ _ _ _ _ _ _ (K5.out)

set_option maxRecDepth 1000000 in
set_option maxHeartbeats 12800000 in
theorem sco7_bad (w : World) (x y z num den a b c d i f f1 f2 : Int) (i1 : Bool) (n1 : (f2 == 0) = false)
    (hT : SCo11 w x y z num den a b c d i f f1 f2 f2 i1 false) : SCo7 w x y z num den a b c d i f f1 f2 f2 i1 false := by
  unfold SCo7
  intro wx Bc Ba Bd u0 u1 u2 u15 u16 u17 u18 u19 u20 u21 u22 u23 u24 u25 u26 u27 u28 u29 u30 u31 u32 u33 u34 u35 u36 u37 u38 u39 u40 u41 u42 u43 u44 u45 u46 u47 u48 u49 u50 u51 u52 u53 u54 u55 u56 u57 u58 u59 u60 u61 u62 u63 u64 u65 u66 u67 u68 u69 u70 u71 u72 u73 u74 u75 u76 u77 u78 u79 u80 u81 u82 u83 u84 u85 u86 hk
  have K0 := Lib.hid hk
  clear hk
  conv => arg 2; whnf
  dsimp only
  go_upto_region 7 with fail
  go_cut [48] (fun s48 wr => s48 = .bool false ∧ Kp w wr [(Bd, (.cells #[.int .i64 d, .int .i64 i, .int .i64 f] 23 (0, 0))), (Ba, (.cells #[.int .i64 a, .int .i64 b, .int .i64 c] 23 (0, 0))), (Bc, (.cells #[.int .i64 x, .int .i64 y, .int .i64 z, .int .i64 num, .int .i64 den] 25 (0, 0)))])
  case first =>
    go_wp2_with fail
    go_meet
    exact ⟨rfl, K0.out⟩
  case rest =>
    rename_i q1 hq1 q0 hq
    obtain ⟨rfl, hb⟩ := hcut
    refine hq _ _ ?_
    clear hq
    have HK1 := Lib.hid hq1
    clear hq1 K0
    have K0 := Lib.hid hb
    clear hb
    go_wp2_with fail
    refine HK1.out _ _ ?_
    clear HK1
    go_upto_region 9 with fail
    go_cut [54] (fun s54 wr => s54 = .bool false ∧ Kp w wr [(Bd, (.cells #[.int .i64 d, .int .i64 i, .int .i64 f] 23 (0, 0))), (Ba, (.cells #[.int .i64 a, .int .i64 b, .int .i64 c] 23 (0, 0))), (Bc, (.cells #[.int .i64 x, .int .i64 y, .int .i64 z, .int .i64 num, .int .i64 den] 25 (0, 0)))])
    case first =>
      go_wp2_with fail
      go_meet
      exact ⟨rfl, K0.out⟩
    case rest =>
      rename_i q1 hq1 q0 hq
      obtain ⟨rfl, hb⟩ := hcut
      refine hq _ _ ?_
      clear hq
      have HK1 := Lib.hid hq1
      clear hq1
      have K8 := Lib.hid hb
      clear hb
      go_wp2_with fail
      refine HK1.out _ _ ?_
      unfold SCo11 at hT
      exact hT _ _ _ _ _ _ _ _ _ _ _ _ _ _ _ _ _ _ _ _ _ _ _ _ _ _ _ _ _ _ _ _ _ _ _ _ _ _ _ _ _ _ _ _ _ _ _ _ _ _ _ _ _ _ _ _ _ _ _ _ _ _ _ _ _ _ _ _ _ _ _ _ _ _ _ _ _ _ _ (K8.out)

set_option maxRecDepth 1000000 in
set_option maxHeartbeats 12800000 in
theorem sco7_turn (w : World) (x y z num den a b c d i f f1 f2 e2 : Int) (i1 : Bool) (n1 : (f2 == 0) = true) (n2 : (e2 == 0) = false)
    (KT : Hid (∀ w1 : World, Calls Tryz.prog 14 #[.agg #[.int .i64 x, .int .i64 y, .int .i64 z, .int .i64 num, .int .i64 den], .agg #[.int .i64 a, .int .i64 b, .int .i64 c], .agg #[.int .i64 d, .int .i64 i, .int .i64 f]] w1 fun e w' => e = .returned (.int .i64 e2) ∧ Below w1.heap.size w1 w'))
    (hT : SCo11 w x y z num den a b c d i f f1 f2 e2 i1 false) : SCo7 w x y z num den a b c d i f f1 f2 e2 i1 false := by
  unfold SCo7
  intro wx Bc Ba Bd u0 u1 u2 u15 u16 u17 u18 u19 u20 u21 u22 u23 u24 u25 u26 u27 u28 u29 u30 u31 u32 u33 u34 u35 u36 u37 u38 u39 u40 u41 u42 u43 u44 u45 u46 u47 u48 u49 u50 u51 u52 u53 u54 u55 u56 u57 u58 u59 u60 u61 u62 u63 u64 u65 u66 u67 u68 u69 u70 u71 u72 u73 u74 u75 u76 u77 u78 u79 u80 u81 u82 u83 u84 u85 u86 hk
  have K0 := Lib.hid hk
  clear hk
  conv => arg 2; whnf
  dsimp only
  go_upto_region 7 with fail
  go_cut [48] (fun s48 wr => s48 = .bool true ∧ Kp w wr [(Bd, (.cells #[.int .i64 d, .int .i64 i, .int .i64 f] 23 (0, 0))), (Ba, (.cells #[.int .i64 a, .int .i64 b, .int .i64 c] 23 (0, 0))), (Bc, (.cells #[.int .i64 x, .int .i64 y, .int .i64 z, .int .i64 num, .int .i64 den] 25 (0, 0)))])
  case first =>
    go_wp2_with fail
    go_meet
    exact ⟨rfl, K0.out⟩
  case rest =>
    rename_i q1 hq1 q0 hq
    obtain ⟨rfl, hb⟩ := hcut
    refine hq _ _ ?_
    clear hq
    have HK1 := Lib.hid hq1
    clear hq1 K0
    have K0 := Lib.hid hb
    clear hb
    obtain ⟨x0, x1, x2, x3, x4⟩ := cells5 (K0.out.2 _ (.tail _ (.tail _ (.head _))))
    obtain ⟨a0, a1, a2⟩ := cells3 (K0.out.2 _ (.tail _ (.head _)))
    obtain ⟨d0, d1, d2⟩ := cells3 (K0.out.2 _ (.head _))
    go_wp2_with (first
      | (go_at_call 14; (with_reducible refine (KT.out _).mono ?_); rintro e w5 ⟨rfl, hb5⟩; have K5 := Lib.hid (K0.out.call hb5)))
    refine HK1.out _ _ ?_
    clear HK1
    go_upto_region 9 with fail
    go_cut [54] (fun s54 wr => s54 = .bool false ∧ Kp w wr [(Bd, (.cells #[.int .i64 d, .int .i64 i, .int .i64 f] 23 (0, 0))), (Ba, (.cells #[.int .i64 a, .int .i64 b, .int .i64 c] 23 (0, 0))), (Bc, (.cells #[.int .i64 x, .int .i64 y, .int .i64 z, .int .i64 num, .int .i64 den] 25 (0, 0)))])
    case first =>
      go_wp2_with fail
      go_meet
      exact ⟨rfl, K5.out⟩
    case rest =>
      rename_i q1 hq1 q0 hq
      obtain ⟨rfl, hb⟩ := hcut
      refine hq _ _ ?_
      clear hq
      have HK1 := Lib.hid hq1
      clear hq1
      have K8 := Lib.hid hb
      clear hb
      go_wp2_with fail
      refine HK1.out _ _ ?_
      unfold SCo11 at hT
      exact hT _ _ _ _ _ _ _ _ _ _ _ _ _ _ _ _ _ _ _ _ _ _ _ _ _ _ _ _ _ _ _ _ _ _ _ _ _ _ _ _ _ _ _ _ _ _ _ _ _ _ _ _ _ _ _ _ _ _ _ _ _ _ _ _ _ _ _ _ _ _ _ _ _ _ _ _ _ _ _ (K8.out)

set_option maxRecDepth 1000000 in
set_option maxHeartbeats 12800000 in
theorem sco7_ok (w : World) (x y z num den a b c d i f f1 f2 e2 : Int) (i1 m1 : Bool) (n1 : (f2 == 0) = true) (n2 : (e2 == 0) = true)
    (KT : Hid (∀ w1 : World, Calls Tryz.prog 14 #[.agg #[.int .i64 x, .int .i64 y, .int .i64 z, .int .i64 num, .int .i64 den], .agg #[.int .i64 a, .int .i64 b, .int .i64 c], .agg #[.int .i64 d, .int .i64 i, .int .i64 f]] w1 fun e w' => e = .returned (.int .i64 e2) ∧ Below w1.heap.size w1 w'))
    (KMm : Hid (∀ w1 : World, Calls Tryz.prog 15 #[.agg #[.int .i64 x, .int .i64 y, .int .i64 z, .int .i64 num, .int .i64 den], .agg #[.int .i64 a, .int .i64 b, .int .i64 c], .agg #[.int .i64 d, .int .i64 i, .int .i64 f]] w1 fun e w' => e = .returned (.bool m1) ∧ Below w1.heap.size w1 w'))
    (hT : SCo11 w x y z num den a b c d i f f1 f2 e2 i1 m1) : SCo7 w x y z num den a b c d i f f1 f2 e2 i1 m1 := by
  unfold SCo7
  intro wx Bc Ba Bd u0 u1 u2 u15 u16 u17 u18 u19 u20 u21 u22 u23 u24 u25 u26 u27 u28 u29 u30 u31 u32 u33 u34 u35 u36 u37 u38 u39 u40 u41 u42 u43 u44 u45 u46 u47 u48 u49 u50 u51 u52 u53 u54 u55 u56 u57 u58 u59 u60 u61 u62 u63 u64 u65 u66 u67 u68 u69 u70 u71 u72 u73 u74 u75 u76 u77 u78 u79 u80 u81 u82 u83 u84 u85 u86 hk
  have K0 := Lib.hid hk
  clear hk
  conv => arg 2; whnf
  dsimp only
  go_upto_region 7 with fail
  go_cut [48] (fun s48 wr => s48 = .bool true ∧ Kp w wr [(Bd, (.cells #[.int .i64 d, .int .i64 i, .int .i64 f] 23 (0, 0))), (Ba, (.cells #[.int .i64 a, .int .i64 b, .int .i64 c] 23 (0, 0))), (Bc, (.cells #[.int .i64 x, .int .i64 y, .int .i64 z, .int .i64 num, .int .i64 den] 25 (0, 0)))])
  case first =>
    go_wp2_with fail
    go_meet
    exact ⟨rfl, K0.out⟩
  case rest =>
    rename_i q1 hq1 q0 hq
    obtain ⟨rfl, hb⟩ := hcut
    refine hq _ _ ?_
    clear hq
    have HK1 := Lib.hid hq1
    clear hq1 K0
    have K0 := Lib.hid hb
    clear hb
    obtain ⟨x0, x1, x2, x3, x4⟩ := cells5 (K0.out.2 _ (.tail _ (.tail _ (.head _))))
    obtain ⟨a0, a1, a2⟩ := cells3 (K0.out.2 _ (.tail _ (.head _)))
    obtain ⟨d0, d1, d2⟩ := cells3 (K0.out.2 _ (.head _))
    go_wp2_with (first
      | (go_at_call 14; (with_reducible refine (KT.out _).mono ?_); rintro e w5 ⟨rfl, hb5⟩; have K5 := Lib.hid (K0.out.call hb5)))
    refine HK1.out _ _ ?_
    clear HK1
    go_upto_region 9 with fail
    go_cut [54] (fun s54 wr => s54 = .bool true ∧ Kp w wr [(Bd, (.cells #[.int .i64 d, .int .i64 i, .int .i64 f] 23 (0, 0))), (Ba, (.cells #[.int .i64 a, .int .i64 b, .int .i64 c] 23 (0, 0))), (Bc, (.cells #[.int .i64 x, .int .i64 y, .int .i64 z, .int .i64 num, .int .i64 den] 25 (0, 0)))])
    case first =>
      go_wp2_with fail
      go_meet
      exact ⟨rfl, K5.out⟩
    case rest =>
      rename_i q1 hq1 q0 hq
      obtain ⟨rfl, hb⟩ := hcut
      refine hq _ _ ?_
      clear hq
      have HK1 := Lib.hid hq1
      clear hq1
      have K8 := Lib.hid hb
      clear hb
      obtain ⟨y0, y1, y2, y3, y4⟩ := cells5 (K8.out.2 _ (.tail _ (.tail _ (.head _))))
      obtain ⟨b0, b1, b2⟩ := cells3 (K8.out.2 _ (.tail _ (.head _)))
      obtain ⟨e0, e1, e3⟩ := cells3 (K8.out.2 _ (.head _))
      go_wp2_with (first
        | (go_at_call 15; (with_reducible refine (KMm.out _).mono ?_); rintro e w6 ⟨rfl, hb6⟩; have K6 := Lib.hid (K8.out.call hb6)))
      refine HK1.out _ _ ?_
      unfold SCo11 at hT
      exact hT _ _ _ _ _ _ _ _ _ _ _ _ _ _ _ _ _ _ _ _ _ _ _ _ _ _ _ _ _ _ _ _ _ _ _ _ _ _ _ _ _ _ _ _ _ _ _ _ _ _ _ _ _ _ _ _ _ _ _ _ _ _ _ _ _ _ _ _ _ _ _ _ _ _ _ _ _ _ _ (K6.out)

set_option maxRecDepth 1000000 in
set_option maxHeartbeats 12800000 in
theorem sco11 (w : World) (x y z num den a b c d i f f1 f2 e2 : Int) (i1 m1 : Bool) (ce : Int)
    (KC : Hid (∀ w1 : World, Calls Tryz.prog 16 #[.agg #[.int .i64 x, .int .i64 y, .int .i64 z, .int .i64 num, .int .i64 den]] w1 fun e w' => e = .returned (.int .i64 ce) ∧ Below w1.heap.size w1 w'))
    (KD : Hid (∀ w1 : World, Calls Tryz.prog 10 #[.agg #[.int .i64 x, .int .i64 y, .int .i64 z, .int .i64 num, .int .i64 den]] w1 fun e w' => e = .returned (.int .i64 ce) ∧ Below w1.heap.size w1 w'))
    (KW : Hid (∀ w1 : World, Below w.heap.size w w1 → Calls Tryz.prog 17 #[] w1 fun e w' => e = .returned (.bool true) ∧ Below w1.heap.size w1 w'))
    : SCo11 w x y z num den a b c d i f f1 f2 e2 i1 m1 := by
  unfold SCo11
  intro wx Bc Ba Bd u0 u1 u2 u15 u16 u17 u18 u19 u20 u21 u22 u23 u24 u25 u26 u27 u28 u29 u30 u31 u32 u33 u34 u35 u36 u37 u38 u39 u40 u41 u42 u43 u44 u45 u46 u47 u48 u49 u50 u51 u52 u53 u54 u55 u56 u57 u58 u59 u60 u61 u62 u63 u64 u65 u66 u67 u68 u69 u70 u71 u72 u73 u74 u75 u76 u77 u78 u79 u80 u81 u82 u83 u84 u85 u86 hk
  have K0 := Lib.hid hk
  clear hk
  conv => arg 2; whnf
  dsimp only
  have KW2 : Hid (∀ w1 : World, Blw wx.heap.size wx w1 → Calls Tryz.prog 17 #[] w1 fun e w' => e = .returned (.bool true) ∧ Below w1.heap.size w1 w') := Lib.hid fun w1 hb => KW.out w1 ((Kp.below K0.out).trans ((show Below _ _ _ from hb).mono (Kp.below K0.out).size))
  clear KW
  go_upto_region 11 with fail
  apply wp_region_yields (aF := ⟨#[u0, u1, u2, .pointer (some ⟨Bc, 0, none⟩), .pointer (some ⟨Ba, 0, none⟩), .pointer (some ⟨Bd, 0, none⟩), .bool false, .bool i1, .int .i64 f1, .bool m1, .int .i64 e2, .int .i64 f1, .int .i64 e2, .bool i1, .bool m1, u15, u16, u17, u18, u19, u20, u21, u22, u23, u24, u25, u26, u27, u28, u29, u30, u31, u32, u33, u34, u35, u36, u37, u38, u39, u40, u41, u42, u43, u44, u45, u46, u47, u48, u49, u50, u51, u52, u53, u54, u55, u56, u57, u58, .agg #[.int .i64 x, .int .i64 y, .int .i64 z, .int .i64 num, .int .i64 den], .int .i64 ce, .agg #[.int .i64 x, .int .i64 y, .int .i64 z, .int .i64 num, .int .i64 den], .int .i64 ce, .bool true, .bool true, .bool i1, .bool i1, .bool true, .bool true, .bool true, .int .i64 f1, .int .i64 f1, .bool true, .bool true, .bool true, .bool m1, .bool m1, .bool true, .bool true, .bool true, .int .i64 e2, .int .i64 e2, .bool true, .bool true, .bool true, .bool true, .bool true], []⟩) 28 (fun w' => Blw wx.heap.size wx w') [.agg #[.int .i64 x, .int .i64 y, .int .i64 z, .int .i64 num, .int .i64 den], .int .i64 ce, .agg #[.int .i64 x, .int .i64 y, .int .i64 z, .int .i64 num, .int .i64 den], .int .i64 ce, .bool true, .bool true, .bool i1, .bool i1, .bool true, .bool true, .bool true, .int .i64 f1, .int .i64 f1, .bool true, .bool true, .bool true, .bool m1, .bool m1, .bool true, .bool true, .bool true, .int .i64 e2, .int .i64 e2, .bool true, .bool true, .bool true, .bool true, .bool true] (by kernel_rfl) (by kernel_rfl) (show Below _ _ _ from (Below.refl _ _).drew)
  case haF => kernel_rfl
  case h =>
    have hBq := K0.out.2 _ (.tail _ (.tail _ (.head _)))
    simp only [List.take_succ_cons, List.take_zero, YieldsL]
    clear K0
    refine ⟨.no rfl ?_, .no rfl ?_, .no rfl ?_, .no rfl ?_, .no rfl ?_, .no rfl ?_, .yes rfl rfl ?_, .yes rfl rfl ?_, .yes rfl rfl ?_, .no rfl ?_, .no rfl ?_, .yes rfl rfl ?_, .yes rfl rfl ?_, .yes rfl rfl ?_, .no rfl ?_, .no rfl ?_, .yes rfl rfl ?_, .yes rfl rfl ?_, .yes rfl rfl ?_, .no rfl ?_, .no rfl ?_, .yes rfl rfl ?_, .yes rfl rfl ?_, .yes rfl rfl ?_, .no rfl ?_, .no rfl ?_, .yes rfl rfl ?_, .no rfl ?_, trivial⟩
    all_goals
      intro w1 hw1
      obtain ⟨q_0, q_1, q_2, q_3, q_4⟩ := cells5 (((show Below _ _ _ from hw1).block _ (lt_of_blk hBq)).trans hBq)
      unfold Oper.wp
      simp only [execOp]
      go_simp <;> first
        | exact ⟨rfl, hw1⟩
        | ((with_reducible refine (KC.out _).mono ?_); rintro e w2 ⟨rfl, hb⟩; exact ⟨rfl, below_call hb hw1⟩)
        | ((with_reducible refine (KD.out _).mono ?_); rintro e w2 ⟨rfl, hb⟩; exact ⟨rfl, below_call hb hw1⟩)
        | ((with_reducible refine (KW2.out _ hw1).mono ?_); rintro e w2 ⟨rfl, hb⟩; exact ⟨rfl, below_call hb hw1⟩)
  case ht =>
    intro w5 hw5
    have K5 := K0.out.call (show Below _ _ _ from hw5)
    simp only [List.drop_succ_cons, List.drop_zero]
    go_wp2_with fail
    go_ret
    exact ⟨rfl, K5.below⟩
end Go.Proofs.YtggffhmdgceljaaGreatDoor

/-
  Contract of the reference's Inside.
-/
namespace Go.Proofs.YtggffhmdgceljaaGreatDoor
open Go.RowKit
set_option linter.unusedVariables false
set_option linter.unusedSimpArgs false

set_option maxRecDepth 100000 in
set_option maxHeartbeats 6400000 in
theorem refInside_yes (x y z num den a b c d aa pp l r : Int) (w : World)
    (KD : Hid (∀ w1 : World, Calls Tryz.prog 29 #[.agg #[.int .i64 x, .int .i64 y, .int .i64 z], .agg #[.int .i64 a, .int .i64 b, .int .i64 c]] w1 fun e w' => e = .returned (.int .i64 d) ∧ Below w1.heap.size w1 w'))
    (KM : Hid (∀ w1 : World, Calls Tryz.prog 29 #[.agg #[.int .i64 x, .int .i64 y, .int .i64 z], .agg #[.int .i64 x, .int .i64 y, .int .i64 z]] w1 fun e w' => e = .returned (.int .i64 aa) ∧ Below w1.heap.size w1 w'))
    (KN : Hid (∀ w1 : World, Calls Tryz.prog 29 #[.agg #[.int .i64 a, .int .i64 b, .int .i64 c], .agg #[.int .i64 a, .int .i64 b, .int .i64 c]] w1 fun e w' => e = .returned (.int .i64 pp) ∧ Below w1.heap.size w1 w'))
    (dd na : Int) (hd : 0 < d) (w1 : IntKind.i64.wrap (d * d) = dd) (w2 : IntKind.i64.wrap (dd * den) = l) (w3 : IntKind.i64.wrap (num * aa) = na) (w4 : IntKind.i64.wrap (na * pp) = r) :
    Calls Tryz.prog 13 #[.agg #[.int .i64 x, .int .i64 y, .int .i64 z, .int .i64 num, .int .i64 den], .agg #[.int .i64 a, .int .i64 b, .int .i64 c]] w fun e w' => e = .returned (.bool (decide (r ≤ l))) ∧ Below w.heap.size w w' := by
  have hd1 : ((0 : Int) < d) = True := by simp; omega
  have hd2 : decide ((0 : Int) < d) = true := by simp; omega
  clear hd
  obtain ⟨W0, hW0⟩ : ∃ W0, ((w.alloc (.cells #[.int .i64 x, .int .i64 y, .int .i64 z, .int .i64 num, .int .i64 den] 25)).alloc (.cells #[.int .i64 a, .int .i64 b, .int .i64 c] 23)) = W0 := ⟨_, rfl⟩
  have K0 : Hid (Kp w W0 [(w.heap.size + 1, (.cells #[.int .i64 a, .int .i64 b, .int .i64 c] 23 (0, 0))), (w.heap.size, (.cells #[.int .i64 x, .int .i64 y, .int .i64 z, .int .i64 num, .int .i64 den] 25 (0, 0)))]) := Lib.hid (by
    rw [← hW0]
    have k := (((Kp.none w).alloc (.cells #[.int .i64 x, .int .i64 y, .int .i64 z, .int .i64 num, .int .i64 den] 25)).alloc (.cells #[.int .i64 a, .int .i64 b, .int .i64 c] 23))
    simpa using k)
  go_enter Tryz.func13, Tryz.ntmps13
  go_upto_region 1 with fail
  try rw [hW0]
  clear hW0
  obtain ⟨x0, x1, x2, x3, x4⟩ := cells5 (K0.out.2 _ (.tail _ (.head _)))
  obtain ⟨a0, a1, a2⟩ := cells3 (K0.out.2 _ (.head _))
  go_upto_region 2 with (first
    | (go_at_call 29; (with_reducible refine (KD.out _).mono ?_); rintro e w7 ⟨rfl, hb⟩; have K7 := Lib.hid (K0.out.call hb); clear hb))
  clear x0 x1 x2 x3 x4 a0 a1 a2 K0
  apply wp_region_yields 23 (fun w' => Blw w7.heap.size w7 w') [.int .i64 d, .bool true, .bool true, .int .i64 d, .int .i64 d, .int .i64 dd, .pointer (some ⟨w.heap.size, 4, none⟩), .int .i64 den, .int .i64 l, .pointer (some ⟨w.heap.size, 3, none⟩), .int .i64 num, .pointer (some ⟨w.heap.size, 0, none⟩), .agg #[.int .i64 x, .int .i64 y, .int .i64 z], .pointer (some ⟨w.heap.size, 0, none⟩), .agg #[.int .i64 x, .int .i64 y, .int .i64 z], .int .i64 aa, .int .i64 na, .agg #[.int .i64 a, .int .i64 b, .int .i64 c], .agg #[.int .i64 a, .int .i64 b, .int .i64 c], .int .i64 pp, .int .i64 r, .bool (decide (r ≤ l)), .bool (decide (r ≤ l))] (by kernel_rfl) (by kernel_rfl) (show Below _ _ _ from (Below.refl _ _).drew)
  case haF =>
    simp [putJs, Act.put, List.range, List.range.loop]
    exact rfl
  case h =>
    have hBy := K7.out.2 _ (.head _)
    have hBc := K7.out.2 _ (.tail _ (.head _))
    simp only [List.take_succ_cons, List.take_zero, YieldsL]
    clear K7
    refine ⟨.no rfl ?_, .no rfl ?_, .no rfl ?_, .yes rfl rfl ?_, .yes rfl rfl ?_, .yes rfl rfl ?_, .yes rfl rfl ?_, .yes rfl rfl ?_, .yes rfl rfl ?_, .yes rfl rfl ?_, .yes rfl rfl ?_, .yes rfl rfl ?_, .yes rfl rfl ?_, .yes rfl rfl ?_, .yes rfl rfl ?_, .yes rfl rfl ?_, .yes rfl rfl ?_, .yes rfl rfl ?_, .yes rfl rfl ?_, .yes rfl rfl ?_, .yes rfl rfl ?_, .yes rfl rfl ?_, .no rfl ?_, trivial⟩
    all_goals
      intro w1 hw1
      obtain ⟨y_0, y_1, y_2⟩ := cells3 (((show Below _ _ _ from hw1).block _ (lt_of_blk hBy)).trans hBy)
      obtain ⟨c_0, c_1, c_2, c_3, c_4⟩ := cells5 (((show Below _ _ _ from hw1).block _ (lt_of_blk hBc)).trans hBc)
      unfold Oper.wp
      simp only [execOp]
      go_simp <;> first
        | exact ⟨rfl, hw1⟩
        | ((with_reducible refine (KM.out _).mono ?_); rintro e w2 ⟨rfl, hb⟩; exact ⟨rfl, below_call hb hw1⟩)
        | ((with_reducible refine (KN.out _).mono ?_); rintro e w2 ⟨rfl, hb⟩; exact ⟨rfl, below_call hb hw1⟩)
  case ht =>
    intro w8 hw5
    have hb5 := Lib.hid ((Kp.below K7.out).trans ((show Below _ _ _ from hw5).mono (Kp.below K7.out).size))
    clear hw5 K7
    simp only [List.drop_succ_cons, List.drop_zero]
    go_wp2_with fail
    go_ret
    exact ⟨rfl, hb5.out⟩

set_option maxRecDepth 100000 in
set_option maxHeartbeats 6400000 in
theorem refInside_no (x y z num den a b c d aa pp l r : Int) (w : World)
    (KD : Hid (∀ w1 : World, Calls Tryz.prog 29 #[.agg #[.int .i64 x, .int .i64 y, .int .i64 z], .agg #[.int .i64 a, .int .i64 b, .int .i64 c]] w1 fun e w' => e = .returned (.int .i64 d) ∧ Below w1.heap.size w1 w'))
    (dd na : Int) (hd : d ≤ 0)  :
    Calls Tryz.prog 13 #[.agg #[.int .i64 x, .int .i64 y, .int .i64 z, .int .i64 num, .int .i64 den], .agg #[.int .i64 a, .int .i64 b, .int .i64 c]] w fun e w' => e = .returned (.bool false) ∧ Below w.heap.size w w' := by
  have hd1 : ((0 : Int) < d) = False := by simp; omega
  have hd2 : decide ((0 : Int) < d) = false := by simp; omega
  clear hd
  obtain ⟨W0, hW0⟩ : ∃ W0, ((w.alloc (.cells #[.int .i64 x, .int .i64 y, .int .i64 z, .int .i64 num, .int .i64 den] 25)).alloc (.cells #[.int .i64 a, .int .i64 b, .int .i64 c] 23)) = W0 := ⟨_, rfl⟩
  have K0 : Hid (Kp w W0 [(w.heap.size + 1, (.cells #[.int .i64 a, .int .i64 b, .int .i64 c] 23 (0, 0))), (w.heap.size, (.cells #[.int .i64 x, .int .i64 y, .int .i64 z, .int .i64 num, .int .i64 den] 25 (0, 0)))]) := Lib.hid (by
    rw [← hW0]
    have k := (((Kp.none w).alloc (.cells #[.int .i64 x, .int .i64 y, .int .i64 z, .int .i64 num, .int .i64 den] 25)).alloc (.cells #[.int .i64 a, .int .i64 b, .int .i64 c] 23))
    simpa using k)
  go_enter Tryz.func13, Tryz.ntmps13
  go_upto_region 1 with fail
  try rw [hW0]
  clear hW0
  obtain ⟨x0, x1, x2, x3, x4⟩ := cells5 (K0.out.2 _ (.tail _ (.head _)))
  obtain ⟨a0, a1, a2⟩ := cells3 (K0.out.2 _ (.head _))
  go_upto_region 2 with (first
    | (go_at_call 29; (with_reducible refine (KD.out _).mono ?_); rintro e w7 ⟨rfl, hb⟩; have K7 := Lib.hid (K0.out.call hb); clear hb))
  clear x0 x1 x2 x3 x4 a0 a1 a2 K0
  apply wp_region_yields 23 (fun w' => Blw w7.heap.size w7 w') [.int .i64 d, .bool false, .bool false, undef, undef, undef, undef, undef, undef, undef, undef, undef, undef, undef, undef, undef, undef, undef, undef, undef, undef, undef, .bool false] (by kernel_rfl) (by kernel_rfl) (show Below _ _ _ from (Below.refl _ _).drew)
  case haF =>
    simp [putJs, Act.put, List.range, List.range.loop]
    exact rfl
  case h =>
    have hBy := K7.out.2 _ (.head _)
    have hBc := K7.out.2 _ (.tail _ (.head _))
    simp only [List.take_succ_cons, List.take_zero, YieldsL]
    clear K7
    refine ⟨.no rfl ?_, .no rfl ?_, .no rfl ?_, .not rfl rfl, .not rfl rfl, .not rfl rfl, .not rfl rfl, .not rfl rfl, .not rfl rfl, .not rfl rfl, .not rfl rfl, .not rfl rfl, .not rfl rfl, .not rfl rfl, .not rfl rfl, .not rfl rfl, .not rfl rfl, .not rfl rfl, .not rfl rfl, .not rfl rfl, .not rfl rfl, .not rfl rfl, .no rfl ?_, trivial⟩
    all_goals
      intro w1 hw1
      obtain ⟨y_0, y_1, y_2⟩ := cells3 (((show Below _ _ _ from hw1).block _ (lt_of_blk hBy)).trans hBy)
      obtain ⟨c_0, c_1, c_2, c_3, c_4⟩ := cells5 (((show Below _ _ _ from hw1).block _ (lt_of_blk hBc)).trans hBc)
      unfold Oper.wp
      simp only [execOp]
      go_simp <;> first
        | exact ⟨rfl, hw1⟩
  case ht =>
    intro w8 hw5
    have hb5 := Lib.hid ((Kp.below K7.out).trans ((show Below _ _ _ from hw5).mono (Kp.below K7.out).size))
    clear hw5 K7
    simp only [List.drop_succ_cons, List.drop_zero]
    go_wp2_with fail
    go_ret
    exact ⟨rfl, hb5.out⟩

theorem refDot_ray {x y z a b c : Int} (h : Ray3 x y z) (k : Ray3 a b c) (w : World) :
    Calls Tryz.prog 29 #[.agg #[.int .i64 x, .int .i64 y, .int .i64 z], .agg #[.int .i64 a, .int .i64 b, .int .i64 c]] w fun e w' => e = .returned (.int .i64 (dot3 x y z a b c)) ∧ Below w.heap.size w w' := by
  obtain ⟨h1, h2, h3⟩ := h
  obtain ⟨k1, k2, k3⟩ := k
  exact refDot_any x y z a b c (fit_small h1 k1) (fit_small h2 k2) (fit_small h3 k3) w
set_option maxHeartbeats 800000 in
theorem refInside_any (x y z num den a b c : Int) (hx : Ray3 x y z) (ha : Ray3 a b c) (hs : Share num den) (w : World) :
    Calls Tryz.prog 13 #[.agg #[.int .i64 x, .int .i64 y, .int .i64 z, .int .i64 num, .int .i64 den], .agg #[.int .i64 a, .int .i64 b, .int .i64 c]] w fun e w' => e = .returned (.bool (insB x y z num den a b c)) ∧ Below w.heap.size w w' := by
  have KD := fun w1 => refDot_ray hx ha w1
  have KM := fun w1 => refDot_ray hx hx w1
  have KN := fun w1 => refDot_ray ha ha w1
  obtain ⟨h1, h2, h3⟩ := hx
  obtain ⟨k1, k2, k3⟩ := ha
  obtain ⟨⟨s1, s2⟩, s3, s4⟩ := hs
  have hd := dot_ray h1 h2 h3 k1 k2 k3
  have hp := dot_ray h1 h2 h3 h1 h2 h3
  have hq := dot_ray k1 k2 k3 k1 k2 k3
  have m1 := mul_abs hd hd
  have m2 := mul_abs m1 (show -100 ≤ den ∧ den ≤ 100 by omega)
  have m3 := mul_abs (show -100 ≤ num ∧ num ≤ 100 by omega) hp
  have m4 := mul_abs m3 hq
  by_cases h0 : 0 < dot3 x y z a b c
  · have e : insB x y z num den a b c = decide (num * dot3 x y z x y z * dot3 a b c a b c ≤ dot3 x y z a b c * dot3 x y z a b c * den) := by
      unfold insB
      refine decide_eq_decide.2 ⟨fun h => h.2, fun h => ⟨h0, h⟩⟩
    rw [e]
    exact refInside_yes x y z num den a b c (dot3 x y z a b c) (dot3 x y z x y z) (dot3 a b c a b c) _ _ w (Lib.hid KD) (Lib.hid KM) (Lib.hid KN) (dot3 x y z a b c * dot3 x y z a b c) (num * dot3 x y z x y z) h0 (IntWalk.i64_in _ ⟨by omega, by omega⟩) (IntWalk.i64_in _ ⟨by omega, by omega⟩) (IntWalk.i64_in _ ⟨by omega, by omega⟩) (IntWalk.i64_in _ ⟨by omega, by omega⟩)
  · have e : insB x y z num den a b c = false := decide_eq_false fun h => h0 h.1
    rw [e]
    exact refInside_no x y z num den a b c (dot3 x y z a b c) 0 0 0 0 w (Lib.hid KD) 0 0 (by omega)
end Go.Proofs.YtggffhmdgceljaaGreatDoor

/-
  Contract of the reference's Meets, for turns.
-/
namespace Go.Proofs.YtggffhmdgceljaaGreatDoor
open Go.RowKit
set_option linter.unusedVariables false
set_option linter.unusedSimpArgs false

theorem refDot_turn {x y z a b c : Int} (h : Turn3 x y z) (k : Turn3 a b c) (w : World) :
    Calls Tryz.prog 29 #[.agg #[.int .i64 x, .int .i64 y, .int .i64 z], .agg #[.int .i64 a, .int .i64 b, .int .i64 c]] w fun e w' => e = .returned (.int .i64 (dot3 x y z a b c)) ∧ Below w.heap.size w w' := by
  exact refDot_ray (turn_ray h) (turn_ray k) w
set_option maxHeartbeats 1600000 in
theorem refMeets_pass (x y z num den a b c d i f : Int) (hx : Turn3 x y z) (ha : Turn3 a b c) (hd : Turn3 d i f) (hs : Share num den) (w : World)
    (HI1 : Hid (∀ w1 : World, Calls Tryz.prog 13 #[.agg #[.int .i64 x, .int .i64 y, .int .i64 z, .int .i64 num, .int .i64 den], .agg #[.int .i64 a, .int .i64 b, .int .i64 c]] w1 fun e w' => e = .returned (.bool false) ∧ Below w1.heap.size w1 w'))
    (HI2 : Hid (∀ w1 : World, Calls Tryz.prog 13 #[.agg #[.int .i64 x, .int .i64 y, .int .i64 z, .int .i64 num, .int .i64 den], .agg #[.int .i64 d, .int .i64 i, .int .i64 f]] w1 fun e w' => e = .returned (.bool false) ∧ Below w1.heap.size w1 w'))
    (HS : Hid (∀ w1 : World, Calls Tryz.prog 53 #[.agg #[.int .i64 a, .int .i64 b, .int .i64 c], .agg #[.int .i64 d, .int .i64 i, .int .i64 f]] w1 fun e w' => e = .returned (.bool false) ∧ Below w1.heap.size w1 w')) :
    Calls Tryz.prog 15 #[.agg #[.int .i64 x, .int .i64 y, .int .i64 z, .int .i64 num, .int .i64 den], .agg #[.int .i64 a, .int .i64 b, .int .i64 c], .agg #[.int .i64 d, .int .i64 i, .int .i64 f]] w fun e w' => e = .returned (.bool (passB x y z num den a b c d i f)) ∧ Below w.heap.size w w' := by
  obtain ⟨⟨s1, s2⟩, s3, s4⟩ := hs
  have Kpp := fun w1 => refDot_turn ha ha w1
  have Kpq := fun w1 => refDot_turn ha hd w1
  have Kqq := fun w1 => refDot_turn hd hd w1
  have Kap := fun w1 => refDot_turn hx ha w1
  have Kaq := fun w1 => refDot_turn hx hd w1
  have Kaa := fun w1 => refDot_turn hx hx w1
  have bpp := dot_turn ha ha
  have bpq := dot_turn ha hd
  have bqq := dot_turn hd hd
  have bap := dot_turn hx ha
  have baq := dot_turn hx hd
  have baa := dot_turn hx hx
  have hv : passB x y z num den a b c d i f = passB x y z num den a b c d i f := rfl
  conv at hv => rhs; unfold passB
  clear hx ha hd
  revert Kpp Kpq Kqq Kap Kaq Kaa bpp bpq bqq bap baq baa hv
  generalize dot3 a b c a b c = pp
  generalize dot3 a b c d i f = pq
  generalize dot3 d i f d i f = qq
  generalize dot3 x y z a b c = ap
  generalize dot3 x y z d i f = aq
  generalize dot3 x y z x y z = aa
  intro Kpp Kpq Kqq Kap Kaq Kaa bpp bpq bqq bap baq baa hv
  have m1 := mul_abs bap bqq
  have m2 := mul_abs baq bpq
  have m3 := mul_abs baq bpp
  have m4 := mul_abs bap bpq
  have bX : -77309411328 ≤ wayX ap aq pq qq ∧ wayX ap aq pq qq ≤ 77309411328 := by unfold wayX; omega
  have bY : -77309411328 ≤ wayX aq ap pq pp ∧ wayX aq ap pq pp ≤ 77309411328 := by unfold wayX; omega
  have ii : ∀ {n : Int}, -9000000000000000000 ≤ n → n ≤ 9000000000000000000 → IntKind.i64.wrap n = n := fun h k => IntWalk.i64_in _ ⟨by omega, by omega⟩
  have w1 : IntKind.i64.wrap (ap * qq) = ap * qq := ii (by omega) (by omega)
  have w2 : IntKind.i64.wrap (aq * pq) = aq * pq := ii (by omega) (by omega)
  have w3 : IntKind.i64.wrap (ap * qq - aq * pq) = wayX ap aq pq qq := ii (by omega) (by omega)
  have w4 : IntKind.i64.wrap (aq * pp) = aq * pp := ii (by omega) (by omega)
  have w5 : IntKind.i64.wrap (ap * pq) = ap * pq := ii (by omega) (by omega)
  have w6 : IntKind.i64.wrap (aq * pp - ap * pq) = wayX aq ap pq pp := ii (by omega) (by omega)
  by_cases hX : 0 < wayX ap aq pq qq
  · by_cases hY : 0 < wayX aq ap pq pp
    · have m5 := mul_abs bpp bqq
      have m6 := mul_abs bpq bpq
      have bD : -77309411328 ≤ pp * qq - pq * pq ∧ pp * qq - pq * pq ≤ 77309411328 := by omega
      generalize wayX ap aq pq qq = X at *
      generalize wayX aq ap pq pp = Y at *
      have m7 := mul_abs bX bap
      have m8 := mul_abs bY baq
      have v1 : IntKind.i64.wrap (pp * qq) = pp * qq := ii (by omega) (by omega)
      have v2 : IntKind.i64.wrap (pq * pq) = pq * pq := ii (by omega) (by omega)
      have v3 : IntKind.i64.wrap (pp * qq - pq * pq) = pp * qq - pq * pq := ii (by omega) (by omega)
      have v4 : IntKind.i64.wrap (X * ap) = X * ap := ii (by omega) (by omega)
      have v5 : IntKind.i64.wrap (Y * aq) = Y * aq := ii (by omega) (by omega)
      have v6 : IntKind.i64.wrap (X * ap + Y * aq) = X * ap + Y * aq := ii (by omega) (by omega)
      have bT : -30500000000000000 ≤ X * ap + Y * aq ∧ X * ap + Y * aq ≤ 30500000000000000 := by omega
      have m9 := mul_abs bT (show -100 ≤ den ∧ den ≤ 100 by omega)
      have m10 := mul_abs (show -100 ≤ num ∧ num ≤ 100 by omega) bD
      have m11 := mul_abs m10 baa
      have u1 : IntKind.i64.wrap ((X * ap + Y * aq) * den) = (X * ap + Y * aq) * den := ii (by omega) (by omega)
      have u2 : IntKind.i64.wrap (num * (pp * qq - pq * pq)) = num * (pp * qq - pq * pq) := ii (by omega) (by omega)
      have u3 : IntKind.i64.wrap (num * (pp * qq - pq * pq) * aa) = num * (pp * qq - pq * pq) * aa := ii (by omega) (by omega)
      have ev : passB x y z num den a b c d i f = decide (num * (pp * qq - pq * pq) * aa ≤ (X * ap + Y * aq) * den) := by
        rw [hv]
        exact decide_eq_decide.2 ⟨fun h => h.2.2, fun h => ⟨hX, hY, h⟩⟩
      rw [ev]
      exact refMeets_yes x y z num den a b c d i f pp pq qq ap aq aa _ _ X _ _ Y w HI1 HI2 HS (Lib.hid Kpp) (Lib.hid Kqq) (Lib.hid Kpq) (Lib.hid Kap) (Lib.hid Kaq) (Lib.hid Kaa) w1 w2 w3 w4 w5 w6 _ _ _ _ _ _ _ _ _ v1 v2 v3 v4 v5 v6 u1 u2 u3 hX hY
    · have ev : passB x y z num den a b c d i f = false := by rw [hv]; exact decide_eq_false fun h => hY h.2.1
      rw [ev]
      exact refMeets_no2 x y z num den a b c d i f pp pq qq ap aq aa _ _ _ _ _ _ w HI1 HI2 HS (Lib.hid Kpp) (Lib.hid Kqq) (Lib.hid Kpq) (Lib.hid Kap) (Lib.hid Kaq) w1 w2 w3 w4 w5 w6 hX (Int.not_lt.1 hY)
  · have ev : passB x y z num den a b c d i f = false := by rw [hv]; exact decide_eq_false fun h => hX h.1
    rw [ev]
    exact refMeets_no1 x y z num den a b c d i f pp pq qq ap aq aa _ _ _ _ _ _ w HI1 HI2 HS (Lib.hid Kpp) (Lib.hid Kqq) (Lib.hid Kpq) (Lib.hid Kap) (Lib.hid Kaq) w1 w2 w3 w4 w5 w6 (Int.not_lt.1 hX)

/-- Two turns of one direction have nothing between them. -/
theorem pass_same {x y z num den a b c d e f : Int} (ha : ¬ (a = 0 ∧ b = 0 ∧ c = 0)) (hb : ¬ (d = 0 ∧ e = 0 ∧ f = 0)) (h : sameB a b c d e f = true) : passB x y z num den a b c d e f = false := by
  have h := of_decide_eq_true h
  simp only [List.cons.injEq, and_true] at h
  obtain ⟨q1, q2, q3⟩ := h
  obtain ⟨k, hk, f1, f2, f3⟩ := (red_of ha).ex
  obtain ⟨l, hl, g1, g2, g3'⟩ := (red_of hb).ex
  rw [q1] at f1
  rw [q2] at f2
  rw [q3] at f3
  generalize d.tdiv (g3 d e f) = r1 at *
  generalize e.tdiv (g3 d e f) = r2 at *
  generalize f.tdiv (g3 d e f) = r3 at *
  refine decide_eq_false fun ⟨h1, _⟩ => ?_
  unfold wayX at h1
  rw [f1, f2, f3, g1, g2, g3'] at h1
  simp only [dot_linr, dot_lin] at h1
  generalize dot3 x y z r1 r2 r3 = u at h1
  generalize dot3 r1 r2 r3 r1 r2 r3 = v at h1
  grind
set_option maxHeartbeats 1600000 in
theorem refMeets_any (x y z num den a b c d i f : Int) (hb : meetsErr x y z num den a b c d i f = 0) (w : World) :
    Calls Tryz.prog 15 #[.agg #[.int .i64 x, .int .i64 y, .int .i64 z, .int .i64 num, .int .i64 den], .agg #[.int .i64 a, .int .i64 b, .int .i64 c], .agg #[.int .i64 d, .int .i64 i, .int .i64 f]] w fun e w' => e = .returned (.bool (meetB x y z num den a b c d i f)) ∧ Below w.heap.size w w' := by
  obtain ⟨⟨hs, h1, h2, h3⟩, t1, t2, t3⟩ := meets_valid hb
  have K1 := fun w1 => refInside_any x y z num den a b c (turn_ray t1) (turn_ray t2) hs w1
  have K2 := fun w1 => refInside_any x y z num den d i f (turn_ray t1) (turn_ray t3) hs w1
  have KS := fun w1 => refSame_ok h2 h3 w1
  unfold meetB
  cases i1 : insB x y z num den a b c with
  | true => rw [i1] at K1; exact refMeets_in1 x y z num den a b c d i f w (Lib.hid K1)
  | false =>
    rw [i1] at K1
    cases i2 : insB x y z num den d i f with
    | true => rw [i2] at K2; exact refMeets_in2 x y z num den a b c d i f w (Lib.hid K1) (Lib.hid K2)
    | false =>
      rw [i2] at K2
      cases i3 : sameB a b c d i f with
      | true =>
        rw [i3] at KS
        rw [pass_same (dir_ok (ray_ok h2).1).1 (dir_ok (ray_ok h3).1).1 i3]
        exact refMeets_same x y z num den a b c d i f w (Lib.hid K1) (Lib.hid K2) (Lib.hid KS)
      | false =>
        rw [i3] at KS
        exact refMeets_pass x y z num den a b c d i f t1 t2 t3 hs w (Lib.hid K1) (Lib.hid K2) (Lib.hid KS)
end Go.Proofs.YtggffhmdgceljaaGreatDoor

/-
  What the rows of chapter 2 share: arguments that come in, opened; the tables that the program reads; a world for the witness.
-/
namespace Go.Proofs.YtggffhmdgceljaaGreatDoor
open Go.ChangeShapes Go.WideShapes Go.ChangeAt Go.RowKit Go.Joins Go.Deep
set_option linter.unusedVariables false
set_option linter.unusedSimpArgs false
set_option maxRecDepth 100000

theorem ownKnobOff : ownKnob Tryz.prog.godebug = none := by kernel_rfl
theorem laidOut : laidOutB Tryz.prog = true := by kernel_rfl
theorem cellsVec : Tryz.prog.cellsOf 23 = 3 := by kernel_rfl

/-- A vector that comes in, opened. -/
theorem openVec {H : Type} {enc : TypeId × Value → H} {W : World} {b0 : Nat} {v : Value} {d : DataW H} {p : List MemPlace}
    (hv : Value.okWide Tryz.prog W .any b0 23 v) (h : DataW.Trod enc Tryz.prog W 0 (fun _ => true) true 23 v d p) :
    ∃ (x y z : Int), v = .agg #[.int .i64 x, .int .i64 y, .int .i64 z] := by
  obtain ⟨c0, c1, c2, y0, y1, y2, k, rfl, rfl, rfl, h0, h1, h2⟩ := open_agg3 Tryz.underlying23 (by kernel_rfl) cellsVec hv h
  obtain ⟨X, e0, rfl, wX⟩ := DataW.trod_int Tryz.underlying3 h0
  obtain ⟨Y, e1, rfl, wY⟩ := DataW.trod_int Tryz.underlying3 h1
  obtain ⟨Z, e2, rfl, wZ⟩ := DataW.trod_int Tryz.underlying3 h2
  simp at e0 e1 e2
  subst e0 e1 e2
  exact ⟨X, Y, Z, rfl⟩

theorem gTab : Tryz.prog.globalNamed "internal/strconv.uint64pow10" = some 2 := by kernel_rfl
theorem gTabType : (Tryz.prog.globals[2]?).map (·.type) = some 197 := by kernel_rfl
theorem cellsTab : Tryz.prog.cellsOf 197 = 20 := by kernel_rfl
theorem cellsU : Tryz.prog.cellsOf 191 = 1 := by kernel_rfl
theorem gAxes : Tryz.prog.globalNamed "spillage/sun.axes" = some 0 := by kernel_rfl
theorem gAxesType : (Tryz.prog.globals[0]?).map (·.type) = some 132 := by kernel_rfl
theorem cellsAxes : Tryz.prog.cellsOf 132 = 9 := by kernel_rfl
theorem cellsParts : Tryz.prog.cellsOf 94 = 3 := by kernel_rfl
theorem cellsInt1 : Tryz.prog.cellsOf 3 = 1 := by kernel_rfl
def laidSun : List (String × DataW Unit) := Rows.sunConesRow.laid
theorem tabAt_of {W : World} (h : laidMetH Tryz.prog laidSun W) : TabAt W := by
  have h2 := h.filter (fun x => x.1 == "internal/strconv.uint64pow10")
  have e : laidSun.filter (fun x => x.1 == "internal/strconv.uint64pow10") = [("internal/strconv.uint64pow10", Lib.tabData .u64 Lib.pow10Tab)] := by kernel_rfl
  rw [e] at h2
  exact Lib.tabIs_of_head (rest := []) gTab gTabType Tryz.underlying197 Tryz.underlying191 cellsU cellsTab h2

def litI {H : Type} (z : Int) : DataW H := .lit (.int .i64 z)
theorem axesIn_of {W : World} (h0 : laidMetH Tryz.prog laidSun W) : AxesIn W := by
  have h2 := h0.filter (fun x => x.1 == "spillage/sun.axes")
  have e : laidSun.filter (fun x => x.1 == "spillage/sun.axes") = [("spillage/sun.axes", .agg [.agg [litI 1, litI 0, litI 0], .agg [litI 0, litI 1, litI 0], .agg [litI 0, litI 0, litI 1]])] := by kernel_rfl
  rw [e] at h2
  obtain ⟨ps, ⟨g', t', cs, fuel, p, q, hg', ht', hvar, hd, _, _⟩, _⟩ := h2
  obtain rfl := Option.some.inj (gAxes.symm.trans hg')
  obtain rfl := Option.some.inj (gAxesType.symm.trans ht')
  obtain ⟨xs, m, _, hx, hlen, hl, hi⟩ := DataW.trod_array Tryz.underlying132 hd
  rw [cellsAxes] at hlen
  rw [cellsParts] at hi
  have hx1 := congrArg Prod.fst hx
  have key : ∀ (i : Nat) (a b c : Int), i < 3 → (xs.map (·.1))[i]? = some (.agg [litI a, litI b, litI c]) → cs[i * 3]? = some (.int .i64 a) ∧ cs[i * 3 + 1]? = some (.int .i64 b) ∧ cs[i * 3 + 2]? = some (.int .i64 c) := by
    intro i a b c hlt hc
    have h := hi i hlt
    obtain ⟨y, hy⟩ : ∃ y, xs[i]? = some y := ⟨_, List.getElem?_eq_getElem (by omega)⟩
    rw [hy] at h
    rw [List.getElem?_map, hy] at hc
    have hy1 : y.1 = .agg [litI a, litI b, litI c] := by simpa using hc
    obtain ⟨ys, k, _, ey, _, hl2, hj⟩ := DataW.trod_array Tryz.underlying94 h
    rw [cellsInt1] at hj
    obtain ⟨y0, y1, y2, rfl⟩ : ∃ y0 y1 y2, ys = [y0, y1, y2] := by
      match ys, hl2 with
      | [y0, y1, y2], _ => exact ⟨y0, y1, y2, rfl⟩
    have k0 := hj 0 (by omega)
    have k1 := hj 1 (by omega)
    have k2 := hj 2 (by omega)
    simp only [List.getElem?_cons_zero, List.getElem?_cons_succ] at k0 k1 k2
    obtain ⟨A, e0, f0, _⟩ := DataW.trod_int Tryz.underlying3 k0
    obtain ⟨B, e2, f1, _⟩ := DataW.trod_int Tryz.underlying3 k1
    obtain ⟨C, e3, f2, _⟩ := DataW.trod_int Tryz.underlying3 k2
    subst ey f0 f1 f2
    simp only [litI, DataW.agg.injEq, List.cons.injEq, DataW.lit.injEq, Lit.int.injEq, true_and, and_true] at hy1
    obtain ⟨rfl, rfl, rfl⟩ := hy1
    have g0 := congrArg (·[0]?) e0
    have g1 := congrArg (·[0]?) e2
    have g2 := congrArg (·[0]?) e3
    simp [List.getElem?_take, List.getElem?_drop] at g0 g1 g2
    refine ⟨?_, ?_, ?_⟩
    · simpa using g0
    · simpa using g1
    · simpa using g2
  have hx2 : xs.map (·.1) = [.agg [litI 1, litI 0, litI 0], .agg [litI 0, litI 1, litI 0], .agg [litI 0, litI 0, litI 1]] := by
    simpa using hx1.symm
  obtain ⟨a0, a1, a2⟩ := key 0 1 0 0 (by omega) (by rw [hx2]; rfl)
  obtain ⟨b0, b1, b2⟩ := key 1 0 1 0 (by omega) (by rw [hx2]; rfl)
  obtain ⟨c0, c1, c2⟩ := key 2 0 0 1 (by omega) (by rw [hx2]; rfl)
  have hc : ∀ k, k < 9 → W.cell? ⟨0, k, none⟩ = some (.int .i64 (([1, 0, 0, 0, 1, 0, 0, 0, 1] : List Int)[k]?.getD 0)) := by
    intro k hk
    rw [World.var?_cell gAxes hvar k]
    match k, hk with
    | 0, _ => simpa using a0
    | 1, _ => simpa using a1
    | 2, _ => simpa using a2
    | 3, _ => simpa using b0
    | 4, _ => simpa using b1
    | 5, _ => simpa using b2
    | 6, _ => simpa using c0
    | 7, _ => simpa using c1
    | 8, _ => simpa using c2
  exact ⟨hc, World.block_lt_of_cell? _ _ (hc 0 (by omega))⟩

/-- A world for the witness: the settled one, the listed variables holding what the list says. -/
noncomputable def laidWorld (os : Os) : World := World.laidAll Tryz.prog os laidSun
theorem laid_met (os : Os) (args : Array Value) : laidMet Tryz.prog laidSun ((laidWorld os).forCall (fun _ _ => 0) ⟨#[], args, []⟩).memory :=
  laidMet_laidAll args (by kernel_rfl) (by kernel_rfl)
end Go.Proofs.YtggffhmdgceljaaGreatDoor

/-
  Cones that come in, opened.
-/
namespace Go.Proofs.YtggffhmdgceljaaGreatDoor
open Go.ChangeShapes Go.WideShapes Go.ChangeAt Go.RowKit Go.Joins Go.Deep
set_option linter.unusedVariables false
set_option maxRecDepth 100000

theorem cellsRCone : Tryz.prog.cellsOf 25 = 5 := by kernel_rfl
theorem listS5 {α : Type} {l : List α} (h : l.length = 5) : ∃ a b c d e, l = [a, b, c, d, e] := by
  match l, h with
  | [a, b, c, d, e], _ => exact ⟨a, b, c, d, e, rfl⟩
/-- A cone that comes in, opened. -/
theorem openCone {H : Type} {enc : TypeId × Value → H} {W : World} {b0 : Nat} {v : Value} {d : DataW H} {p : List MemPlace}
    (hv : Value.okWide Tryz.prog W .any b0 25 v) (h : DataW.Trod enc Tryz.prog W 0 (fun _ => true) true 25 v d p) :
    ∃ (x y z n m : Int), v = .agg #[.int .i64 x, .int .i64 y, .int .i64 z, .int .i64 n, .int .i64 m] := by
  obtain ⟨cs, rfl, hsz⟩ := okWide_struct Tryz.underlying25 hv
  obtain ⟨fuel, hf⟩ := h
  obtain ⟨l, rfl⟩ : ∃ l : List Value, cs = l.toArray := ⟨cs.toList, by simp⟩
  have hl : l.length = 5 := by simpa using hsz.trans cellsRCone
  obtain ⟨c0, c1, c2, c3, c4, rfl⟩ := listS5 hl
  obtain ⟨y0, y1, y2, n, _, _, h0, h1, h2⟩ := trod_struct3 Tryz.underlying25 hf
  have e1 : Tryz.prog.cellsOf 3 = 1 := cellsInt1
  have e3 : Tryz.prog.cellsOf 23 = 3 := cellsVec
  simp only [Value.cells, e1, e3] at h0 h1 h2
  obtain ⟨X3, q3, _, _⟩ := DataW.trod_int Tryz.underlying3 h1
  obtain ⟨X4, q4, _, _⟩ := DataW.trod_int Tryz.underlying3 h2
  obtain ⟨xs, m, _, _, _, hlen, hg⟩ := DataW.trod_struct Tryz.underlying23 h0
  match xs, hlen with
  | [z0, z1, z2], _ =>
    have g0 : DataW.trod enc Tryz.prog W 0 (fun _ => true) true m 3 (([c0, c1, c2].drop 0).take (Tryz.prog.cellsOf 3)) = some z0 := hg 0 _ rfl
    have g1 : DataW.trod enc Tryz.prog W 0 (fun _ => true) true m 3 (([c0, c1, c2].drop 1).take (Tryz.prog.cellsOf 3)) = some z1 := hg 1 _ rfl
    have g2 : DataW.trod enc Tryz.prog W 0 (fun _ => true) true m 3 (([c0, c1, c2].drop 2).take (Tryz.prog.cellsOf 3)) = some z2 := hg 2 _ rfl
    rw [e1] at g0 g1 g2
    obtain ⟨X0, q0, _, _⟩ := DataW.trod_int Tryz.underlying3 g0
    obtain ⟨X1, q1, _, _⟩ := DataW.trod_int Tryz.underlying3 g1
    obtain ⟨X2, q2, _, _⟩ := DataW.trod_int Tryz.underlying3 g2
    simp at q0 q1 q2 q3 q4
    subst q0 q1 q2 q3 q4
    exact ⟨X0, X1, X2, X3, X4, rfl⟩
end Go.Proofs.YtggffhmdgceljaaGreatDoor

/-
  Closed facts of the program alone, which every card asks: each one by itself, as the kernel's memory wants.
-/
namespace Go.Proofs.YtggffhmdgceljaaGreatDoor
open Go.ChangeShapes Go.WideShapes Go.ChangeAt Go.RowKit Go.Joins Go.Deep
set_option linter.unusedVariables false

theorem band {a b : Bool} (ha : a = true) (hb : b = true) : (a && b) = true := by rw [ha, hb]; rfl
theorem pLaid : laidOutB Tryz.pinned.checked.prog = true := by kernel_rfl
theorem pMaps : mapsRowed Tryz.pinned.checked.prog = true := by kernel_rfl
theorem pStops : (Tryz.pinned.checked.prog.stops == []) = true := by kernel_rfl
theorem pKnobs : (Tryz.pinned.checked.prog.stopKnobs == []) = true := by kernel_rfl
theorem pMake : (Tryz.pinned.checked.prog.make == some Rows.sunConesRow.make) = true := by kernel_rfl
end Go.Proofs.YtggffhmdgceljaaGreatDoor

/-
  More closed facts of the program alone.
-/
namespace Go.Proofs.YtggffhmdgceljaaGreatDoor
open Go.ChangeShapes Go.WideShapes Go.ChangeAt Go.RowKit Go.Joins Go.Deep
set_option linter.unusedVariables false

theorem pKeys : (Rows.sunConesRow.plainKeys == Tryz.pinned.checked.prog.plainKeys) = true := by kernel_rfl
theorem pHeard : Tryz.pinned.checked.prog.stopsHeard = true := by kernel_rfl
theorem pEnter : Tryz.pinned.checked.prog.mayEnter = true := by kernel_rfl
theorem pLifted : (Rows.sunConesRow.lifted == Tryz.pinned.checked.prog.liftsFinal) = true := by kernel_rfl
end Go.Proofs.YtggffhmdgceljaaGreatDoor
