/-
  Contracts of the reference's divisors of all integers, and of chapter 2's checks of rays, dot products and multiples.
-/
import Derived.Test.YtggffhmdgceljaaGreatDoorRows
import Derived.WalkKit
import Derived.WalkSpells
import Derived.WalkLawsBesides
import Derived.Lib.Hide
import Derived.BigQuiet
import Derived.Deep.QuietTactic
import Derived.Handy
import Derived.Deep.RegionHeld3
import Derived.Deep.RegionWith
import Derived.StillTailTactics
import Derived.RangeFuncNested
import Derived.RangeFuncBound
import Derived.RangeFuncCalls
import Derived.RangeFuncLeaves
import Derived.RangeFuncBox
import Derived.Shelf.Abstract
import Derived.Shelf.RegionOpen
import Derived.OwnWalkIn
import Derived.TacticsInMore
import Derived.LoopNIn
import Derived.LoopIn
import Derived.Maps.AppendAt
import Derived.Test.YtggffhmdgceljaaGreatDoorProg
import Derived.Laws.FloatArith
import Derived.Laws.BitsAllLaws
import Derived.Deep.DeepCutAuto
import Derived.Stop.BytesEq
import Derived.Deep.MidRow
import Derived.Laws.CopyRow
import Derived.WalkMore
import Derived.Deep.DrawnRows
import Derived.Deep.CutBlock
import Derived.Orders
import Derived.LoopTactic
import Derived.Laws.StructEq
import Derived.Deep.RegionLaw
import Derived.RegionTactic
import Derived.StillTail
import Derived.Test.YtggffhmdgceljaaGreatDoorOuaWa
import Derived.Test.YtggffhmdgceljaaGreatDoorOuaWn
import Derived.Test.YtggffhmdgceljaaGreatDoorOuaXe
import Derived.Test.YtggffhmdgceljaaGreatDoorOuaWi
import Derived.Test.YtggffhmdgceljaaGreatDoorOuaIb
import Derived.Test.YtggffhmdgceljaaGreatDoorOuaIl
import Derived.Test.YtggffhmdgceljaaGreatDoorOuaId
import Derived.Test.YtggffhmdgceljaaGreatDoorOuaIk
import Derived.Test.YtggffhmdgceljaaGreatDoorOuaNd
import Derived.Test.YtggffhmdgceljaaGreatDoorOuaIg
import Derived.Test.YtggffhmdgceljaaGreatDoorOuaIi
namespace Go.Proofs.YtggffhmdgceljaaGreatDoor
open Go.RowKit
set_option linter.unusedVariables false
set_option linter.unusedSimpArgs false

set_option maxRecDepth 100000 in
set_option maxHeartbeats 6400000 in
theorem refWithin_all (x y z L : Int) (hL : 0 ≤ L ∧ L ≤ 1048576) (w : World) :
    Calls Tryz.prog 51 #[.agg #[.int .i64 x, .int .i64 y, .int .i64 z], .int .i64 L] w fun e w' => e = .returned (.int .i64 (vectorErrL L x y z)) ∧ Below w.heap.size w w' := by
  obtain ⟨ex, hx⟩ : ∃ e : Int, rangeErr x (-L) L = e := ⟨_, rfl⟩
  obtain ⟨ey, hy⟩ : ∃ e : Int, rangeErr y (-L) L = e := ⟨_, rfl⟩
  obtain ⟨ez, hz⟩ : ∃ e : Int, rangeErr z (-L) L = e := ⟨_, rfl⟩
  have Kx : Hid (∀ w1 : World, Calls Tryz.prog 50 #[.int .i64 x, .int .i64 (-L), .int .i64 L] w1 fun e w' => e = .returned (.int .i64 ex) ∧ w1 = w') := Lib.hid fun w1 => by
    have h := refCheckRange_any x (-L) L w1
    rwa [hx] at h
  have Ky : Hid (∀ w1 : World, Calls Tryz.prog 50 #[.int .i64 y, .int .i64 (-L), .int .i64 L] w1 fun e w' => e = .returned (.int .i64 ey) ∧ w1 = w') := Lib.hid fun w1 => by
    have h := refCheckRange_any y (-L) L w1
    rwa [hy] at h
  have Kz : Hid (∀ w1 : World, Calls Tryz.prog 50 #[.int .i64 z, .int .i64 (-L), .int .i64 L] w1 fun e w' => e = .returned (.int .i64 ez) ∧ w1 = w') := Lib.hid fun w1 => by
    have h := refCheckRange_any z (-L) L w1
    rwa [hz] at h
  unfold vectorErrL
  rw [hx, hy, hz]
  obtain ⟨E, hE⟩ : ∃ E : Int, firstNZ [ex, ey, ez] = E := ⟨_, rfl⟩
  have KF : Hid (∀ (w1 : World) (b : Nat), (∀ j, j < 3 → w1.cell? ⟨b, 0 + j, none⟩ = some (.int .i64 (([ex, ey, ez] : List Int)[j]?.getD 0))) → Calls Tryz.prog 49 #[.slice (some ⟨b, 0, none⟩) 3 3] w1 fun e w' => e = .returned (.int .i64 E) ∧ w1 = w') := Lib.hid fun w1 b h => by
    have k := refFirst_any b 0 3 3 [ex, ey, ez] rfl (by omega) w1 h
    rwa [hE] at k
  rw [hE]
  have wl : IntKind.i64.wrap (0 - L) = -L := by rw [Int.zero_sub]; exact IntWalk.i64_in _ ⟨by omega, by omega⟩
  have wl2 : IntKind.i64.wrap (-L) = -L := IntWalk.i64_in _ ⟨by omega, by omega⟩
  clear hx hy hz hE hL
  obtain ⟨W0, hW0⟩ : ∃ W0, (w.alloc (.cells #[.int .i64 x, .int .i64 y, .int .i64 z] 23)) = W0 := ⟨_, rfl⟩
  have K0 : Hid (Kp w W0 [(w.heap.size, (.cells #[.int .i64 x, .int .i64 y, .int .i64 z] 23 (0, 0)))]) := Lib.hid (by
    rw [← hW0]
    have k := ((Kp.none w).alloc (.cells #[.int .i64 x, .int .i64 y, .int .i64 z] 23))
    simpa using k)
  go_enter Tryz.func51, Tryz.ntmps51
  go_upto_region 1 with fail
  try rw [hW0]
  clear hW0
  apply wp_region_gives 18 (fun w' => Blw W0.heap.size W0 w') [.pointer (some ⟨w.heap.size, 0, none⟩), .int .i64 x, .int .i64 L, .int .i64 (-L), .int .i64 L, .int .i64 ex, .pointer (some ⟨w.heap.size, 1, none⟩), .int .i64 y, .int .i64 L, .int .i64 (-L), .int .i64 L, .int .i64 ey, .pointer (some ⟨w.heap.size, 2, none⟩), .int .i64 z, .int .i64 L, .int .i64 (-L), .int .i64 L, .int .i64 ez] (by kernel_rfl) (by kernel_rfl) (by kernel_rfl) (show Below _ _ _ from (Below.refl _ _).drew)
  case haF =>
    simp [putJs, Act.put, List.range, List.range.loop]
    exact rfl
  case h =>
    have hBq := K0.out.2 _ (.head _)
    simp only [List.take_succ_cons, List.take_zero, GivesL]
    clear K0
    refine ⟨?_, ?_, ?_, ?_, ?_, ?_, ?_, ?_, ?_, ?_, ?_, ?_, ?_, ?_, ?_, ?_, ?_, ?_, trivial⟩
    all_goals
      intro w1 hw1
      obtain ⟨q_0, q_1, q_2⟩ := cells3 (((show Below _ _ _ from hw1).block _ (lt_of_blk hBq)).trans hBq)
      unfold Oper.wp
      simp only [execOp]
      go_simp <;> first
        | exact ⟨rfl, hw1⟩
        | ((with_reducible refine (Kx.out _).mono ?_); rintro e w2 ⟨rfl, rfl⟩; exact ⟨rfl, hw1⟩)
        | ((with_reducible refine (Ky.out _).mono ?_); rintro e w2 ⟨rfl, rfl⟩; exact ⟨rfl, hw1⟩)
        | ((with_reducible refine (Kz.out _).mono ?_); rintro e w2 ⟨rfl, rfl⟩; exact ⟨rfl, hw1⟩)
  case ht =>
    intro w2 hw5
    have K2 := Lib.hid (K0.out.call (show Below _ _ _ from hw5))
    clear hw5 K0
    simp only [List.drop_succ_cons, List.drop_zero]
    go_wp2_with (first
      | (go_at_call 49; (with_reducible refine (KF.out _ _ ?_).mono ?_); rotate_left 1; rintro e w6 ⟨rfl, rfl⟩; rotate_left 1; (intro j hj; match j, hj with | 0, _ => simp [go_sem] | 1, _ => simp [go_sem] | 2, _ => simp [go_sem])))
    go_ret
    exact ⟨rfl, (Kp.below K2.out).alloc (Kp.below K2.out).size _⟩

set_option maxRecDepth 100000 in
set_option maxHeartbeats 6400000 in
theorem refCheckRay_all (x y z : Int) (w : World) :
    Calls Tryz.prog 11 #[.agg #[.int .i64 x, .int .i64 y, .int .i64 z]] w fun e w' => e = .returned (.int .i64 (rayErr x y z)) ∧ Below w.heap.size w w' := by
  obtain ⟨e1, h1⟩ : ∃ e : Int, directionErr x y z = e := ⟨_, rfl⟩
  obtain ⟨e2, h2⟩ : ∃ e : Int, vectorErrL 4096 x y z = e := ⟨_, rfl⟩
  have KA : Hid (∀ w1 : World, Calls Tryz.prog 28 #[.agg #[.int .i64 x, .int .i64 y, .int .i64 z]] w1 fun e w' => e = .returned (.int .i64 e1) ∧ Below w1.heap.size w1 w') := Lib.hid fun w1 => by
    have h := refCheckDirection_all x y z w1
    rwa [h1] at h
  have KB : Hid (∀ w1 : World, Calls Tryz.prog 51 #[.agg #[.int .i64 x, .int .i64 y, .int .i64 z], .int .i64 4096] w1 fun e w' => e = .returned (.int .i64 e2) ∧ Below w1.heap.size w1 w') := Lib.hid fun w1 => by
    have h := refWithin_all x y z 4096 (by omega) w1
    rwa [h2] at h
  unfold rayErr
  rw [h1, h2]
  obtain ⟨E, hE⟩ : ∃ E : Int, firstNZ [e1, e2] = E := ⟨_, rfl⟩
  have KF : Hid (∀ (w1 : World) (b : Nat), (∀ j, j < 2 → w1.cell? ⟨b, 0 + j, none⟩ = some (.int .i64 (([e1, e2] : List Int)[j]?.getD 0))) → Calls Tryz.prog 49 #[.slice (some ⟨b, 0, none⟩) 2 2] w1 fun e w' => e = .returned (.int .i64 E) ∧ w1 = w') := Lib.hid fun w1 b h => by
    have k := refFirst_any b 0 2 2 [e1, e2] rfl (by omega) w1 h
    rwa [hE] at k
  rw [hE]
  clear h1 h2 hE
  obtain ⟨W0, hW0⟩ : ∃ W0, (w.alloc (.cells #[.int .i64 x, .int .i64 y, .int .i64 z] 23)) = W0 := ⟨_, rfl⟩
  have K0 : Hid (Kp w W0 [(w.heap.size, (.cells #[.int .i64 x, .int .i64 y, .int .i64 z] 23 (0, 0)))]) := Lib.hid (by
    rw [← hW0]
    have k := ((Kp.none w).alloc (.cells #[.int .i64 x, .int .i64 y, .int .i64 z] 23))
    simpa using k)
  go_enter Tryz.func11, Tryz.ntmps11
  go_upto_region 1 with fail
  try rw [hW0]
  clear hW0
  apply wp_region_gives 4 (fun w' => Blw W0.heap.size W0 w') [.agg #[.int .i64 x, .int .i64 y, .int .i64 z], .int .i64 e1, .agg #[.int .i64 x, .int .i64 y, .int .i64 z], .int .i64 e2] (by kernel_rfl) (by kernel_rfl) (by kernel_rfl) (show Below _ _ _ from (Below.refl _ _).drew)
  case haF =>
    simp [putJs, Act.put, List.range, List.range.loop]
    exact rfl
  case h =>
    have hBq := K0.out.2 _ (.head _)
    simp only [List.take_succ_cons, List.take_zero, GivesL]
    clear K0
    refine ⟨?_, ?_, ?_, ?_, trivial⟩
    all_goals
      intro w1 hw1
      obtain ⟨q_0, q_1, q_2⟩ := cells3 (((show Below _ _ _ from hw1).block _ (lt_of_blk hBq)).trans hBq)
      unfold Oper.wp
      simp only [execOp]
      go_simp <;> first
        | exact ⟨rfl, hw1⟩
        | ((with_reducible refine (KA.out _).mono ?_); rintro e w2 ⟨rfl, hb⟩; exact ⟨rfl, below_call hb hw1⟩)
        | ((with_reducible refine (KB.out _).mono ?_); rintro e w2 ⟨rfl, hb⟩; exact ⟨rfl, below_call hb hw1⟩)
  case ht =>
    intro w2 hw5
    have K2 := Lib.hid (K0.out.call (show Below _ _ _ from hw5))
    clear hw5 K0
    simp only [List.drop_succ_cons, List.drop_zero]
    go_wp2_with (first
      | (go_at_call 49; (with_reducible refine (KF.out _ _ ?_).mono ?_); rotate_left 1; rintro e w6 ⟨rfl, rfl⟩; rotate_left 1; (intro j hj; match j, hj with | 0, _ => simp [go_sem] | 1, _ => simp [go_sem])))
    go_ret
    exact ⟨rfl, (Kp.below K2.out).alloc (Kp.below K2.out).size _⟩

set_option maxRecDepth 100000 in
set_option maxHeartbeats 6400000 in
theorem refTimes_any (x y z n : Int) (h1 : Fit (x * n)) (h2 : Fit (y * n)) (h3 : Fit (z * n)) (w : World) :
    Calls Tryz.prog 23 #[.agg #[.int .i64 x, .int .i64 y, .int .i64 z], .int .i64 n] w fun e w' => e = .returned (.agg #[.int .i64 (x * n), .int .i64 (y * n), .int .i64 (z * n)]) ∧ Below w.heap.size w w' := by
  obtain ⟨m1, e1⟩ : ∃ m1, x * n = m1 := ⟨_, rfl⟩
  obtain ⟨m2, e2⟩ : ∃ m2, y * n = m2 := ⟨_, rfl⟩
  obtain ⟨m3, e3⟩ : ∃ m3, z * n = m3 := ⟨_, rfl⟩
  rw [e1] at h1 ⊢
  rw [e2] at h2 ⊢
  rw [e3] at h3 ⊢
  have w1 := h1.wrap
  have w2 := h2.wrap
  have w3 := h3.wrap
  clear h1 h2 h3
  go_enter Tryz.func23, Tryz.ntmps23
  go_wp2_with fail
  refine bodyPost_ret (v := .agg #[.int .i64 m1, .int .i64 m2, .int .i64 m3]) (by simp [results, Tryz.results23, go_sem]) rfl ⟨rfl, ?_⟩
  first
    | exact ((Below.refl _ w).alloc (Nat.le_refl _) _).alloc (by simp) _
    | exact (((((Below.refl _ w).alloc (Nat.le_refl _) _).alloc (by simp) _).setCell (by simp) _).setCell (by simp) _).setCell (by simp) _
end Go.Proofs.YtggffhmdgceljaaGreatDoor

/-
  A law for a statement whose order Go leaves open, two of whose operations are stores that nothing of it reads; and blocks of which one cell is set.
-/
namespace Go.Proofs.YtggffhmdgceljaaGreatDoor
open Go.RowKit
set_option linter.unusedVariables false
set_option linter.unusedSimpArgs false

section
variable {P : Program} {ops : Array Oper}
/-- Two operations change what is known of the world, each from false to true; the others keep it, and give values. -/
theorem wp_region_two {id : Nat} {Q : Exit → Act → World → Prop} {a aF : Act} {wc : World} {l : List Oper} (s1 s2 : Nat) (R : Bool → Bool → World → Prop) (m : List Bool) (vals : List Value) (p1 p2 : Oper) (hm : P.follows .mixedOrders = true) (hB : ordB l.toArray = true)
    (hs : s1 < l.length ∧ s2 < l.length ∧ s1 ≠ s2 ∧ m = (List.range l.length).map fun i => i == s1 || i == s2) (hp1 : l[s1]? = some p1) (hp2 : l[s2]? = some p2) (hd1 : p1.dst = none) (hd2 : p2.dst = none)
    (haF : putJs l.toArray (fun i => vals.getD i undef) (List.range l.length) a = aF) (h0 : R false false wc.drew)
    (hG : ∀ b1 b2, GivesM P (R b1 b2) aF m l vals)
    (hS1 : ∀ b2 w1, R false b2 w1 → p1.wp P aF w1 (fun c w' => c = aF ∧ R true b2 w') (fun _ _ _ => False))
    (hS2 : ∀ b1 w1, R b1 false w1 → p2.wp P aF w1 (fun c w' => c = aF ∧ R b1 true w') (fun _ _ _ => False))
    (hQ : ∀ w', R true true w' → Q .normal aF w') : (Code.region id l.toArray true).wp P Q a wc := by
  simp only [ordB, Bool.and_eq_true] at hB
  obtain ⟨⟨hsel, hab⟩, hord⟩ := hB
  obtain ⟨n, hn⟩ : ∃ n, l.length = n := ⟨_, rfl⟩
  have hN : l.toArray.size = n := by simpa using hn
  rw [hn] at hs haF
  obtain ⟨hs1, hs2, hne, hmm⟩ := hs
  rw [hN] at hab hord
  have hdst : ∀ i j, i < n → j < n → i ≠ j → dstB l.toArray i j = true := fun i j hi hj hij => by
    have h1 := List.all_eq_true.1 (List.all_eq_true.1 hab i (List.mem_range.2 hi)) j (List.mem_range.2 hj)
    simp only [Bool.and_eq_true, Bool.or_eq_true, beq_iff_eq] at h1
    exact h1.1.resolve_left hij
  have hlook : ∀ i j, i < n → j < n → lookB l.toArray i j = true ∨ (i ≠ j ∧ Region.waitsFor .any l.toArray i j = true) := fun i j hi hj => by
    have h1 := List.all_eq_true.1 (List.all_eq_true.1 hab i (List.mem_range.2 hi)) j (List.mem_range.2 hj)
    simp only [Bool.and_eq_true, Bool.or_eq_true, beq_iff_eq, bne_iff_ne, ne_eq] at h1
    exact h1.2
  have hbef : ∀ i o, i < n → l.toArray[i]? = some o → o.guard = none ∧ ∀ e ∈ o.after, Region.binds .any e = true → e.on < i := fun i o hi ho => by
    have h1 := List.all_eq_true.1 hord i (List.mem_range.2 hi)
    rw [ho] at h1
    simp only [Bool.and_eq_true, Option.isNone_iff_eq_none] at h1
    refine ⟨h1.1, fun e he hb => ?_⟩
    have h2 := Array.all_eq_true_iff_forall_mem.1 h1.2 e he
    rw [hb] at h2
    simpa using h2
  let I : Array Bool → Act → World → Prop := fun l' a' w' => l'.size = n ∧ a' = putJs l.toArray (fun i => vals.getD i undef) (hdJs n l') a ∧ R (l'.getD s1 false) (l'.getD s2 false) w'
  refine wp_region_any hm ?_
  refine wpAny_inv I ?_ ?_ _ _ _ _ (by simp) ⟨by simp [hN], ?_, ?_⟩
  · -- the end
    rintro l' a' w' ⟨hs, ha, hb⟩ hr
    have hall : ∀ i, i < n → l'.getD i false = true := fun i => by
      induction i using Nat.strongRecOn with
      | _ i ih =>
        intro hi
        cases hg : l'.getD i false with
        | true => rfl
        | false =>
          exfalso
          obtain ⟨o, ho⟩ : ∃ o, l.toArray[i]? = some o := ⟨_, Array.getElem?_eq_getElem (by omega)⟩
          have : i ∈ Region.ready .any l.toArray l' := mem_ready.2 ⟨getD_in (by omega) hg, o, ho, fun e he hbd => ih _ ((hbef i o hi ho).2 e he hbd) (by have := (hbef i o hi ho).2 e he hbd; omega)⟩
          rw [hr] at this
          cases this
    have hF1 : hdJs n l' = List.range n := List.filter_eq_self.2 fun i hi => hall i (List.mem_range.1 hi)
    rw [ha, hF1, haF]
    rw [hall s1 hs1, hall s2 hs2] at hb
    exact hQ w' hb
  · -- a step
    rintro l' a' w' i ⟨hs, ha, hb⟩ hi
    obtain ⟨hun, o, ho, hall⟩ := mem_ready.1 hi
    have huf : l'.getD i false = false := getD_both hun
    have hin : i < n := by
      rcases Nat.lt_or_ge i n with h | h
      · exact h
      · rw [Array.getElem?_eq_none (by omega)] at ho; cases ho
    have hgd := (hbef i o hin ho).1
    have ho' : l[i]? = some o := by simpa using ho
    have hw8 : ∀ j, j < n → Region.waitsFor .any l.toArray i j = true → l'.getD j false = true := fun j hj h1 => by
      obtain ⟨o', ho', e, he, hbd, hon⟩ := Region.waitsFor_spec h1
      have : o' = o := Option.some.inj (ho'.symm.trans ho)
      subst this
      have h2 := hall e he hbd
      rwa [hon] at h2
    have hput : (putJs l.toArray (fun i => vals.getD i undef) (hdJs n l') a).put o.dst (vals.getD i undef) = putJs l.toArray (fun i => vals.getD i undef) (hdJs n (l'.setIfInBounds i true)) a := by
      have hperm := hdJs_set hs hin huf
      have e1 : (putJs l.toArray (fun i => vals.getD i undef) (hdJs n l') a).put o.dst (vals.getD i undef) = putJs l.toArray (fun i => vals.getD i undef) (hdJs n l' ++ [i]) a := by
        rw [putJs_append, putJs_cons, putJs_nil, ho]
        rfl
      rw [e1]
      refine putJs_perm hperm a fun x hx y hy hxy => ?_
      have m1 := hperm.mem_iff.1 hx
      have m2 := hperm.mem_iff.1 hy
      exact hdst x y (List.mem_range.1 (List.mem_filter.1 m1).1) (List.mem_range.1 (List.mem_filter.1 m2).1) hxy
    have hsz' : (l'.setIfInBounds i true).size = n := by simpa using hs
    have hG' : ∀ j, (l'.setIfInBounds i true).getD j false = if i = j then true else l'.getD j false := fun j => set_get (by omega)
    have hFr : putJs l.toArray (fun i => vals.getD i undef) (List.range n) a = putJs l.toArray (fun i => vals.getD i undef) (unJs n l') a' := by
      rw [ha, ← putJs_append]
      exact (putJs_perm (hd_un_perm n l') a fun x hx y hy hxy => hdst x y (by have := (hd_un_perm n l').mem_iff.1 hx; simpa using this) (by have := (hd_un_perm n l').mem_iff.1 hy; simpa using this) hxy).symm
    have hex := exec_putJs (val := fun i => vals.getD i undef) ho (Region.noSelect_spec hsel i o · · ho) (unJs n l') a' fun j hj => by
      have hj1 := List.mem_filter.1 hj
      have hj2 := List.mem_range.1 hj1.1
      rcases hlook i j hin hj2 with h1 | ⟨hne, h1⟩
      · exact h1
      · have h2 := hw8 j hj2 h1
        simp [h2] at hj1
    rw [← hFr] at hex
    have hzz : (putJs l.toArray (fun i => vals.getD i undef) (List.range n) a).tmps.size = a'.tmps.size := by rw [hFr, putJs_size]
    by_cases h1 : i = s1
    · subst h1
      obtain rfl : p1 = o := Option.some.inj (hp1.symm.trans ho')
      rw [huf] at hb
      rw [haF] at hex hzz
      refine wpOp_mono (fun c w'' hcw => ?_) (step_wpOp (S := R false (l'.getD s2 false)) (S' := R true (l'.getD s2 false)) (v := vals.getD i undef) ho hgd (fun w1 hw1 => by
        rw [hd1]
        exact hS1 _ w1 hw1) hex.1.symm hzz hb)
      obtain ⟨hc, hB⟩ := hcw
      refine ⟨hsz', ?_, ?_⟩
      · rw [hc, ha]
        exact hput
      · rw [hG', if_pos rfl, hG', if_neg hne]
        exact hB
    · by_cases h2 : i = s2
      · subst h2
        obtain rfl : p2 = o := Option.some.inj (hp2.symm.trans ho')
        rw [huf] at hb
        rw [haF] at hex hzz
        refine wpOp_mono (fun c w'' hcw => ?_) (step_wpOp (S := R (l'.getD s1 false) false) (S' := R (l'.getD s1 false) true) (v := vals.getD i undef) ho hgd (fun w1 hw1 => by
          rw [hd2]
          exact hS2 _ w1 hw1) hex.1.symm hzz hb)
        obtain ⟨hc, hB⟩ := hcw
        refine ⟨hsz', ?_, ?_⟩
        · rw [hc, ha]
          exact hput
        · rw [hG', if_neg (Ne.symm hne), hG', if_pos rfl]
          exact hB
      · rw [haF] at hex hzz
        refine wpOp_mono (fun c w'' hcw => ?_) (step_wpOp (S := R (l'.getD s1 false) (l'.getD s2 false)) (S' := R (l'.getD s1 false) (l'.getD s2 false)) (v := vals.getD i undef) ho hgd ((hG _ _).get i o (by
          rw [hmm, List.getElem?_map, List.getElem?_range hin]
          simp [h1, h2]) ho') hex.1.symm hzz hb)
        obtain ⟨hc, hB⟩ := hcw
        refine ⟨hsz', ?_, ?_⟩
        · rw [hc, ha]
          exact hput
        · rw [hG', if_neg h1, hG', if_neg h2]
          exact hB
  · have : hdJs n (Array.replicate l.toArray.size false) = [] := List.filter_eq_nil_iff.2 fun i _ => by rw [getD_replicate_false]; simp
    rw [this]
    rfl
  · rw [getD_replicate_false, getD_replicate_false]
    exact h0

end

/-- One cell of a block is set. -/
theorem blk_set1 {w : World} {B : Nat} {T : TypeId} {Z : Array Value} (h : w.heap[B]? = some (.cells Z T (0, 0))) (k : Nat) (v : Value) : (w.setCell ⟨B, k, none⟩ v).heap[B]? = some (.cells (Z.set! k v) T (0, 0)) := by
  simp only [World.setCell, Array.getElem?_modify, if_true, h, Option.map_some]
  simp
theorem kp_cell {w w1 : World} {B : Nat} {T : TypeId} {Z Y : Array Value} {l : List (Nat × Obj)} (h : Kp w w1 ((B, .cells Z T (0, 0)) :: l)) (hB : w.heap.size ≤ B) (hl : ∀ p ∈ l, p.1 ≠ B) (k : Nat) (v : Value) (e : Z.set! k v = Y) :
    Kp w (w1.setCell ⟨B, k, none⟩ v) ((B, .cells Y T (0, 0)) :: l) := by
  refine ⟨h.1.setCell hB _, fun p hp => ?_⟩
  rcases List.mem_cons.1 hp with rfl | hp
  · rw [← e]
    exact blk_set1 (h.2 _ (.head _)) k v
  · exact (Below.heap_setCell _ _ _ _ (hl p hp)).trans (h.2 p (.tail _ hp))
end Go.Proofs.YtggffhmdgceljaaGreatDoor

/-
  What the statements of SunBisects' loops share: a statement's region alone.
-/
namespace Go.Proofs.YtggffhmdgceljaaGreatDoor
open Go.RowKit
set_option linter.unusedVariables false
set_option linter.unusedSimpArgs false

/-- A region of some code. -/
def regDeep (n : Nat) : Code → Option Code
  | .seq a b => match regDeep n a with
    | some c => some c
    | none => regDeep n b
  | .block _ c => regDeep n c
  | .scope c => regDeep n c
  | .loop c => regDeep n c
  | .cond _ a b => match regDeep n a with
    | some c => some c
    | none => regDeep n b
  | .region i l d => if i = n then some (.region i l d) else none
  | _ => none
noncomputable def bisReg (n : Nat) : Code := ((Tryz.f4.body.bind (regDeep n)).getD .skip)
theorem cells8 {w : World} {B : Nat} {T : TypeId} {a b c d e f g h : Value} (k : w.heap[B]? = some (.cells #[a, b, c, d, e, f, g, h] T (0, 0))) :
    w.cell? ⟨B, 0, none⟩ = some a ∧ w.cell? ⟨B, 1, none⟩ = some b ∧ w.cell? ⟨B, 2, none⟩ = some c ∧ w.cell? ⟨B, 3, none⟩ = some d ∧ w.cell? ⟨B, 4, none⟩ = some e ∧ w.cell? ⟨B, 5, none⟩ = some f ∧ w.cell? ⟨B, 6, none⟩ = some g ∧ w.cell? ⟨B, 7, none⟩ = some h :=
  ⟨by rw [cell_of_row w _ 0 _ _ (0, 0) k]; rfl, by rw [cell_of_row w _ 1 _ _ (0, 0) k]; rfl, by rw [cell_of_row w _ 2 _ _ (0, 0) k]; rfl, by rw [cell_of_row w _ 3 _ _ (0, 0) k]; rfl, by rw [cell_of_row w _ 4 _ _ (0, 0) k]; rfl, by rw [cell_of_row w _ 5 _ _ (0, 0) k]; rfl, by rw [cell_of_row w _ 6 _ _ (0, 0) k]; rfl, by rw [cell_of_row w _ 7 _ _ (0, 0) k]; rfl⟩
/-- Where the blocks of the first loop lie. -/
structure BisAt (w : World) (B2 B3 B5 B6 : Nat) : Prop where
  h5 : w.heap.size ≤ B5
  h6 : w.heap.size ≤ B6
  n56 : B5 ≠ B6
  n5 : B5 ≠ B3 ∧ B5 ≠ B2
  n6 : B6 ≠ B3 ∧ B6 ≠ B2
end Go.Proofs.YtggffhmdgceljaaGreatDoor

/-
  The statements of SunBisects' first loop, each alone: round 0.
-/
namespace Go.Proofs.YtggffhmdgceljaaGreatDoor
open Go.RowKit
set_option linter.unusedVariables false
set_option linter.unusedSimpArgs false
set_option maxRecDepth 1000000 in
set_option maxHeartbeats 12800000 in
theorem bis6_0 (Q : Exit → Act → World → Prop) (w wx : World) (B2 B3 B5 B6 : Nat) (m0 m1 m2 m3 n0 n1 n2 n3 c0 c1 c2 c3 c4 c5 c6 c7 p q : Int) (r s : Int) (u0 u1 u4 u8 u9 u10 u11 u12 u13 u14 u15 u16 u17 u18 u19 u20 u21 u22 u23 u24 u25 u26 u27 u28 u29 u30 u31 u32 u33 u34 u35 u36 u37 u38 u39 u40 u41 u42 u43 u44 u45 u46 u47 u48 u49 u50 u51 u52 u53 u54 u55 u56 u57 u58 u59 u60 u61 u62 u63 u64 u65 u66 u67 u68 u69 u70 u71 u72 u73 u74 u75 u76 u77 u78 u79 u80 u81 u82 u83 u84 u85 u86 u87 u88 u89 u90 u91 u92 u93 u94 u95 u96 u97 u98 u99 u100 u101 u102 u103 u104 u105 u106 u107 u108 u109 u110 u111 u112 u113 u114 u115 u116 u117 u118 u119 u120 u121 u122 u123 u124 u125 u126 u127 u128 u129 u130 u131 u132 u133 u134 u135 u136 u137 u138 u139 u140 u141 u142 u143 u144 u145 u146 u147 u148 u149 u150 u151 u152 u153 u154 u155 u156 u157 u158 u159 u160 u161 u162 u163 u164 u165 u166 u167 u168 u169 u170 u171 u172 u173 u174 u175 u176 u177 u178 u179 u180 u181 u182 u183 u184 u185 u186 u187 u188 u189 u190 u191 u192 u193 u194 u195 u196 u197 u198 u199 u200 u201 u202 u203 u204 u205 u206 u207 u208 u209 u210 u211 u212 u213 u214 u215 u216 u217 u218 u219 u220 u221 u222 u223 u224 u225 u226 u227 u228 u229 u230 u231 u232 u233 u234 u235 u236 u237 u238 u239 u240 u241 u242 u243 u244 u245 u246 u247 u248 u249 u250 u251 u252 u253 u254 u255 u256 u257 u258 u259 u260 u261 u262 u263 u264 u265 u266 u267 u268 u269 u270 u271 u272 u273 u274 u275 u276 u277 u278 u279 u280 u281 u282 u283 u284 u285 u286 u287 u288 u289 u290 u291 u292 u293 u294 u295 : Value)
    (wm : IntKind.i64.wrap m0 = m0) (wn : IntKind.i64.wrap n0 = n0) (em : m0.tmod 4 = r) (en : n0.tmod 4 = s) (wr : IntKind.i64.wrap r = r) (ws : IntKind.i64.wrap s = s)
    (hA : BisAt w B2 B3 B5 B6) (hk : Kp w wx [(B5, (.cells #[.int .i64 c0, .int .i64 c1, .int .i64 c2, .int .i64 c3, .int .i64 c4, .int .i64 c5, .int .i64 c6, .int .i64 c7] 44 (0, 0))), (B6, (.cells #[.int .i64 p, .int .i64 q] 45 (0, 0))), (B3, (.cells #[.int .i8 n0, .int .i8 n1, .int .i8 n2, .int .i8 n3] 42 (0, 0))), (B2, (.cells #[.int .i8 m0, .int .i8 m1, .int .i8 m2, .int .i8 m3] 42 (0, 0)))]) (hQ : ∀ wy, Kp w wy [(B5, (.cells #[.int .i64 r, .int .i64 c1, .int .i64 c2, .int .i64 c3, .int .i64 s, .int .i64 c5, .int .i64 c6, .int .i64 c7] 44 (0, 0))), (B6, (.cells #[.int .i64 p, .int .i64 q] 45 (0, 0))), (B3, (.cells #[.int .i8 n0, .int .i8 n1, .int .i8 n2, .int .i8 n3] 42 (0, 0))), (B2, (.cells #[.int .i8 m0, .int .i8 m1, .int .i8 m2, .int .i8 m3] 42 (0, 0)))] → Q .normal ⟨#[u0, u1, .pointer (some ⟨B2, 0, none⟩), .pointer (some ⟨B3, 0, none⟩), u4, .pointer (some ⟨B5, 0, none⟩), .pointer (some ⟨B6, 0, none⟩), .int .i64 0, u8, u9, u10, u11, u12, u13, u14, u15, u16, u17, u18, u19, u20, u21, u22, u23, u24, u25, u26, u27, u28, u29, u30, u31, u32, u33, u34, u35, u36, u37, u38, u39, .int .i64 0, .int .i64 0, .int .i64 0, .pointer (some ⟨B2, 0, none⟩), .int .i8 m0, .int .i64 m0, .int .i64 r, .int .i64 0, .pointer (some ⟨B3, 0, none⟩), .int .i8 n0, .int .i64 n0, .int .i64 s, .pointer (some ⟨B5, 0, none⟩), .pointer (some ⟨B5, 0, none⟩), .pointer (some ⟨B5, 4, none⟩), .pointer (some ⟨B5, 4, none⟩), u56, u57, u58, u59, u60, u61, u62, u63, u64, u65, u66, u67, u68, u69, u70, u71, u72, u73, u74, u75, u76, u77, u78, u79, u80, u81, u82, u83, u84, u85, u86, u87, u88, u89, u90, u91, u92, u93, u94, u95, u96, u97, u98, u99, u100, u101, u102, u103, u104, u105, u106, u107, u108, u109, u110, u111, u112, u113, u114, u115, u116, u117, u118, u119, u120, u121, u122, u123, u124, u125, u126, u127, u128, u129, u130, u131, u132, u133, u134, u135, u136, u137, u138, u139, u140, u141, u142, u143, u144, u145, u146, u147, u148, u149, u150, u151, u152, u153, u154, u155, u156, u157, u158, u159, u160, u161, u162, u163, u164, u165, u166, u167, u168, u169, u170, u171, u172, u173, u174, u175, u176, u177, u178, u179, u180, u181, u182, u183, u184, u185, u186, u187, u188, u189, u190, u191, u192, u193, u194, u195, u196, u197, u198, u199, u200, u201, u202, u203, u204, u205, u206, u207, u208, u209, u210, u211, u212, u213, u214, u215, u216, u217, u218, u219, u220, u221, u222, u223, u224, u225, u226, u227, u228, u229, u230, u231, u232, u233, u234, u235, u236, u237, u238, u239, u240, u241, u242, u243, u244, u245, u246, u247, u248, u249, u250, u251, u252, u253, u254, u255, u256, u257, u258, u259, u260, u261, u262, u263, u264, u265, u266, u267, u268, u269, u270, u271, u272, u273, u274, u275, u276, u277, u278, u279, u280, u281, u282, u283, u284, u285, u286, u287, u288, u289, u290, u291, u292, u293, u294, u295], []⟩ wy) : Code.wp Tryz.prog (bisReg 6) Q ⟨#[u0, u1, .pointer (some ⟨B2, 0, none⟩), .pointer (some ⟨B3, 0, none⟩), u4, .pointer (some ⟨B5, 0, none⟩), .pointer (some ⟨B6, 0, none⟩), .int .i64 0, u8, u9, u10, u11, u12, u13, u14, u15, u16, u17, u18, u19, u20, u21, u22, u23, u24, u25, u26, u27, u28, u29, u30, u31, u32, u33, u34, u35, u36, u37, u38, u39, u40, u41, u42, u43, u44, u45, u46, u47, u48, u49, u50, u51, u52, u53, u54, u55, u56, u57, u58, u59, u60, u61, u62, u63, u64, u65, u66, u67, u68, u69, u70, u71, u72, u73, u74, u75, u76, u77, u78, u79, u80, u81, u82, u83, u84, u85, u86, u87, u88, u89, u90, u91, u92, u93, u94, u95, u96, u97, u98, u99, u100, u101, u102, u103, u104, u105, u106, u107, u108, u109, u110, u111, u112, u113, u114, u115, u116, u117, u118, u119, u120, u121, u122, u123, u124, u125, u126, u127, u128, u129, u130, u131, u132, u133, u134, u135, u136, u137, u138, u139, u140, u141, u142, u143, u144, u145, u146, u147, u148, u149, u150, u151, u152, u153, u154, u155, u156, u157, u158, u159, u160, u161, u162, u163, u164, u165, u166, u167, u168, u169, u170, u171, u172, u173, u174, u175, u176, u177, u178, u179, u180, u181, u182, u183, u184, u185, u186, u187, u188, u189, u190, u191, u192, u193, u194, u195, u196, u197, u198, u199, u200, u201, u202, u203, u204, u205, u206, u207, u208, u209, u210, u211, u212, u213, u214, u215, u216, u217, u218, u219, u220, u221, u222, u223, u224, u225, u226, u227, u228, u229, u230, u231, u232, u233, u234, u235, u236, u237, u238, u239, u240, u241, u242, u243, u244, u245, u246, u247, u248, u249, u250, u251, u252, u253, u254, u255, u256, u257, u258, u259, u260, u261, u262, u263, u264, u265, u266, u267, u268, u269, u270, u271, u272, u273, u274, u275, u276, u277, u278, u279, u280, u281, u282, u283, u284, u285, u286, u287, u288, u289, u290, u291, u292, u293, u294, u295], []⟩ wx := by
  conv => arg 2; whnf
  dsimp only
  apply wp_region_two (aF := ⟨#[u0, u1, .pointer (some ⟨B2, 0, none⟩), .pointer (some ⟨B3, 0, none⟩), u4, .pointer (some ⟨B5, 0, none⟩), .pointer (some ⟨B6, 0, none⟩), .int .i64 0, u8, u9, u10, u11, u12, u13, u14, u15, u16, u17, u18, u19, u20, u21, u22, u23, u24, u25, u26, u27, u28, u29, u30, u31, u32, u33, u34, u35, u36, u37, u38, u39, .int .i64 0, .int .i64 0, .int .i64 0, .pointer (some ⟨B2, 0, none⟩), .int .i8 m0, .int .i64 m0, .int .i64 r, .int .i64 0, .pointer (some ⟨B3, 0, none⟩), .int .i8 n0, .int .i64 n0, .int .i64 s, .pointer (some ⟨B5, 0, none⟩), .pointer (some ⟨B5, 0, none⟩), .pointer (some ⟨B5, 4, none⟩), .pointer (some ⟨B5, 4, none⟩), u56, u57, u58, u59, u60, u61, u62, u63, u64, u65, u66, u67, u68, u69, u70, u71, u72, u73, u74, u75, u76, u77, u78, u79, u80, u81, u82, u83, u84, u85, u86, u87, u88, u89, u90, u91, u92, u93, u94, u95, u96, u97, u98, u99, u100, u101, u102, u103, u104, u105, u106, u107, u108, u109, u110, u111, u112, u113, u114, u115, u116, u117, u118, u119, u120, u121, u122, u123, u124, u125, u126, u127, u128, u129, u130, u131, u132, u133, u134, u135, u136, u137, u138, u139, u140, u141, u142, u143, u144, u145, u146, u147, u148, u149, u150, u151, u152, u153, u154, u155, u156, u157, u158, u159, u160, u161, u162, u163, u164, u165, u166, u167, u168, u169, u170, u171, u172, u173, u174, u175, u176, u177, u178, u179, u180, u181, u182, u183, u184, u185, u186, u187, u188, u189, u190, u191, u192, u193, u194, u195, u196, u197, u198, u199, u200, u201, u202, u203, u204, u205, u206, u207, u208, u209, u210, u211, u212, u213, u214, u215, u216, u217, u218, u219, u220, u221, u222, u223, u224, u225, u226, u227, u228, u229, u230, u231, u232, u233, u234, u235, u236, u237, u238, u239, u240, u241, u242, u243, u244, u245, u246, u247, u248, u249, u250, u251, u252, u253, u254, u255, u256, u257, u258, u259, u260, u261, u262, u263, u264, u265, u266, u267, u268, u269, u270, u271, u272, u273, u274, u275, u276, u277, u278, u279, u280, u281, u282, u283, u284, u285, u286, u287, u288, u289, u290, u291, u292, u293, u294, u295], []⟩) 14 17 (fun b1 b2 w1 => Kp w w1 [(B5, (.cells #[.int .i64 (cond b1 r c0), .int .i64 c1, .int .i64 c2, .int .i64 c3, .int .i64 (cond b2 s c4), .int .i64 c5, .int .i64 c6, .int .i64 c7] 44 (0, 0))), (B6, (.cells #[.int .i64 p, .int .i64 q] 45 (0, 0))), (B3, (.cells #[.int .i8 n0, .int .i8 n1, .int .i8 n2, .int .i8 n3] 42 (0, 0))), (B2, (.cells #[.int .i8 m0, .int .i8 m1, .int .i8 m2, .int .i8 m3] 42 (0, 0)))]) [false, false, false, false, false, false, false, false, false, false, false, false, false, false, true, false, false, true] [.int .i64 0, .int .i64 0, .int .i64 0, .pointer (some ⟨B2, 0, none⟩), .int .i8 m0, .int .i64 m0, .int .i64 r, .int .i64 0, .pointer (some ⟨B3, 0, none⟩), .int .i8 n0, .int .i64 n0, .int .i64 s, .pointer (some ⟨B5, 0, none⟩), .pointer (some ⟨B5, 0, none⟩), undef, .pointer (some ⟨B5, 4, none⟩), .pointer (some ⟨B5, 4, none⟩), undef] _ _ (by kernel_rfl) (by kernel_rfl) (by decide) rfl rfl rfl rfl
  case haF => kernel_rfl
  case h0 => exact hk.drew
  case hG =>
    intro b1 b2
    simp only [GivesM]
    clear hQ hk
    refine ⟨?_, ?_, ?_, ?_, ?_, ?_, ?_, ?_, ?_, ?_, ?_, ?_, ?_, ?_, ?_, ?_, trivial⟩
    all_goals
      intro w1 hw1
      have KW := Lib.hid hw1
      clear hw1
      obtain ⟨x0, x1, x2, x3⟩ := cells4 (KW.out.2 _ (.tail _ (.tail _ (.tail _ (.head _)))))
      obtain ⟨y0, y1, y2, y3⟩ := cells4 (KW.out.2 _ (.tail _ (.tail _ (.head _))))
      unfold Oper.wp
      simp only [execOp]
      go_simp <;> first
        | exact ⟨rfl, KW.out⟩
        | exact KW.out
  case hS1 =>
    intro b2 w1 hw1
    have KW := Lib.hid hw1
    clear hw1 hQ hk
    obtain ⟨z0, z1, z2, z3, z4, z5, z6, z7⟩ := cells8 (KW.out.2 _ (.head _))
    have zz : ∀ j, w1.frozen? ⟨B5, j, none⟩ = false := fun j => frozen_of_row w1 B5 j _ _ (KW.out.2 _ (.head _))
    unfold Oper.wp
    simp only [execOp]
    go_simp
    refine kp_cell (Y := #[.int .i64 (cond true r c0), .int .i64 c1, .int .i64 c2, .int .i64 c3, .int .i64 (cond b2 s c4), .int .i64 c5, .int .i64 c6, .int .i64 c7]) KW.out hA.h5 ?_ 0 _ rfl
    intro p hp
    have e1 := hA.n56
    have e2 := hA.n5
    simp only [List.mem_cons, List.not_mem_nil, or_false] at hp
    rcases hp with rfl | rfl | rfl <;> simp <;> omega
  case hS2 =>
    intro b1 w1 hw1
    have KW := Lib.hid hw1
    clear hw1 hQ hk
    obtain ⟨z0, z1, z2, z3, z4, z5, z6, z7⟩ := cells8 (KW.out.2 _ (.head _))
    have zz : ∀ j, w1.frozen? ⟨B5, j, none⟩ = false := fun j => frozen_of_row w1 B5 j _ _ (KW.out.2 _ (.head _))
    unfold Oper.wp
    simp only [execOp]
    go_simp
    refine kp_cell (Y := #[.int .i64 (cond b1 r c0), .int .i64 c1, .int .i64 c2, .int .i64 c3, .int .i64 (cond true s c4), .int .i64 c5, .int .i64 c6, .int .i64 c7]) KW.out hA.h5 ?_ 4 _ rfl
    intro p hp
    have e1 := hA.n56
    have e2 := hA.n5
    simp only [List.mem_cons, List.not_mem_nil, or_false] at hp
    rcases hp with rfl | rfl | rfl <;> simp <;> omega
  case hQ => exact fun wy hy => hQ wy hy

set_option maxRecDepth 1000000 in
set_option maxHeartbeats 12800000 in
theorem bis7_0 (Q : Exit → Act → World → Prop) (w wx : World) (B2 B3 B5 B6 : Nat) (m0 m1 m2 m3 n0 n1 n2 n3 c0 c1 c2 c3 c4 c5 c6 c7 p q : Int) (t z : Int) (u0 u1 u4 u8 u9 u10 u11 u12 u13 u14 u15 u16 u17 u18 u19 u20 u21 u22 u23 u24 u25 u26 u27 u28 u29 u30 u31 u32 u33 u34 u35 u36 u37 u38 u39 u40 u41 u42 u43 u44 u45 u46 u47 u48 u49 u50 u51 u52 u53 u54 u55 u56 u57 u58 u59 u60 u61 u62 u63 u64 u65 u66 u67 u68 u69 u70 u71 u72 u73 u74 u75 u76 u77 u78 u79 u80 u81 u82 u83 u84 u85 u86 u87 u88 u89 u90 u91 u92 u93 u94 u95 u96 u97 u98 u99 u100 u101 u102 u103 u104 u105 u106 u107 u108 u109 u110 u111 u112 u113 u114 u115 u116 u117 u118 u119 u120 u121 u122 u123 u124 u125 u126 u127 u128 u129 u130 u131 u132 u133 u134 u135 u136 u137 u138 u139 u140 u141 u142 u143 u144 u145 u146 u147 u148 u149 u150 u151 u152 u153 u154 u155 u156 u157 u158 u159 u160 u161 u162 u163 u164 u165 u166 u167 u168 u169 u170 u171 u172 u173 u174 u175 u176 u177 u178 u179 u180 u181 u182 u183 u184 u185 u186 u187 u188 u189 u190 u191 u192 u193 u194 u195 u196 u197 u198 u199 u200 u201 u202 u203 u204 u205 u206 u207 u208 u209 u210 u211 u212 u213 u214 u215 u216 u217 u218 u219 u220 u221 u222 u223 u224 u225 u226 u227 u228 u229 u230 u231 u232 u233 u234 u235 u236 u237 u238 u239 u240 u241 u242 u243 u244 u245 u246 u247 u248 u249 u250 u251 u252 u253 u254 u255 u256 u257 u258 u259 u260 u261 u262 u263 u264 u265 u266 u267 u268 u269 u270 u271 u272 u273 u274 u275 u276 u277 u278 u279 u280 u281 u282 u283 u284 u285 u286 u287 u288 u289 u290 u291 u292 u293 u294 u295 : Value) (wt : IntKind.i64.wrap (c0 * c0) = t) (wz : IntKind.i64.wrap (p + t) = z)
    (hA : BisAt w B2 B3 B5 B6) (hk : Kp w wx [(B5, (.cells #[.int .i64 c0, .int .i64 c1, .int .i64 c2, .int .i64 c3, .int .i64 c4, .int .i64 c5, .int .i64 c6, .int .i64 c7] 44 (0, 0))), (B6, (.cells #[.int .i64 p, .int .i64 q] 45 (0, 0))), (B3, (.cells #[.int .i8 n0, .int .i8 n1, .int .i8 n2, .int .i8 n3] 42 (0, 0))), (B2, (.cells #[.int .i8 m0, .int .i8 m1, .int .i8 m2, .int .i8 m3] 42 (0, 0)))]) (hQ : ∀ wy, Kp w wy [(B5, (.cells #[.int .i64 c0, .int .i64 c1, .int .i64 c2, .int .i64 c3, .int .i64 c4, .int .i64 c5, .int .i64 c6, .int .i64 c7] 44 (0, 0))), (B6, (.cells #[.int .i64 z, .int .i64 q] 45 (0, 0))), (B3, (.cells #[.int .i8 n0, .int .i8 n1, .int .i8 n2, .int .i8 n3] 42 (0, 0))), (B2, (.cells #[.int .i8 m0, .int .i8 m1, .int .i8 m2, .int .i8 m3] 42 (0, 0)))] → Q .normal ⟨#[u0, u1, .pointer (some ⟨B2, 0, none⟩), .pointer (some ⟨B3, 0, none⟩), u4, .pointer (some ⟨B5, 0, none⟩), .pointer (some ⟨B6, 0, none⟩), .int .i64 0, u8, u9, u10, u11, u12, u13, u14, u15, u16, u17, u18, u19, u20, u21, u22, u23, u24, u25, u26, u27, u28, u29, u30, u31, u32, u33, u34, u35, u36, u37, u38, u39, u40, u41, u42, u43, u44, u45, u46, u47, u48, u49, u50, u51, u52, u53, u54, u55, .pointer (some ⟨B6, 0, none⟩), .int .i64 p, .int .i64 0, .pointer (some ⟨B5, 0, none⟩), .pointer (some ⟨B5, 0, none⟩), .int .i64 c0, .int .i64 0, .pointer (some ⟨B5, 0, none⟩), .pointer (some ⟨B5, 0, none⟩), .int .i64 c0, .int .i64 t, .int .i64 z, .pointer (some ⟨B6, 0, none⟩), u69, u70, u71, u72, u73, u74, u75, u76, u77, u78, u79, u80, u81, u82, u83, u84, u85, u86, u87, u88, u89, u90, u91, u92, u93, u94, u95, u96, u97, u98, u99, u100, u101, u102, u103, u104, u105, u106, u107, u108, u109, u110, u111, u112, u113, u114, u115, u116, u117, u118, u119, u120, u121, u122, u123, u124, u125, u126, u127, u128, u129, u130, u131, u132, u133, u134, u135, u136, u137, u138, u139, u140, u141, u142, u143, u144, u145, u146, u147, u148, u149, u150, u151, u152, u153, u154, u155, u156, u157, u158, u159, u160, u161, u162, u163, u164, u165, u166, u167, u168, u169, u170, u171, u172, u173, u174, u175, u176, u177, u178, u179, u180, u181, u182, u183, u184, u185, u186, u187, u188, u189, u190, u191, u192, u193, u194, u195, u196, u197, u198, u199, u200, u201, u202, u203, u204, u205, u206, u207, u208, u209, u210, u211, u212, u213, u214, u215, u216, u217, u218, u219, u220, u221, u222, u223, u224, u225, u226, u227, u228, u229, u230, u231, u232, u233, u234, u235, u236, u237, u238, u239, u240, u241, u242, u243, u244, u245, u246, u247, u248, u249, u250, u251, u252, u253, u254, u255, u256, u257, u258, u259, u260, u261, u262, u263, u264, u265, u266, u267, u268, u269, u270, u271, u272, u273, u274, u275, u276, u277, u278, u279, u280, u281, u282, u283, u284, u285, u286, u287, u288, u289, u290, u291, u292, u293, u294, u295], []⟩ wy) : Code.wp Tryz.prog (bisReg 7) Q ⟨#[u0, u1, .pointer (some ⟨B2, 0, none⟩), .pointer (some ⟨B3, 0, none⟩), u4, .pointer (some ⟨B5, 0, none⟩), .pointer (some ⟨B6, 0, none⟩), .int .i64 0, u8, u9, u10, u11, u12, u13, u14, u15, u16, u17, u18, u19, u20, u21, u22, u23, u24, u25, u26, u27, u28, u29, u30, u31, u32, u33, u34, u35, u36, u37, u38, u39, u40, u41, u42, u43, u44, u45, u46, u47, u48, u49, u50, u51, u52, u53, u54, u55, u56, u57, u58, u59, u60, u61, u62, u63, u64, u65, u66, u67, u68, u69, u70, u71, u72, u73, u74, u75, u76, u77, u78, u79, u80, u81, u82, u83, u84, u85, u86, u87, u88, u89, u90, u91, u92, u93, u94, u95, u96, u97, u98, u99, u100, u101, u102, u103, u104, u105, u106, u107, u108, u109, u110, u111, u112, u113, u114, u115, u116, u117, u118, u119, u120, u121, u122, u123, u124, u125, u126, u127, u128, u129, u130, u131, u132, u133, u134, u135, u136, u137, u138, u139, u140, u141, u142, u143, u144, u145, u146, u147, u148, u149, u150, u151, u152, u153, u154, u155, u156, u157, u158, u159, u160, u161, u162, u163, u164, u165, u166, u167, u168, u169, u170, u171, u172, u173, u174, u175, u176, u177, u178, u179, u180, u181, u182, u183, u184, u185, u186, u187, u188, u189, u190, u191, u192, u193, u194, u195, u196, u197, u198, u199, u200, u201, u202, u203, u204, u205, u206, u207, u208, u209, u210, u211, u212, u213, u214, u215, u216, u217, u218, u219, u220, u221, u222, u223, u224, u225, u226, u227, u228, u229, u230, u231, u232, u233, u234, u235, u236, u237, u238, u239, u240, u241, u242, u243, u244, u245, u246, u247, u248, u249, u250, u251, u252, u253, u254, u255, u256, u257, u258, u259, u260, u261, u262, u263, u264, u265, u266, u267, u268, u269, u270, u271, u272, u273, u274, u275, u276, u277, u278, u279, u280, u281, u282, u283, u284, u285, u286, u287, u288, u289, u290, u291, u292, u293, u294, u295], []⟩ wx := by
  conv => arg 2; whnf
  dsimp only
  have K0 := Lib.hid hk
  clear hk
  apply wp_region_gives (aF := ⟨#[u0, u1, .pointer (some ⟨B2, 0, none⟩), .pointer (some ⟨B3, 0, none⟩), u4, .pointer (some ⟨B5, 0, none⟩), .pointer (some ⟨B6, 0, none⟩), .int .i64 0, u8, u9, u10, u11, u12, u13, u14, u15, u16, u17, u18, u19, u20, u21, u22, u23, u24, u25, u26, u27, u28, u29, u30, u31, u32, u33, u34, u35, u36, u37, u38, u39, u40, u41, u42, u43, u44, u45, u46, u47, u48, u49, u50, u51, u52, u53, u54, u55, .pointer (some ⟨B6, 0, none⟩), .int .i64 p, .int .i64 0, .pointer (some ⟨B5, 0, none⟩), .pointer (some ⟨B5, 0, none⟩), .int .i64 c0, .int .i64 0, .pointer (some ⟨B5, 0, none⟩), .pointer (some ⟨B5, 0, none⟩), .int .i64 c0, .int .i64 t, .int .i64 z, .pointer (some ⟨B6, 0, none⟩), u69, u70, u71, u72, u73, u74, u75, u76, u77, u78, u79, u80, u81, u82, u83, u84, u85, u86, u87, u88, u89, u90, u91, u92, u93, u94, u95, u96, u97, u98, u99, u100, u101, u102, u103, u104, u105, u106, u107, u108, u109, u110, u111, u112, u113, u114, u115, u116, u117, u118, u119, u120, u121, u122, u123, u124, u125, u126, u127, u128, u129, u130, u131, u132, u133, u134, u135, u136, u137, u138, u139, u140, u141, u142, u143, u144, u145, u146, u147, u148, u149, u150, u151, u152, u153, u154, u155, u156, u157, u158, u159, u160, u161, u162, u163, u164, u165, u166, u167, u168, u169, u170, u171, u172, u173, u174, u175, u176, u177, u178, u179, u180, u181, u182, u183, u184, u185, u186, u187, u188, u189, u190, u191, u192, u193, u194, u195, u196, u197, u198, u199, u200, u201, u202, u203, u204, u205, u206, u207, u208, u209, u210, u211, u212, u213, u214, u215, u216, u217, u218, u219, u220, u221, u222, u223, u224, u225, u226, u227, u228, u229, u230, u231, u232, u233, u234, u235, u236, u237, u238, u239, u240, u241, u242, u243, u244, u245, u246, u247, u248, u249, u250, u251, u252, u253, u254, u255, u256, u257, u258, u259, u260, u261, u262, u263, u264, u265, u266, u267, u268, u269, u270, u271, u272, u273, u274, u275, u276, u277, u278, u279, u280, u281, u282, u283, u284, u285, u286, u287, u288, u289, u290, u291, u292, u293, u294, u295], []⟩) 13 (fun w' => Blw wx.heap.size wx w') [.pointer (some ⟨B6, 0, none⟩), .int .i64 p, .int .i64 0, .pointer (some ⟨B5, 0, none⟩), .pointer (some ⟨B5, 0, none⟩), .int .i64 c0, .int .i64 0, .pointer (some ⟨B5, 0, none⟩), .pointer (some ⟨B5, 0, none⟩), .int .i64 c0, .int .i64 t, .int .i64 z, .pointer (some ⟨B6, 0, none⟩)] (by kernel_rfl) (by kernel_rfl) (by kernel_rfl) (show Below _ _ _ from (Below.refl _ _).drew)
  case haF => kernel_rfl
  case h =>
    have hBx := K0.out.2 _ (.head _)
    have hBy := K0.out.2 _ (.tail _ (.head _))
    simp only [List.take_succ_cons, List.take_zero, GivesL]
    clear K0 hQ
    refine ⟨?_, ?_, ?_, ?_, ?_, ?_, ?_, ?_, ?_, ?_, ?_, ?_, ?_, trivial⟩
    all_goals
      intro w1 hw1
      obtain ⟨x_0, x_1, x_2, x_3, x_4, x_5, x_6, x_7⟩ := cells8 (((show Below _ _ _ from hw1).block _ (lt_of_blk hBx)).trans hBx)
      obtain ⟨y_0, y_1⟩ := cells2 (((show Below _ _ _ from hw1).block _ (lt_of_blk hBy)).trans hBy)
      unfold Oper.wp
      simp only [execOp]
      go_simp <;> first
        | exact ⟨rfl, hw1⟩
  case ht =>
    intro w5 hw5
    have K5 := Lib.hid (Kp.swap (K0.out.call (show Below _ _ _ from hw5)))
    clear hw5 K0
    simp only [List.drop_succ_cons, List.drop_zero]
    obtain ⟨z0, z1⟩ := cells2 (K5.out.2 _ (.head _))
    have zz : ∀ j, w5.frozen? ⟨B6, j, none⟩ = false := fun j => frozen_of_row w5 B6 j _ _ (K5.out.2 _ (.head _))
    have HQ := Lib.hid hQ
    clear hQ
    go_wp2_with fail
    refine HQ.out _ (Kp.swap (kp_cell (Y := #[.int .i64 z, .int .i64 q]) K5.out hA.h6 ?_ 0 _ rfl))
    intro p hp
    have e1 := hA.n56
    have e2 := hA.n6
    simp only [List.mem_cons, List.not_mem_nil, or_false] at hp
    rcases hp with rfl | rfl | rfl <;> simp <;> omega

set_option maxRecDepth 1000000 in
set_option maxHeartbeats 12800000 in
theorem bis8_0 (Q : Exit → Act → World → Prop) (w wx : World) (B2 B3 B5 B6 : Nat) (m0 m1 m2 m3 n0 n1 n2 n3 c0 c1 c2 c3 c4 c5 c6 c7 p q : Int) (t z : Int) (u0 u1 u4 u8 u9 u10 u11 u12 u13 u14 u15 u16 u17 u18 u19 u20 u21 u22 u23 u24 u25 u26 u27 u28 u29 u30 u31 u32 u33 u34 u35 u36 u37 u38 u39 u40 u41 u42 u43 u44 u45 u46 u47 u48 u49 u50 u51 u52 u53 u54 u55 u56 u57 u58 u59 u60 u61 u62 u63 u64 u65 u66 u67 u68 u69 u70 u71 u72 u73 u74 u75 u76 u77 u78 u79 u80 u81 u82 u83 u84 u85 u86 u87 u88 u89 u90 u91 u92 u93 u94 u95 u96 u97 u98 u99 u100 u101 u102 u103 u104 u105 u106 u107 u108 u109 u110 u111 u112 u113 u114 u115 u116 u117 u118 u119 u120 u121 u122 u123 u124 u125 u126 u127 u128 u129 u130 u131 u132 u133 u134 u135 u136 u137 u138 u139 u140 u141 u142 u143 u144 u145 u146 u147 u148 u149 u150 u151 u152 u153 u154 u155 u156 u157 u158 u159 u160 u161 u162 u163 u164 u165 u166 u167 u168 u169 u170 u171 u172 u173 u174 u175 u176 u177 u178 u179 u180 u181 u182 u183 u184 u185 u186 u187 u188 u189 u190 u191 u192 u193 u194 u195 u196 u197 u198 u199 u200 u201 u202 u203 u204 u205 u206 u207 u208 u209 u210 u211 u212 u213 u214 u215 u216 u217 u218 u219 u220 u221 u222 u223 u224 u225 u226 u227 u228 u229 u230 u231 u232 u233 u234 u235 u236 u237 u238 u239 u240 u241 u242 u243 u244 u245 u246 u247 u248 u249 u250 u251 u252 u253 u254 u255 u256 u257 u258 u259 u260 u261 u262 u263 u264 u265 u266 u267 u268 u269 u270 u271 u272 u273 u274 u275 u276 u277 u278 u279 u280 u281 u282 u283 u284 u285 u286 u287 u288 u289 u290 u291 u292 u293 u294 u295 : Value) (wt : IntKind.i64.wrap (c4 * c4) = t) (wz : IntKind.i64.wrap (q + t) = z)
    (hA : BisAt w B2 B3 B5 B6) (hk : Kp w wx [(B5, (.cells #[.int .i64 c0, .int .i64 c1, .int .i64 c2, .int .i64 c3, .int .i64 c4, .int .i64 c5, .int .i64 c6, .int .i64 c7] 44 (0, 0))), (B6, (.cells #[.int .i64 p, .int .i64 q] 45 (0, 0))), (B3, (.cells #[.int .i8 n0, .int .i8 n1, .int .i8 n2, .int .i8 n3] 42 (0, 0))), (B2, (.cells #[.int .i8 m0, .int .i8 m1, .int .i8 m2, .int .i8 m3] 42 (0, 0)))]) (hQ : ∀ wy, Kp w wy [(B5, (.cells #[.int .i64 c0, .int .i64 c1, .int .i64 c2, .int .i64 c3, .int .i64 c4, .int .i64 c5, .int .i64 c6, .int .i64 c7] 44 (0, 0))), (B6, (.cells #[.int .i64 p, .int .i64 z] 45 (0, 0))), (B3, (.cells #[.int .i8 n0, .int .i8 n1, .int .i8 n2, .int .i8 n3] 42 (0, 0))), (B2, (.cells #[.int .i8 m0, .int .i8 m1, .int .i8 m2, .int .i8 m3] 42 (0, 0)))] → Q .normal ⟨#[u0, u1, .pointer (some ⟨B2, 0, none⟩), .pointer (some ⟨B3, 0, none⟩), u4, .pointer (some ⟨B5, 0, none⟩), .pointer (some ⟨B6, 0, none⟩), .int .i64 0, u8, u9, u10, u11, u12, u13, u14, u15, u16, u17, u18, u19, u20, u21, u22, u23, u24, u25, u26, u27, u28, u29, u30, u31, u32, u33, u34, u35, u36, u37, u38, u39, u40, u41, u42, u43, u44, u45, u46, u47, u48, u49, u50, u51, u52, u53, u54, u55, u56, u57, u58, u59, u60, u61, u62, u63, u64, u65, u66, u67, u68, .pointer (some ⟨B6, 1, none⟩), .int .i64 q, .int .i64 0, .pointer (some ⟨B5, 4, none⟩), .pointer (some ⟨B5, 4, none⟩), .int .i64 c4, .int .i64 0, .pointer (some ⟨B5, 4, none⟩), .pointer (some ⟨B5, 4, none⟩), .int .i64 c4, .int .i64 t, .int .i64 z, .pointer (some ⟨B6, 1, none⟩), u82, u83, u84, u85, u86, u87, u88, u89, u90, u91, u92, u93, u94, u95, u96, u97, u98, u99, u100, u101, u102, u103, u104, u105, u106, u107, u108, u109, u110, u111, u112, u113, u114, u115, u116, u117, u118, u119, u120, u121, u122, u123, u124, u125, u126, u127, u128, u129, u130, u131, u132, u133, u134, u135, u136, u137, u138, u139, u140, u141, u142, u143, u144, u145, u146, u147, u148, u149, u150, u151, u152, u153, u154, u155, u156, u157, u158, u159, u160, u161, u162, u163, u164, u165, u166, u167, u168, u169, u170, u171, u172, u173, u174, u175, u176, u177, u178, u179, u180, u181, u182, u183, u184, u185, u186, u187, u188, u189, u190, u191, u192, u193, u194, u195, u196, u197, u198, u199, u200, u201, u202, u203, u204, u205, u206, u207, u208, u209, u210, u211, u212, u213, u214, u215, u216, u217, u218, u219, u220, u221, u222, u223, u224, u225, u226, u227, u228, u229, u230, u231, u232, u233, u234, u235, u236, u237, u238, u239, u240, u241, u242, u243, u244, u245, u246, u247, u248, u249, u250, u251, u252, u253, u254, u255, u256, u257, u258, u259, u260, u261, u262, u263, u264, u265, u266, u267, u268, u269, u270, u271, u272, u273, u274, u275, u276, u277, u278, u279, u280, u281, u282, u283, u284, u285, u286, u287, u288, u289, u290, u291, u292, u293, u294, u295], []⟩ wy) : Code.wp Tryz.prog (bisReg 8) Q ⟨#[u0, u1, .pointer (some ⟨B2, 0, none⟩), .pointer (some ⟨B3, 0, none⟩), u4, .pointer (some ⟨B5, 0, none⟩), .pointer (some ⟨B6, 0, none⟩), .int .i64 0, u8, u9, u10, u11, u12, u13, u14, u15, u16, u17, u18, u19, u20, u21, u22, u23, u24, u25, u26, u27, u28, u29, u30, u31, u32, u33, u34, u35, u36, u37, u38, u39, u40, u41, u42, u43, u44, u45, u46, u47, u48, u49, u50, u51, u52, u53, u54, u55, u56, u57, u58, u59, u60, u61, u62, u63, u64, u65, u66, u67, u68, u69, u70, u71, u72, u73, u74, u75, u76, u77, u78, u79, u80, u81, u82, u83, u84, u85, u86, u87, u88, u89, u90, u91, u92, u93, u94, u95, u96, u97, u98, u99, u100, u101, u102, u103, u104, u105, u106, u107, u108, u109, u110, u111, u112, u113, u114, u115, u116, u117, u118, u119, u120, u121, u122, u123, u124, u125, u126, u127, u128, u129, u130, u131, u132, u133, u134, u135, u136, u137, u138, u139, u140, u141, u142, u143, u144, u145, u146, u147, u148, u149, u150, u151, u152, u153, u154, u155, u156, u157, u158, u159, u160, u161, u162, u163, u164, u165, u166, u167, u168, u169, u170, u171, u172, u173, u174, u175, u176, u177, u178, u179, u180, u181, u182, u183, u184, u185, u186, u187, u188, u189, u190, u191, u192, u193, u194, u195, u196, u197, u198, u199, u200, u201, u202, u203, u204, u205, u206, u207, u208, u209, u210, u211, u212, u213, u214, u215, u216, u217, u218, u219, u220, u221, u222, u223, u224, u225, u226, u227, u228, u229, u230, u231, u232, u233, u234, u235, u236, u237, u238, u239, u240, u241, u242, u243, u244, u245, u246, u247, u248, u249, u250, u251, u252, u253, u254, u255, u256, u257, u258, u259, u260, u261, u262, u263, u264, u265, u266, u267, u268, u269, u270, u271, u272, u273, u274, u275, u276, u277, u278, u279, u280, u281, u282, u283, u284, u285, u286, u287, u288, u289, u290, u291, u292, u293, u294, u295], []⟩ wx := by
  conv => arg 2; whnf
  dsimp only
  have K0 := Lib.hid hk
  clear hk
  apply wp_region_gives (aF := ⟨#[u0, u1, .pointer (some ⟨B2, 0, none⟩), .pointer (some ⟨B3, 0, none⟩), u4, .pointer (some ⟨B5, 0, none⟩), .pointer (some ⟨B6, 0, none⟩), .int .i64 0, u8, u9, u10, u11, u12, u13, u14, u15, u16, u17, u18, u19, u20, u21, u22, u23, u24, u25, u26, u27, u28, u29, u30, u31, u32, u33, u34, u35, u36, u37, u38, u39, u40, u41, u42, u43, u44, u45, u46, u47, u48, u49, u50, u51, u52, u53, u54, u55, u56, u57, u58, u59, u60, u61, u62, u63, u64, u65, u66, u67, u68, .pointer (some ⟨B6, 1, none⟩), .int .i64 q, .int .i64 0, .pointer (some ⟨B5, 4, none⟩), .pointer (some ⟨B5, 4, none⟩), .int .i64 c4, .int .i64 0, .pointer (some ⟨B5, 4, none⟩), .pointer (some ⟨B5, 4, none⟩), .int .i64 c4, .int .i64 t, .int .i64 z, .pointer (some ⟨B6, 1, none⟩), u82, u83, u84, u85, u86, u87, u88, u89, u90, u91, u92, u93, u94, u95, u96, u97, u98, u99, u100, u101, u102, u103, u104, u105, u106, u107, u108, u109, u110, u111, u112, u113, u114, u115, u116, u117, u118, u119, u120, u121, u122, u123, u124, u125, u126, u127, u128, u129, u130, u131, u132, u133, u134, u135, u136, u137, u138, u139, u140, u141, u142, u143, u144, u145, u146, u147, u148, u149, u150, u151, u152, u153, u154, u155, u156, u157, u158, u159, u160, u161, u162, u163, u164, u165, u166, u167, u168, u169, u170, u171, u172, u173, u174, u175, u176, u177, u178, u179, u180, u181, u182, u183, u184, u185, u186, u187, u188, u189, u190, u191, u192, u193, u194, u195, u196, u197, u198, u199, u200, u201, u202, u203, u204, u205, u206, u207, u208, u209, u210, u211, u212, u213, u214, u215, u216, u217, u218, u219, u220, u221, u222, u223, u224, u225, u226, u227, u228, u229, u230, u231, u232, u233, u234, u235, u236, u237, u238, u239, u240, u241, u242, u243, u244, u245, u246, u247, u248, u249, u250, u251, u252, u253, u254, u255, u256, u257, u258, u259, u260, u261, u262, u263, u264, u265, u266, u267, u268, u269, u270, u271, u272, u273, u274, u275, u276, u277, u278, u279, u280, u281, u282, u283, u284, u285, u286, u287, u288, u289, u290, u291, u292, u293, u294, u295], []⟩) 13 (fun w' => Blw wx.heap.size wx w') [.pointer (some ⟨B6, 1, none⟩), .int .i64 q, .int .i64 0, .pointer (some ⟨B5, 4, none⟩), .pointer (some ⟨B5, 4, none⟩), .int .i64 c4, .int .i64 0, .pointer (some ⟨B5, 4, none⟩), .pointer (some ⟨B5, 4, none⟩), .int .i64 c4, .int .i64 t, .int .i64 z, .pointer (some ⟨B6, 1, none⟩)] (by kernel_rfl) (by kernel_rfl) (by kernel_rfl) (show Below _ _ _ from (Below.refl _ _).drew)
  case haF => kernel_rfl
  case h =>
    have hBx := K0.out.2 _ (.head _)
    have hBy := K0.out.2 _ (.tail _ (.head _))
    simp only [List.take_succ_cons, List.take_zero, GivesL]
    clear K0 hQ
    refine ⟨?_, ?_, ?_, ?_, ?_, ?_, ?_, ?_, ?_, ?_, ?_, ?_, ?_, trivial⟩
    all_goals
      intro w1 hw1
      obtain ⟨x_0, x_1, x_2, x_3, x_4, x_5, x_6, x_7⟩ := cells8 (((show Below _ _ _ from hw1).block _ (lt_of_blk hBx)).trans hBx)
      obtain ⟨y_0, y_1⟩ := cells2 (((show Below _ _ _ from hw1).block _ (lt_of_blk hBy)).trans hBy)
      unfold Oper.wp
      simp only [execOp]
      go_simp <;> first
        | exact ⟨rfl, hw1⟩
  case ht =>
    intro w5 hw5
    have K5 := Lib.hid (Kp.swap (K0.out.call (show Below _ _ _ from hw5)))
    clear hw5 K0
    simp only [List.drop_succ_cons, List.drop_zero]
    obtain ⟨z0, z1⟩ := cells2 (K5.out.2 _ (.head _))
    have zz : ∀ j, w5.frozen? ⟨B6, j, none⟩ = false := fun j => frozen_of_row w5 B6 j _ _ (K5.out.2 _ (.head _))
    have HQ := Lib.hid hQ
    clear hQ
    go_wp2_with fail
    refine HQ.out _ (Kp.swap (kp_cell (Y := #[.int .i64 p, .int .i64 z]) K5.out hA.h6 ?_ 1 _ rfl))
    intro p hp
    have e1 := hA.n56
    have e2 := hA.n6
    simp only [List.mem_cons, List.not_mem_nil, or_false] at hp
    rcases hp with rfl | rfl | rfl <;> simp <;> omega

end Go.Proofs.YtggffhmdgceljaaGreatDoor

/-
  The statements of SunBisects' first loop, each alone: round 1.
-/
namespace Go.Proofs.YtggffhmdgceljaaGreatDoor
open Go.RowKit
set_option linter.unusedVariables false
set_option linter.unusedSimpArgs false
set_option maxRecDepth 1000000 in
set_option maxHeartbeats 12800000 in
theorem bis6_1 (Q : Exit → Act → World → Prop) (w wx : World) (B2 B3 B5 B6 : Nat) (m0 m1 m2 m3 n0 n1 n2 n3 c0 c1 c2 c3 c4 c5 c6 c7 p q : Int) (r s : Int) (u0 u1 u4 u8 u9 u10 u11 u12 u13 u14 u15 u16 u17 u18 u19 u20 u21 u22 u23 u24 u25 u26 u27 u28 u29 u30 u31 u32 u33 u34 u35 u36 u37 u38 u39 u40 u41 u42 u43 u44 u45 u46 u47 u48 u49 u50 u51 u52 u53 u54 u55 u56 u57 u58 u59 u60 u61 u62 u63 u64 u65 u66 u67 u68 u69 u70 u71 u72 u73 u74 u75 u76 u77 u78 u79 u80 u81 u82 u83 u84 u85 u86 u87 u88 u89 u90 u91 u92 u93 u94 u95 u96 u97 u98 u99 u100 u101 u102 u103 u104 u105 u106 u107 u108 u109 u110 u111 u112 u113 u114 u115 u116 u117 u118 u119 u120 u121 u122 u123 u124 u125 u126 u127 u128 u129 u130 u131 u132 u133 u134 u135 u136 u137 u138 u139 u140 u141 u142 u143 u144 u145 u146 u147 u148 u149 u150 u151 u152 u153 u154 u155 u156 u157 u158 u159 u160 u161 u162 u163 u164 u165 u166 u167 u168 u169 u170 u171 u172 u173 u174 u175 u176 u177 u178 u179 u180 u181 u182 u183 u184 u185 u186 u187 u188 u189 u190 u191 u192 u193 u194 u195 u196 u197 u198 u199 u200 u201 u202 u203 u204 u205 u206 u207 u208 u209 u210 u211 u212 u213 u214 u215 u216 u217 u218 u219 u220 u221 u222 u223 u224 u225 u226 u227 u228 u229 u230 u231 u232 u233 u234 u235 u236 u237 u238 u239 u240 u241 u242 u243 u244 u245 u246 u247 u248 u249 u250 u251 u252 u253 u254 u255 u256 u257 u258 u259 u260 u261 u262 u263 u264 u265 u266 u267 u268 u269 u270 u271 u272 u273 u274 u275 u276 u277 u278 u279 u280 u281 u282 u283 u284 u285 u286 u287 u288 u289 u290 u291 u292 u293 u294 u295 : Value)
    (wm : IntKind.i64.wrap m1 = m1) (wn : IntKind.i64.wrap n1 = n1) (em : m1.tmod 4 = r) (en : n1.tmod 4 = s) (wr : IntKind.i64.wrap r = r) (ws : IntKind.i64.wrap s = s)
    (hA : BisAt w B2 B3 B5 B6) (hk : Kp w wx [(B5, (.cells #[.int .i64 c0, .int .i64 c1, .int .i64 c2, .int .i64 c3, .int .i64 c4, .int .i64 c5, .int .i64 c6, .int .i64 c7] 44 (0, 0))), (B6, (.cells #[.int .i64 p, .int .i64 q] 45 (0, 0))), (B3, (.cells #[.int .i8 n0, .int .i8 n1, .int .i8 n2, .int .i8 n3] 42 (0, 0))), (B2, (.cells #[.int .i8 m0, .int .i8 m1, .int .i8 m2, .int .i8 m3] 42 (0, 0)))]) (hQ : ∀ wy, Kp w wy [(B5, (.cells #[.int .i64 c0, .int .i64 r, .int .i64 c2, .int .i64 c3, .int .i64 c4, .int .i64 s, .int .i64 c6, .int .i64 c7] 44 (0, 0))), (B6, (.cells #[.int .i64 p, .int .i64 q] 45 (0, 0))), (B3, (.cells #[.int .i8 n0, .int .i8 n1, .int .i8 n2, .int .i8 n3] 42 (0, 0))), (B2, (.cells #[.int .i8 m0, .int .i8 m1, .int .i8 m2, .int .i8 m3] 42 (0, 0)))] → Q .normal ⟨#[u0, u1, .pointer (some ⟨B2, 0, none⟩), .pointer (some ⟨B3, 0, none⟩), u4, .pointer (some ⟨B5, 0, none⟩), .pointer (some ⟨B6, 0, none⟩), .int .i64 1, u8, u9, u10, u11, u12, u13, u14, u15, u16, u17, u18, u19, u20, u21, u22, u23, u24, u25, u26, u27, u28, u29, u30, u31, u32, u33, u34, u35, u36, u37, u38, u39, .int .i64 1, .int .i64 1, .int .i64 1, .pointer (some ⟨B2, 1, none⟩), .int .i8 m1, .int .i64 m1, .int .i64 r, .int .i64 1, .pointer (some ⟨B3, 1, none⟩), .int .i8 n1, .int .i64 n1, .int .i64 s, .pointer (some ⟨B5, 0, none⟩), .pointer (some ⟨B5, 1, none⟩), .pointer (some ⟨B5, 4, none⟩), .pointer (some ⟨B5, 5, none⟩), u56, u57, u58, u59, u60, u61, u62, u63, u64, u65, u66, u67, u68, u69, u70, u71, u72, u73, u74, u75, u76, u77, u78, u79, u80, u81, u82, u83, u84, u85, u86, u87, u88, u89, u90, u91, u92, u93, u94, u95, u96, u97, u98, u99, u100, u101, u102, u103, u104, u105, u106, u107, u108, u109, u110, u111, u112, u113, u114, u115, u116, u117, u118, u119, u120, u121, u122, u123, u124, u125, u126, u127, u128, u129, u130, u131, u132, u133, u134, u135, u136, u137, u138, u139, u140, u141, u142, u143, u144, u145, u146, u147, u148, u149, u150, u151, u152, u153, u154, u155, u156, u157, u158, u159, u160, u161, u162, u163, u164, u165, u166, u167, u168, u169, u170, u171, u172, u173, u174, u175, u176, u177, u178, u179, u180, u181, u182, u183, u184, u185, u186, u187, u188, u189, u190, u191, u192, u193, u194, u195, u196, u197, u198, u199, u200, u201, u202, u203, u204, u205, u206, u207, u208, u209, u210, u211, u212, u213, u214, u215, u216, u217, u218, u219, u220, u221, u222, u223, u224, u225, u226, u227, u228, u229, u230, u231, u232, u233, u234, u235, u236, u237, u238, u239, u240, u241, u242, u243, u244, u245, u246, u247, u248, u249, u250, u251, u252, u253, u254, u255, u256, u257, u258, u259, u260, u261, u262, u263, u264, u265, u266, u267, u268, u269, u270, u271, u272, u273, u274, u275, u276, u277, u278, u279, u280, u281, u282, u283, u284, u285, u286, u287, u288, u289, u290, u291, u292, u293, u294, u295], []⟩ wy) : Code.wp Tryz.prog (bisReg 6) Q ⟨#[u0, u1, .pointer (some ⟨B2, 0, none⟩), .pointer (some ⟨B3, 0, none⟩), u4, .pointer (some ⟨B5, 0, none⟩), .pointer (some ⟨B6, 0, none⟩), .int .i64 1, u8, u9, u10, u11, u12, u13, u14, u15, u16, u17, u18, u19, u20, u21, u22, u23, u24, u25, u26, u27, u28, u29, u30, u31, u32, u33, u34, u35, u36, u37, u38, u39, u40, u41, u42, u43, u44, u45, u46, u47, u48, u49, u50, u51, u52, u53, u54, u55, u56, u57, u58, u59, u60, u61, u62, u63, u64, u65, u66, u67, u68, u69, u70, u71, u72, u73, u74, u75, u76, u77, u78, u79, u80, u81, u82, u83, u84, u85, u86, u87, u88, u89, u90, u91, u92, u93, u94, u95, u96, u97, u98, u99, u100, u101, u102, u103, u104, u105, u106, u107, u108, u109, u110, u111, u112, u113, u114, u115, u116, u117, u118, u119, u120, u121, u122, u123, u124, u125, u126, u127, u128, u129, u130, u131, u132, u133, u134, u135, u136, u137, u138, u139, u140, u141, u142, u143, u144, u145, u146, u147, u148, u149, u150, u151, u152, u153, u154, u155, u156, u157, u158, u159, u160, u161, u162, u163, u164, u165, u166, u167, u168, u169, u170, u171, u172, u173, u174, u175, u176, u177, u178, u179, u180, u181, u182, u183, u184, u185, u186, u187, u188, u189, u190, u191, u192, u193, u194, u195, u196, u197, u198, u199, u200, u201, u202, u203, u204, u205, u206, u207, u208, u209, u210, u211, u212, u213, u214, u215, u216, u217, u218, u219, u220, u221, u222, u223, u224, u225, u226, u227, u228, u229, u230, u231, u232, u233, u234, u235, u236, u237, u238, u239, u240, u241, u242, u243, u244, u245, u246, u247, u248, u249, u250, u251, u252, u253, u254, u255, u256, u257, u258, u259, u260, u261, u262, u263, u264, u265, u266, u267, u268, u269, u270, u271, u272, u273, u274, u275, u276, u277, u278, u279, u280, u281, u282, u283, u284, u285, u286, u287, u288, u289, u290, u291, u292, u293, u294, u295], []⟩ wx := by
  conv => arg 2; whnf
  dsimp only
  apply wp_region_two (aF := ⟨#[u0, u1, .pointer (some ⟨B2, 0, none⟩), .pointer (some ⟨B3, 0, none⟩), u4, .pointer (some ⟨B5, 0, none⟩), .pointer (some ⟨B6, 0, none⟩), .int .i64 1, u8, u9, u10, u11, u12, u13, u14, u15, u16, u17, u18, u19, u20, u21, u22, u23, u24, u25, u26, u27, u28, u29, u30, u31, u32, u33, u34, u35, u36, u37, u38, u39, .int .i64 1, .int .i64 1, .int .i64 1, .pointer (some ⟨B2, 1, none⟩), .int .i8 m1, .int .i64 m1, .int .i64 r, .int .i64 1, .pointer (some ⟨B3, 1, none⟩), .int .i8 n1, .int .i64 n1, .int .i64 s, .pointer (some ⟨B5, 0, none⟩), .pointer (some ⟨B5, 1, none⟩), .pointer (some ⟨B5, 4, none⟩), .pointer (some ⟨B5, 5, none⟩), u56, u57, u58, u59, u60, u61, u62, u63, u64, u65, u66, u67, u68, u69, u70, u71, u72, u73, u74, u75, u76, u77, u78, u79, u80, u81, u82, u83, u84, u85, u86, u87, u88, u89, u90, u91, u92, u93, u94, u95, u96, u97, u98, u99, u100, u101, u102, u103, u104, u105, u106, u107, u108, u109, u110, u111, u112, u113, u114, u115, u116, u117, u118, u119, u120, u121, u122, u123, u124, u125, u126, u127, u128, u129, u130, u131, u132, u133, u134, u135, u136, u137, u138, u139, u140, u141, u142, u143, u144, u145, u146, u147, u148, u149, u150, u151, u152, u153, u154, u155, u156, u157, u158, u159, u160, u161, u162, u163, u164, u165, u166, u167, u168, u169, u170, u171, u172, u173, u174, u175, u176, u177, u178, u179, u180, u181, u182, u183, u184, u185, u186, u187, u188, u189, u190, u191, u192, u193, u194, u195, u196, u197, u198, u199, u200, u201, u202, u203, u204, u205, u206, u207, u208, u209, u210, u211, u212, u213, u214, u215, u216, u217, u218, u219, u220, u221, u222, u223, u224, u225, u226, u227, u228, u229, u230, u231, u232, u233, u234, u235, u236, u237, u238, u239, u240, u241, u242, u243, u244, u245, u246, u247, u248, u249, u250, u251, u252, u253, u254, u255, u256, u257, u258, u259, u260, u261, u262, u263, u264, u265, u266, u267, u268, u269, u270, u271, u272, u273, u274, u275, u276, u277, u278, u279, u280, u281, u282, u283, u284, u285, u286, u287, u288, u289, u290, u291, u292, u293, u294, u295], []⟩) 14 17 (fun b1 b2 w1 => Kp w w1 [(B5, (.cells #[.int .i64 c0, .int .i64 (cond b1 r c1), .int .i64 c2, .int .i64 c3, .int .i64 c4, .int .i64 (cond b2 s c5), .int .i64 c6, .int .i64 c7] 44 (0, 0))), (B6, (.cells #[.int .i64 p, .int .i64 q] 45 (0, 0))), (B3, (.cells #[.int .i8 n0, .int .i8 n1, .int .i8 n2, .int .i8 n3] 42 (0, 0))), (B2, (.cells #[.int .i8 m0, .int .i8 m1, .int .i8 m2, .int .i8 m3] 42 (0, 0)))]) [false, false, false, false, false, false, false, false, false, false, false, false, false, false, true, false, false, true] [.int .i64 1, .int .i64 1, .int .i64 1, .pointer (some ⟨B2, 1, none⟩), .int .i8 m1, .int .i64 m1, .int .i64 r, .int .i64 1, .pointer (some ⟨B3, 1, none⟩), .int .i8 n1, .int .i64 n1, .int .i64 s, .pointer (some ⟨B5, 0, none⟩), .pointer (some ⟨B5, 1, none⟩), undef, .pointer (some ⟨B5, 4, none⟩), .pointer (some ⟨B5, 5, none⟩), undef] _ _ (by kernel_rfl) (by kernel_rfl) (by decide) rfl rfl rfl rfl
  case haF => kernel_rfl
  case h0 => exact hk.drew
  case hG =>
    intro b1 b2
    simp only [GivesM]
    clear hQ hk
    refine ⟨?_, ?_, ?_, ?_, ?_, ?_, ?_, ?_, ?_, ?_, ?_, ?_, ?_, ?_, ?_, ?_, trivial⟩
    all_goals
      intro w1 hw1
      have KW := Lib.hid hw1
      clear hw1
      obtain ⟨x0, x1, x2, x3⟩ := cells4 (KW.out.2 _ (.tail _ (.tail _ (.tail _ (.head _)))))
      obtain ⟨y0, y1, y2, y3⟩ := cells4 (KW.out.2 _ (.tail _ (.tail _ (.head _))))
      unfold Oper.wp
      simp only [execOp]
      go_simp <;> first
        | exact ⟨rfl, KW.out⟩
        | exact KW.out
  case hS1 =>
    intro b2 w1 hw1
    have KW := Lib.hid hw1
    clear hw1 hQ hk
    obtain ⟨z0, z1, z2, z3, z4, z5, z6, z7⟩ := cells8 (KW.out.2 _ (.head _))
    have zz : ∀ j, w1.frozen? ⟨B5, j, none⟩ = false := fun j => frozen_of_row w1 B5 j _ _ (KW.out.2 _ (.head _))
    unfold Oper.wp
    simp only [execOp]
    go_simp
    refine kp_cell (Y := #[.int .i64 c0, .int .i64 (cond true r c1), .int .i64 c2, .int .i64 c3, .int .i64 c4, .int .i64 (cond b2 s c5), .int .i64 c6, .int .i64 c7]) KW.out hA.h5 ?_ 1 _ rfl
    intro p hp
    have e1 := hA.n56
    have e2 := hA.n5
    simp only [List.mem_cons, List.not_mem_nil, or_false] at hp
    rcases hp with rfl | rfl | rfl <;> simp <;> omega
  case hS2 =>
    intro b1 w1 hw1
    have KW := Lib.hid hw1
    clear hw1 hQ hk
    obtain ⟨z0, z1, z2, z3, z4, z5, z6, z7⟩ := cells8 (KW.out.2 _ (.head _))
    have zz : ∀ j, w1.frozen? ⟨B5, j, none⟩ = false := fun j => frozen_of_row w1 B5 j _ _ (KW.out.2 _ (.head _))
    unfold Oper.wp
    simp only [execOp]
    go_simp
    refine kp_cell (Y := #[.int .i64 c0, .int .i64 (cond b1 r c1), .int .i64 c2, .int .i64 c3, .int .i64 c4, .int .i64 (cond true s c5), .int .i64 c6, .int .i64 c7]) KW.out hA.h5 ?_ 5 _ rfl
    intro p hp
    have e1 := hA.n56
    have e2 := hA.n5
    simp only [List.mem_cons, List.not_mem_nil, or_false] at hp
    rcases hp with rfl | rfl | rfl <;> simp <;> omega
  case hQ => exact fun wy hy => hQ wy hy

set_option maxRecDepth 1000000 in
set_option maxHeartbeats 12800000 in
theorem bis7_1 (Q : Exit → Act → World → Prop) (w wx : World) (B2 B3 B5 B6 : Nat) (m0 m1 m2 m3 n0 n1 n2 n3 c0 c1 c2 c3 c4 c5 c6 c7 p q : Int) (t z : Int) (u0 u1 u4 u8 u9 u10 u11 u12 u13 u14 u15 u16 u17 u18 u19 u20 u21 u22 u23 u24 u25 u26 u27 u28 u29 u30 u31 u32 u33 u34 u35 u36 u37 u38 u39 u40 u41 u42 u43 u44 u45 u46 u47 u48 u49 u50 u51 u52 u53 u54 u55 u56 u57 u58 u59 u60 u61 u62 u63 u64 u65 u66 u67 u68 u69 u70 u71 u72 u73 u74 u75 u76 u77 u78 u79 u80 u81 u82 u83 u84 u85 u86 u87 u88 u89 u90 u91 u92 u93 u94 u95 u96 u97 u98 u99 u100 u101 u102 u103 u104 u105 u106 u107 u108 u109 u110 u111 u112 u113 u114 u115 u116 u117 u118 u119 u120 u121 u122 u123 u124 u125 u126 u127 u128 u129 u130 u131 u132 u133 u134 u135 u136 u137 u138 u139 u140 u141 u142 u143 u144 u145 u146 u147 u148 u149 u150 u151 u152 u153 u154 u155 u156 u157 u158 u159 u160 u161 u162 u163 u164 u165 u166 u167 u168 u169 u170 u171 u172 u173 u174 u175 u176 u177 u178 u179 u180 u181 u182 u183 u184 u185 u186 u187 u188 u189 u190 u191 u192 u193 u194 u195 u196 u197 u198 u199 u200 u201 u202 u203 u204 u205 u206 u207 u208 u209 u210 u211 u212 u213 u214 u215 u216 u217 u218 u219 u220 u221 u222 u223 u224 u225 u226 u227 u228 u229 u230 u231 u232 u233 u234 u235 u236 u237 u238 u239 u240 u241 u242 u243 u244 u245 u246 u247 u248 u249 u250 u251 u252 u253 u254 u255 u256 u257 u258 u259 u260 u261 u262 u263 u264 u265 u266 u267 u268 u269 u270 u271 u272 u273 u274 u275 u276 u277 u278 u279 u280 u281 u282 u283 u284 u285 u286 u287 u288 u289 u290 u291 u292 u293 u294 u295 : Value) (wt : IntKind.i64.wrap (c1 * c1) = t) (wz : IntKind.i64.wrap (p + t) = z)
    (hA : BisAt w B2 B3 B5 B6) (hk : Kp w wx [(B5, (.cells #[.int .i64 c0, .int .i64 c1, .int .i64 c2, .int .i64 c3, .int .i64 c4, .int .i64 c5, .int .i64 c6, .int .i64 c7] 44 (0, 0))), (B6, (.cells #[.int .i64 p, .int .i64 q] 45 (0, 0))), (B3, (.cells #[.int .i8 n0, .int .i8 n1, .int .i8 n2, .int .i8 n3] 42 (0, 0))), (B2, (.cells #[.int .i8 m0, .int .i8 m1, .int .i8 m2, .int .i8 m3] 42 (0, 0)))]) (hQ : ∀ wy, Kp w wy [(B5, (.cells #[.int .i64 c0, .int .i64 c1, .int .i64 c2, .int .i64 c3, .int .i64 c4, .int .i64 c5, .int .i64 c6, .int .i64 c7] 44 (0, 0))), (B6, (.cells #[.int .i64 z, .int .i64 q] 45 (0, 0))), (B3, (.cells #[.int .i8 n0, .int .i8 n1, .int .i8 n2, .int .i8 n3] 42 (0, 0))), (B2, (.cells #[.int .i8 m0, .int .i8 m1, .int .i8 m2, .int .i8 m3] 42 (0, 0)))] → Q .normal ⟨#[u0, u1, .pointer (some ⟨B2, 0, none⟩), .pointer (some ⟨B3, 0, none⟩), u4, .pointer (some ⟨B5, 0, none⟩), .pointer (some ⟨B6, 0, none⟩), .int .i64 1, u8, u9, u10, u11, u12, u13, u14, u15, u16, u17, u18, u19, u20, u21, u22, u23, u24, u25, u26, u27, u28, u29, u30, u31, u32, u33, u34, u35, u36, u37, u38, u39, u40, u41, u42, u43, u44, u45, u46, u47, u48, u49, u50, u51, u52, u53, u54, u55, .pointer (some ⟨B6, 0, none⟩), .int .i64 p, .int .i64 1, .pointer (some ⟨B5, 0, none⟩), .pointer (some ⟨B5, 1, none⟩), .int .i64 c1, .int .i64 1, .pointer (some ⟨B5, 0, none⟩), .pointer (some ⟨B5, 1, none⟩), .int .i64 c1, .int .i64 t, .int .i64 z, .pointer (some ⟨B6, 0, none⟩), u69, u70, u71, u72, u73, u74, u75, u76, u77, u78, u79, u80, u81, u82, u83, u84, u85, u86, u87, u88, u89, u90, u91, u92, u93, u94, u95, u96, u97, u98, u99, u100, u101, u102, u103, u104, u105, u106, u107, u108, u109, u110, u111, u112, u113, u114, u115, u116, u117, u118, u119, u120, u121, u122, u123, u124, u125, u126, u127, u128, u129, u130, u131, u132, u133, u134, u135, u136, u137, u138, u139, u140, u141, u142, u143, u144, u145, u146, u147, u148, u149, u150, u151, u152, u153, u154, u155, u156, u157, u158, u159, u160, u161, u162, u163, u164, u165, u166, u167, u168, u169, u170, u171, u172, u173, u174, u175, u176, u177, u178, u179, u180, u181, u182, u183, u184, u185, u186, u187, u188, u189, u190, u191, u192, u193, u194, u195, u196, u197, u198, u199, u200, u201, u202, u203, u204, u205, u206, u207, u208, u209, u210, u211, u212, u213, u214, u215, u216, u217, u218, u219, u220, u221, u222, u223, u224, u225, u226, u227, u228, u229, u230, u231, u232, u233, u234, u235, u236, u237, u238, u239, u240, u241, u242, u243, u244, u245, u246, u247, u248, u249, u250, u251, u252, u253, u254, u255, u256, u257, u258, u259, u260, u261, u262, u263, u264, u265, u266, u267, u268, u269, u270, u271, u272, u273, u274, u275, u276, u277, u278, u279, u280, u281, u282, u283, u284, u285, u286, u287, u288, u289, u290, u291, u292, u293, u294, u295], []⟩ wy) : Code.wp Tryz.prog (bisReg 7) Q ⟨#[u0, u1, .pointer (some ⟨B2, 0, none⟩), .pointer (some ⟨B3, 0, none⟩), u4, .pointer (some ⟨B5, 0, none⟩), .pointer (some ⟨B6, 0, none⟩), .int .i64 1, u8, u9, u10, u11, u12, u13, u14, u15, u16, u17, u18, u19, u20, u21, u22, u23, u24, u25, u26, u27, u28, u29, u30, u31, u32, u33, u34, u35, u36, u37, u38, u39, u40, u41, u42, u43, u44, u45, u46, u47, u48, u49, u50, u51, u52, u53, u54, u55, u56, u57, u58, u59, u60, u61, u62, u63, u64, u65, u66, u67, u68, u69, u70, u71, u72, u73, u74, u75, u76, u77, u78, u79, u80, u81, u82, u83, u84, u85, u86, u87, u88, u89, u90, u91, u92, u93, u94, u95, u96, u97, u98, u99, u100, u101, u102, u103, u104, u105, u106, u107, u108, u109, u110, u111, u112, u113, u114, u115, u116, u117, u118, u119, u120, u121, u122, u123, u124, u125, u126, u127, u128, u129, u130, u131, u132, u133, u134, u135, u136, u137, u138, u139, u140, u141, u142, u143, u144, u145, u146, u147, u148, u149, u150, u151, u152, u153, u154, u155, u156, u157, u158, u159, u160, u161, u162, u163, u164, u165, u166, u167, u168, u169, u170, u171, u172, u173, u174, u175, u176, u177, u178, u179, u180, u181, u182, u183, u184, u185, u186, u187, u188, u189, u190, u191, u192, u193, u194, u195, u196, u197, u198, u199, u200, u201, u202, u203, u204, u205, u206, u207, u208, u209, u210, u211, u212, u213, u214, u215, u216, u217, u218, u219, u220, u221, u222, u223, u224, u225, u226, u227, u228, u229, u230, u231, u232, u233, u234, u235, u236, u237, u238, u239, u240, u241, u242, u243, u244, u245, u246, u247, u248, u249, u250, u251, u252, u253, u254, u255, u256, u257, u258, u259, u260, u261, u262, u263, u264, u265, u266, u267, u268, u269, u270, u271, u272, u273, u274, u275, u276, u277, u278, u279, u280, u281, u282, u283, u284, u285, u286, u287, u288, u289, u290, u291, u292, u293, u294, u295], []⟩ wx := by
  conv => arg 2; whnf
  dsimp only
  have K0 := Lib.hid hk
  clear hk
  apply wp_region_gives (aF := ⟨#[u0, u1, .pointer (some ⟨B2, 0, none⟩), .pointer (some ⟨B3, 0, none⟩), u4, .pointer (some ⟨B5, 0, none⟩), .pointer (some ⟨B6, 0, none⟩), .int .i64 1, u8, u9, u10, u11, u12, u13, u14, u15, u16, u17, u18, u19, u20, u21, u22, u23, u24, u25, u26, u27, u28, u29, u30, u31, u32, u33, u34, u35, u36, u37, u38, u39, u40, u41, u42, u43, u44, u45, u46, u47, u48, u49, u50, u51, u52, u53, u54, u55, .pointer (some ⟨B6, 0, none⟩), .int .i64 p, .int .i64 1, .pointer (some ⟨B5, 0, none⟩), .pointer (some ⟨B5, 1, none⟩), .int .i64 c1, .int .i64 1, .pointer (some ⟨B5, 0, none⟩), .pointer (some ⟨B5, 1, none⟩), .int .i64 c1, .int .i64 t, .int .i64 z, .pointer (some ⟨B6, 0, none⟩), u69, u70, u71, u72, u73, u74, u75, u76, u77, u78, u79, u80, u81, u82, u83, u84, u85, u86, u87, u88, u89, u90, u91, u92, u93, u94, u95, u96, u97, u98, u99, u100, u101, u102, u103, u104, u105, u106, u107, u108, u109, u110, u111, u112, u113, u114, u115, u116, u117, u118, u119, u120, u121, u122, u123, u124, u125, u126, u127, u128, u129, u130, u131, u132, u133, u134, u135, u136, u137, u138, u139, u140, u141, u142, u143, u144, u145, u146, u147, u148, u149, u150, u151, u152, u153, u154, u155, u156, u157, u158, u159, u160, u161, u162, u163, u164, u165, u166, u167, u168, u169, u170, u171, u172, u173, u174, u175, u176, u177, u178, u179, u180, u181, u182, u183, u184, u185, u186, u187, u188, u189, u190, u191, u192, u193, u194, u195, u196, u197, u198, u199, u200, u201, u202, u203, u204, u205, u206, u207, u208, u209, u210, u211, u212, u213, u214, u215, u216, u217, u218, u219, u220, u221, u222, u223, u224, u225, u226, u227, u228, u229, u230, u231, u232, u233, u234, u235, u236, u237, u238, u239, u240, u241, u242, u243, u244, u245, u246, u247, u248, u249, u250, u251, u252, u253, u254, u255, u256, u257, u258, u259, u260, u261, u262, u263, u264, u265, u266, u267, u268, u269, u270, u271, u272, u273, u274, u275, u276, u277, u278, u279, u280, u281, u282, u283, u284, u285, u286, u287, u288, u289, u290, u291, u292, u293, u294, u295], []⟩) 13 (fun w' => Blw wx.heap.size wx w') [.pointer (some ⟨B6, 0, none⟩), .int .i64 p, .int .i64 1, .pointer (some ⟨B5, 0, none⟩), .pointer (some ⟨B5, 1, none⟩), .int .i64 c1, .int .i64 1, .pointer (some ⟨B5, 0, none⟩), .pointer (some ⟨B5, 1, none⟩), .int .i64 c1, .int .i64 t, .int .i64 z, .pointer (some ⟨B6, 0, none⟩)] (by kernel_rfl) (by kernel_rfl) (by kernel_rfl) (show Below _ _ _ from (Below.refl _ _).drew)
  case haF => kernel_rfl
  case h =>
    have hBx := K0.out.2 _ (.head _)
    have hBy := K0.out.2 _ (.tail _ (.head _))
    simp only [List.take_succ_cons, List.take_zero, GivesL]
    clear K0 hQ
    refine ⟨?_, ?_, ?_, ?_, ?_, ?_, ?_, ?_, ?_, ?_, ?_, ?_, ?_, trivial⟩
    all_goals
      intro w1 hw1
      obtain ⟨x_0, x_1, x_2, x_3, x_4, x_5, x_6, x_7⟩ := cells8 (((show Below _ _ _ from hw1).block _ (lt_of_blk hBx)).trans hBx)
      obtain ⟨y_0, y_1⟩ := cells2 (((show Below _ _ _ from hw1).block _ (lt_of_blk hBy)).trans hBy)
      unfold Oper.wp
      simp only [execOp]
      go_simp <;> first
        | exact ⟨rfl, hw1⟩
  case ht =>
    intro w5 hw5
    have K5 := Lib.hid (Kp.swap (K0.out.call (show Below _ _ _ from hw5)))
    clear hw5 K0
    simp only [List.drop_succ_cons, List.drop_zero]
    obtain ⟨z0, z1⟩ := cells2 (K5.out.2 _ (.head _))
    have zz : ∀ j, w5.frozen? ⟨B6, j, none⟩ = false := fun j => frozen_of_row w5 B6 j _ _ (K5.out.2 _ (.head _))
    have HQ := Lib.hid hQ
    clear hQ
    go_wp2_with fail
    refine HQ.out _ (Kp.swap (kp_cell (Y := #[.int .i64 z, .int .i64 q]) K5.out hA.h6 ?_ 0 _ rfl))
    intro p hp
    have e1 := hA.n56
    have e2 := hA.n6
    simp only [List.mem_cons, List.not_mem_nil, or_false] at hp
    rcases hp with rfl | rfl | rfl <;> simp <;> omega

set_option maxRecDepth 1000000 in
set_option maxHeartbeats 12800000 in
theorem bis8_1 (Q : Exit → Act → World → Prop) (w wx : World) (B2 B3 B5 B6 : Nat) (m0 m1 m2 m3 n0 n1 n2 n3 c0 c1 c2 c3 c4 c5 c6 c7 p q : Int) (t z : Int) (u0 u1 u4 u8 u9 u10 u11 u12 u13 u14 u15 u16 u17 u18 u19 u20 u21 u22 u23 u24 u25 u26 u27 u28 u29 u30 u31 u32 u33 u34 u35 u36 u37 u38 u39 u40 u41 u42 u43 u44 u45 u46 u47 u48 u49 u50 u51 u52 u53 u54 u55 u56 u57 u58 u59 u60 u61 u62 u63 u64 u65 u66 u67 u68 u69 u70 u71 u72 u73 u74 u75 u76 u77 u78 u79 u80 u81 u82 u83 u84 u85 u86 u87 u88 u89 u90 u91 u92 u93 u94 u95 u96 u97 u98 u99 u100 u101 u102 u103 u104 u105 u106 u107 u108 u109 u110 u111 u112 u113 u114 u115 u116 u117 u118 u119 u120 u121 u122 u123 u124 u125 u126 u127 u128 u129 u130 u131 u132 u133 u134 u135 u136 u137 u138 u139 u140 u141 u142 u143 u144 u145 u146 u147 u148 u149 u150 u151 u152 u153 u154 u155 u156 u157 u158 u159 u160 u161 u162 u163 u164 u165 u166 u167 u168 u169 u170 u171 u172 u173 u174 u175 u176 u177 u178 u179 u180 u181 u182 u183 u184 u185 u186 u187 u188 u189 u190 u191 u192 u193 u194 u195 u196 u197 u198 u199 u200 u201 u202 u203 u204 u205 u206 u207 u208 u209 u210 u211 u212 u213 u214 u215 u216 u217 u218 u219 u220 u221 u222 u223 u224 u225 u226 u227 u228 u229 u230 u231 u232 u233 u234 u235 u236 u237 u238 u239 u240 u241 u242 u243 u244 u245 u246 u247 u248 u249 u250 u251 u252 u253 u254 u255 u256 u257 u258 u259 u260 u261 u262 u263 u264 u265 u266 u267 u268 u269 u270 u271 u272 u273 u274 u275 u276 u277 u278 u279 u280 u281 u282 u283 u284 u285 u286 u287 u288 u289 u290 u291 u292 u293 u294 u295 : Value) (wt : IntKind.i64.wrap (c5 * c5) = t) (wz : IntKind.i64.wrap (q + t) = z)
    (hA : BisAt w B2 B3 B5 B6) (hk : Kp w wx [(B5, (.cells #[.int .i64 c0, .int .i64 c1, .int .i64 c2, .int .i64 c3, .int .i64 c4, .int .i64 c5, .int .i64 c6, .int .i64 c7] 44 (0, 0))), (B6, (.cells #[.int .i64 p, .int .i64 q] 45 (0, 0))), (B3, (.cells #[.int .i8 n0, .int .i8 n1, .int .i8 n2, .int .i8 n3] 42 (0, 0))), (B2, (.cells #[.int .i8 m0, .int .i8 m1, .int .i8 m2, .int .i8 m3] 42 (0, 0)))]) (hQ : ∀ wy, Kp w wy [(B5, (.cells #[.int .i64 c0, .int .i64 c1, .int .i64 c2, .int .i64 c3, .int .i64 c4, .int .i64 c5, .int .i64 c6, .int .i64 c7] 44 (0, 0))), (B6, (.cells #[.int .i64 p, .int .i64 z] 45 (0, 0))), (B3, (.cells #[.int .i8 n0, .int .i8 n1, .int .i8 n2, .int .i8 n3] 42 (0, 0))), (B2, (.cells #[.int .i8 m0, .int .i8 m1, .int .i8 m2, .int .i8 m3] 42 (0, 0)))] → Q .normal ⟨#[u0, u1, .pointer (some ⟨B2, 0, none⟩), .pointer (some ⟨B3, 0, none⟩), u4, .pointer (some ⟨B5, 0, none⟩), .pointer (some ⟨B6, 0, none⟩), .int .i64 1, u8, u9, u10, u11, u12, u13, u14, u15, u16, u17, u18, u19, u20, u21, u22, u23, u24, u25, u26, u27, u28, u29, u30, u31, u32, u33, u34, u35, u36, u37, u38, u39, u40, u41, u42, u43, u44, u45, u46, u47, u48, u49, u50, u51, u52, u53, u54, u55, u56, u57, u58, u59, u60, u61, u62, u63, u64, u65, u66, u67, u68, .pointer (some ⟨B6, 1, none⟩), .int .i64 q, .int .i64 1, .pointer (some ⟨B5, 4, none⟩), .pointer (some ⟨B5, 5, none⟩), .int .i64 c5, .int .i64 1, .pointer (some ⟨B5, 4, none⟩), .pointer (some ⟨B5, 5, none⟩), .int .i64 c5, .int .i64 t, .int .i64 z, .pointer (some ⟨B6, 1, none⟩), u82, u83, u84, u85, u86, u87, u88, u89, u90, u91, u92, u93, u94, u95, u96, u97, u98, u99, u100, u101, u102, u103, u104, u105, u106, u107, u108, u109, u110, u111, u112, u113, u114, u115, u116, u117, u118, u119, u120, u121, u122, u123, u124, u125, u126, u127, u128, u129, u130, u131, u132, u133, u134, u135, u136, u137, u138, u139, u140, u141, u142, u143, u144, u145, u146, u147, u148, u149, u150, u151, u152, u153, u154, u155, u156, u157, u158, u159, u160, u161, u162, u163, u164, u165, u166, u167, u168, u169, u170, u171, u172, u173, u174, u175, u176, u177, u178, u179, u180, u181, u182, u183, u184, u185, u186, u187, u188, u189, u190, u191, u192, u193, u194, u195, u196, u197, u198, u199, u200, u201, u202, u203, u204, u205, u206, u207, u208, u209, u210, u211, u212, u213, u214, u215, u216, u217, u218, u219, u220, u221, u222, u223, u224, u225, u226, u227, u228, u229, u230, u231, u232, u233, u234, u235, u236, u237, u238, u239, u240, u241, u242, u243, u244, u245, u246, u247, u248, u249, u250, u251, u252, u253, u254, u255, u256, u257, u258, u259, u260, u261, u262, u263, u264, u265, u266, u267, u268, u269, u270, u271, u272, u273, u274, u275, u276, u277, u278, u279, u280, u281, u282, u283, u284, u285, u286, u287, u288, u289, u290, u291, u292, u293, u294, u295], []⟩ wy) : Code.wp Tryz.prog (bisReg 8) Q ⟨#[u0, u1, .pointer (some ⟨B2, 0, none⟩), .pointer (some ⟨B3, 0, none⟩), u4, .pointer (some ⟨B5, 0, none⟩), .pointer (some ⟨B6, 0, none⟩), .int .i64 1, u8, u9, u10, u11, u12, u13, u14, u15, u16, u17, u18, u19, u20, u21, u22, u23, u24, u25, u26, u27, u28, u29, u30, u31, u32, u33, u34, u35, u36, u37, u38, u39, u40, u41, u42, u43, u44, u45, u46, u47, u48, u49, u50, u51, u52, u53, u54, u55, u56, u57, u58, u59, u60, u61, u62, u63, u64, u65, u66, u67, u68, u69, u70, u71, u72, u73, u74, u75, u76, u77, u78, u79, u80, u81, u82, u83, u84, u85, u86, u87, u88, u89, u90, u91, u92, u93, u94, u95, u96, u97, u98, u99, u100, u101, u102, u103, u104, u105, u106, u107, u108, u109, u110, u111, u112, u113, u114, u115, u116, u117, u118, u119, u120, u121, u122, u123, u124, u125, u126, u127, u128, u129, u130, u131, u132, u133, u134, u135, u136, u137, u138, u139, u140, u141, u142, u143, u144, u145, u146, u147, u148, u149, u150, u151, u152, u153, u154, u155, u156, u157, u158, u159, u160, u161, u162, u163, u164, u165, u166, u167, u168, u169, u170, u171, u172, u173, u174, u175, u176, u177, u178, u179, u180, u181, u182, u183, u184, u185, u186, u187, u188, u189, u190, u191, u192, u193, u194, u195, u196, u197, u198, u199, u200, u201, u202, u203, u204, u205, u206, u207, u208, u209, u210, u211, u212, u213, u214, u215, u216, u217, u218, u219, u220, u221, u222, u223, u224, u225, u226, u227, u228, u229, u230, u231, u232, u233, u234, u235, u236, u237, u238, u239, u240, u241, u242, u243, u244, u245, u246, u247, u248, u249, u250, u251, u252, u253, u254, u255, u256, u257, u258, u259, u260, u261, u262, u263, u264, u265, u266, u267, u268, u269, u270, u271, u272, u273, u274, u275, u276, u277, u278, u279, u280, u281, u282, u283, u284, u285, u286, u287, u288, u289, u290, u291, u292, u293, u294, u295], []⟩ wx := by
  conv => arg 2; whnf
  dsimp only
  have K0 := Lib.hid hk
  clear hk
  apply wp_region_gives (aF := ⟨#[u0, u1, .pointer (some ⟨B2, 0, none⟩), .pointer (some ⟨B3, 0, none⟩), u4, .pointer (some ⟨B5, 0, none⟩), .pointer (some ⟨B6, 0, none⟩), .int .i64 1, u8, u9, u10, u11, u12, u13, u14, u15, u16, u17, u18, u19, u20, u21, u22, u23, u24, u25, u26, u27, u28, u29, u30, u31, u32, u33, u34, u35, u36, u37, u38, u39, u40, u41, u42, u43, u44, u45, u46, u47, u48, u49, u50, u51, u52, u53, u54, u55, u56, u57, u58, u59, u60, u61, u62, u63, u64, u65, u66, u67, u68, .pointer (some ⟨B6, 1, none⟩), .int .i64 q, .int .i64 1, .pointer (some ⟨B5, 4, none⟩), .pointer (some ⟨B5, 5, none⟩), .int .i64 c5, .int .i64 1, .pointer (some ⟨B5, 4, none⟩), .pointer (some ⟨B5, 5, none⟩), .int .i64 c5, .int .i64 t, .int .i64 z, .pointer (some ⟨B6, 1, none⟩), u82, u83, u84, u85, u86, u87, u88, u89, u90, u91, u92, u93, u94, u95, u96, u97, u98, u99, u100, u101, u102, u103, u104, u105, u106, u107, u108, u109, u110, u111, u112, u113, u114, u115, u116, u117, u118, u119, u120, u121, u122, u123, u124, u125, u126, u127, u128, u129, u130, u131, u132, u133, u134, u135, u136, u137, u138, u139, u140, u141, u142, u143, u144, u145, u146, u147, u148, u149, u150, u151, u152, u153, u154, u155, u156, u157, u158, u159, u160, u161, u162, u163, u164, u165, u166, u167, u168, u169, u170, u171, u172, u173, u174, u175, u176, u177, u178, u179, u180, u181, u182, u183, u184, u185, u186, u187, u188, u189, u190, u191, u192, u193, u194, u195, u196, u197, u198, u199, u200, u201, u202, u203, u204, u205, u206, u207, u208, u209, u210, u211, u212, u213, u214, u215, u216, u217, u218, u219, u220, u221, u222, u223, u224, u225, u226, u227, u228, u229, u230, u231, u232, u233, u234, u235, u236, u237, u238, u239, u240, u241, u242, u243, u244, u245, u246, u247, u248, u249, u250, u251, u252, u253, u254, u255, u256, u257, u258, u259, u260, u261, u262, u263, u264, u265, u266, u267, u268, u269, u270, u271, u272, u273, u274, u275, u276, u277, u278, u279, u280, u281, u282, u283, u284, u285, u286, u287, u288, u289, u290, u291, u292, u293, u294, u295], []⟩) 13 (fun w' => Blw wx.heap.size wx w') [.pointer (some ⟨B6, 1, none⟩), .int .i64 q, .int .i64 1, .pointer (some ⟨B5, 4, none⟩), .pointer (some ⟨B5, 5, none⟩), .int .i64 c5, .int .i64 1, .pointer (some ⟨B5, 4, none⟩), .pointer (some ⟨B5, 5, none⟩), .int .i64 c5, .int .i64 t, .int .i64 z, .pointer (some ⟨B6, 1, none⟩)] (by kernel_rfl) (by kernel_rfl) (by kernel_rfl) (show Below _ _ _ from (Below.refl _ _).drew)
  case haF => kernel_rfl
  case h =>
    have hBx := K0.out.2 _ (.head _)
    have hBy := K0.out.2 _ (.tail _ (.head _))
    simp only [List.take_succ_cons, List.take_zero, GivesL]
    clear K0 hQ
    refine ⟨?_, ?_, ?_, ?_, ?_, ?_, ?_, ?_, ?_, ?_, ?_, ?_, ?_, trivial⟩
    all_goals
      intro w1 hw1
      obtain ⟨x_0, x_1, x_2, x_3, x_4, x_5, x_6, x_7⟩ := cells8 (((show Below _ _ _ from hw1).block _ (lt_of_blk hBx)).trans hBx)
      obtain ⟨y_0, y_1⟩ := cells2 (((show Below _ _ _ from hw1).block _ (lt_of_blk hBy)).trans hBy)
      unfold Oper.wp
      simp only [execOp]
      go_simp <;> first
        | exact ⟨rfl, hw1⟩
  case ht =>
    intro w5 hw5
    have K5 := Lib.hid (Kp.swap (K0.out.call (show Below _ _ _ from hw5)))
    clear hw5 K0
    simp only [List.drop_succ_cons, List.drop_zero]
    obtain ⟨z0, z1⟩ := cells2 (K5.out.2 _ (.head _))
    have zz : ∀ j, w5.frozen? ⟨B6, j, none⟩ = false := fun j => frozen_of_row w5 B6 j _ _ (K5.out.2 _ (.head _))
    have HQ := Lib.hid hQ
    clear hQ
    go_wp2_with fail
    refine HQ.out _ (Kp.swap (kp_cell (Y := #[.int .i64 p, .int .i64 z]) K5.out hA.h6 ?_ 1 _ rfl))
    intro p hp
    have e1 := hA.n56
    have e2 := hA.n6
    simp only [List.mem_cons, List.not_mem_nil, or_false] at hp
    rcases hp with rfl | rfl | rfl <;> simp <;> omega

end Go.Proofs.YtggffhmdgceljaaGreatDoor

/-
  The statements of SunBisects' first loop, each alone: round 2.
-/
namespace Go.Proofs.YtggffhmdgceljaaGreatDoor
open Go.RowKit
set_option linter.unusedVariables false
set_option linter.unusedSimpArgs false
set_option maxRecDepth 1000000 in
set_option maxHeartbeats 12800000 in
theorem bis6_2 (Q : Exit → Act → World → Prop) (w wx : World) (B2 B3 B5 B6 : Nat) (m0 m1 m2 m3 n0 n1 n2 n3 c0 c1 c2 c3 c4 c5 c6 c7 p q : Int) (r s : Int) (u0 u1 u4 u8 u9 u10 u11 u12 u13 u14 u15 u16 u17 u18 u19 u20 u21 u22 u23 u24 u25 u26 u27 u28 u29 u30 u31 u32 u33 u34 u35 u36 u37 u38 u39 u40 u41 u42 u43 u44 u45 u46 u47 u48 u49 u50 u51 u52 u53 u54 u55 u56 u57 u58 u59 u60 u61 u62 u63 u64 u65 u66 u67 u68 u69 u70 u71 u72 u73 u74 u75 u76 u77 u78 u79 u80 u81 u82 u83 u84 u85 u86 u87 u88 u89 u90 u91 u92 u93 u94 u95 u96 u97 u98 u99 u100 u101 u102 u103 u104 u105 u106 u107 u108 u109 u110 u111 u112 u113 u114 u115 u116 u117 u118 u119 u120 u121 u122 u123 u124 u125 u126 u127 u128 u129 u130 u131 u132 u133 u134 u135 u136 u137 u138 u139 u140 u141 u142 u143 u144 u145 u146 u147 u148 u149 u150 u151 u152 u153 u154 u155 u156 u157 u158 u159 u160 u161 u162 u163 u164 u165 u166 u167 u168 u169 u170 u171 u172 u173 u174 u175 u176 u177 u178 u179 u180 u181 u182 u183 u184 u185 u186 u187 u188 u189 u190 u191 u192 u193 u194 u195 u196 u197 u198 u199 u200 u201 u202 u203 u204 u205 u206 u207 u208 u209 u210 u211 u212 u213 u214 u215 u216 u217 u218 u219 u220 u221 u222 u223 u224 u225 u226 u227 u228 u229 u230 u231 u232 u233 u234 u235 u236 u237 u238 u239 u240 u241 u242 u243 u244 u245 u246 u247 u248 u249 u250 u251 u252 u253 u254 u255 u256 u257 u258 u259 u260 u261 u262 u263 u264 u265 u266 u267 u268 u269 u270 u271 u272 u273 u274 u275 u276 u277 u278 u279 u280 u281 u282 u283 u284 u285 u286 u287 u288 u289 u290 u291 u292 u293 u294 u295 : Value)
    (wm : IntKind.i64.wrap m2 = m2) (wn : IntKind.i64.wrap n2 = n2) (em : m2.tmod 4 = r) (en : n2.tmod 4 = s) (wr : IntKind.i64.wrap r = r) (ws : IntKind.i64.wrap s = s)
    (hA : BisAt w B2 B3 B5 B6) (hk : Kp w wx [(B5, (.cells #[.int .i64 c0, .int .i64 c1, .int .i64 c2, .int .i64 c3, .int .i64 c4, .int .i64 c5, .int .i64 c6, .int .i64 c7] 44 (0, 0))), (B6, (.cells #[.int .i64 p, .int .i64 q] 45 (0, 0))), (B3, (.cells #[.int .i8 n0, .int .i8 n1, .int .i8 n2, .int .i8 n3] 42 (0, 0))), (B2, (.cells #[.int .i8 m0, .int .i8 m1, .int .i8 m2, .int .i8 m3] 42 (0, 0)))]) (hQ : ∀ wy, Kp w wy [(B5, (.cells #[.int .i64 c0, .int .i64 c1, .int .i64 r, .int .i64 c3, .int .i64 c4, .int .i64 c5, .int .i64 s, .int .i64 c7] 44 (0, 0))), (B6, (.cells #[.int .i64 p, .int .i64 q] 45 (0, 0))), (B3, (.cells #[.int .i8 n0, .int .i8 n1, .int .i8 n2, .int .i8 n3] 42 (0, 0))), (B2, (.cells #[.int .i8 m0, .int .i8 m1, .int .i8 m2, .int .i8 m3] 42 (0, 0)))] → Q .normal ⟨#[u0, u1, .pointer (some ⟨B2, 0, none⟩), .pointer (some ⟨B3, 0, none⟩), u4, .pointer (some ⟨B5, 0, none⟩), .pointer (some ⟨B6, 0, none⟩), .int .i64 2, u8, u9, u10, u11, u12, u13, u14, u15, u16, u17, u18, u19, u20, u21, u22, u23, u24, u25, u26, u27, u28, u29, u30, u31, u32, u33, u34, u35, u36, u37, u38, u39, .int .i64 2, .int .i64 2, .int .i64 2, .pointer (some ⟨B2, 2, none⟩), .int .i8 m2, .int .i64 m2, .int .i64 r, .int .i64 2, .pointer (some ⟨B3, 2, none⟩), .int .i8 n2, .int .i64 n2, .int .i64 s, .pointer (some ⟨B5, 0, none⟩), .pointer (some ⟨B5, 2, none⟩), .pointer (some ⟨B5, 4, none⟩), .pointer (some ⟨B5, 6, none⟩), u56, u57, u58, u59, u60, u61, u62, u63, u64, u65, u66, u67, u68, u69, u70, u71, u72, u73, u74, u75, u76, u77, u78, u79, u80, u81, u82, u83, u84, u85, u86, u87, u88, u89, u90, u91, u92, u93, u94, u95, u96, u97, u98, u99, u100, u101, u102, u103, u104, u105, u106, u107, u108, u109, u110, u111, u112, u113, u114, u115, u116, u117, u118, u119, u120, u121, u122, u123, u124, u125, u126, u127, u128, u129, u130, u131, u132, u133, u134, u135, u136, u137, u138, u139, u140, u141, u142, u143, u144, u145, u146, u147, u148, u149, u150, u151, u152, u153, u154, u155, u156, u157, u158, u159, u160, u161, u162, u163, u164, u165, u166, u167, u168, u169, u170, u171, u172, u173, u174, u175, u176, u177, u178, u179, u180, u181, u182, u183, u184, u185, u186, u187, u188, u189, u190, u191, u192, u193, u194, u195, u196, u197, u198, u199, u200, u201, u202, u203, u204, u205, u206, u207, u208, u209, u210, u211, u212, u213, u214, u215, u216, u217, u218, u219, u220, u221, u222, u223, u224, u225, u226, u227, u228, u229, u230, u231, u232, u233, u234, u235, u236, u237, u238, u239, u240, u241, u242, u243, u244, u245, u246, u247, u248, u249, u250, u251, u252, u253, u254, u255, u256, u257, u258, u259, u260, u261, u262, u263, u264, u265, u266, u267, u268, u269, u270, u271, u272, u273, u274, u275, u276, u277, u278, u279, u280, u281, u282, u283, u284, u285, u286, u287, u288, u289, u290, u291, u292, u293, u294, u295], []⟩ wy) : Code.wp Tryz.prog (bisReg 6) Q ⟨#[u0, u1, .pointer (some ⟨B2, 0, none⟩), .pointer (some ⟨B3, 0, none⟩), u4, .pointer (some ⟨B5, 0, none⟩), .pointer (some ⟨B6, 0, none⟩), .int .i64 2, u8, u9, u10, u11, u12, u13, u14, u15, u16, u17, u18, u19, u20, u21, u22, u23, u24, u25, u26, u27, u28, u29, u30, u31, u32, u33, u34, u35, u36, u37, u38, u39, u40, u41, u42, u43, u44, u45, u46, u47, u48, u49, u50, u51, u52, u53, u54, u55, u56, u57, u58, u59, u60, u61, u62, u63, u64, u65, u66, u67, u68, u69, u70, u71, u72, u73, u74, u75, u76, u77, u78, u79, u80, u81, u82, u83, u84, u85, u86, u87, u88, u89, u90, u91, u92, u93, u94, u95, u96, u97, u98, u99, u100, u101, u102, u103, u104, u105, u106, u107, u108, u109, u110, u111, u112, u113, u114, u115, u116, u117, u118, u119, u120, u121, u122, u123, u124, u125, u126, u127, u128, u129, u130, u131, u132, u133, u134, u135, u136, u137, u138, u139, u140, u141, u142, u143, u144, u145, u146, u147, u148, u149, u150, u151, u152, u153, u154, u155, u156, u157, u158, u159, u160, u161, u162, u163, u164, u165, u166, u167, u168, u169, u170, u171, u172, u173, u174, u175, u176, u177, u178, u179, u180, u181, u182, u183, u184, u185, u186, u187, u188, u189, u190, u191, u192, u193, u194, u195, u196, u197, u198, u199, u200, u201, u202, u203, u204, u205, u206, u207, u208, u209, u210, u211, u212, u213, u214, u215, u216, u217, u218, u219, u220, u221, u222, u223, u224, u225, u226, u227, u228, u229, u230, u231, u232, u233, u234, u235, u236, u237, u238, u239, u240, u241, u242, u243, u244, u245, u246, u247, u248, u249, u250, u251, u252, u253, u254, u255, u256, u257, u258, u259, u260, u261, u262, u263, u264, u265, u266, u267, u268, u269, u270, u271, u272, u273, u274, u275, u276, u277, u278, u279, u280, u281, u282, u283, u284, u285, u286, u287, u288, u289, u290, u291, u292, u293, u294, u295], []⟩ wx := by
  conv => arg 2; whnf
  dsimp only
  apply wp_region_two (aF := ⟨#[u0, u1, .pointer (some ⟨B2, 0, none⟩), .pointer (some ⟨B3, 0, none⟩), u4, .pointer (some ⟨B5, 0, none⟩), .pointer (some ⟨B6, 0, none⟩), .int .i64 2, u8, u9, u10, u11, u12, u13, u14, u15, u16, u17, u18, u19, u20, u21, u22, u23, u24, u25, u26, u27, u28, u29, u30, u31, u32, u33, u34, u35, u36, u37, u38, u39, .int .i64 2, .int .i64 2, .int .i64 2, .pointer (some ⟨B2, 2, none⟩), .int .i8 m2, .int .i64 m2, .int .i64 r, .int .i64 2, .pointer (some ⟨B3, 2, none⟩), .int .i8 n2, .int .i64 n2, .int .i64 s, .pointer (some ⟨B5, 0, none⟩), .pointer (some ⟨B5, 2, none⟩), .pointer (some ⟨B5, 4, none⟩), .pointer (some ⟨B5, 6, none⟩), u56, u57, u58, u59, u60, u61, u62, u63, u64, u65, u66, u67, u68, u69, u70, u71, u72, u73, u74, u75, u76, u77, u78, u79, u80, u81, u82, u83, u84, u85, u86, u87, u88, u89, u90, u91, u92, u93, u94, u95, u96, u97, u98, u99, u100, u101, u102, u103, u104, u105, u106, u107, u108, u109, u110, u111, u112, u113, u114, u115, u116, u117, u118, u119, u120, u121, u122, u123, u124, u125, u126, u127, u128, u129, u130, u131, u132, u133, u134, u135, u136, u137, u138, u139, u140, u141, u142, u143, u144, u145, u146, u147, u148, u149, u150, u151, u152, u153, u154, u155, u156, u157, u158, u159, u160, u161, u162, u163, u164, u165, u166, u167, u168, u169, u170, u171, u172, u173, u174, u175, u176, u177, u178, u179, u180, u181, u182, u183, u184, u185, u186, u187, u188, u189, u190, u191, u192, u193, u194, u195, u196, u197, u198, u199, u200, u201, u202, u203, u204, u205, u206, u207, u208, u209, u210, u211, u212, u213, u214, u215, u216, u217, u218, u219, u220, u221, u222, u223, u224, u225, u226, u227, u228, u229, u230, u231, u232, u233, u234, u235, u236, u237, u238, u239, u240, u241, u242, u243, u244, u245, u246, u247, u248, u249, u250, u251, u252, u253, u254, u255, u256, u257, u258, u259, u260, u261, u262, u263, u264, u265, u266, u267, u268, u269, u270, u271, u272, u273, u274, u275, u276, u277, u278, u279, u280, u281, u282, u283, u284, u285, u286, u287, u288, u289, u290, u291, u292, u293, u294, u295], []⟩) 14 17 (fun b1 b2 w1 => Kp w w1 [(B5, (.cells #[.int .i64 c0, .int .i64 c1, .int .i64 (cond b1 r c2), .int .i64 c3, .int .i64 c4, .int .i64 c5, .int .i64 (cond b2 s c6), .int .i64 c7] 44 (0, 0))), (B6, (.cells #[.int .i64 p, .int .i64 q] 45 (0, 0))), (B3, (.cells #[.int .i8 n0, .int .i8 n1, .int .i8 n2, .int .i8 n3] 42 (0, 0))), (B2, (.cells #[.int .i8 m0, .int .i8 m1, .int .i8 m2, .int .i8 m3] 42 (0, 0)))]) [false, false, false, false, false, false, false, false, false, false, false, false, false, false, true, false, false, true] [.int .i64 2, .int .i64 2, .int .i64 2, .pointer (some ⟨B2, 2, none⟩), .int .i8 m2, .int .i64 m2, .int .i64 r, .int .i64 2, .pointer (some ⟨B3, 2, none⟩), .int .i8 n2, .int .i64 n2, .int .i64 s, .pointer (some ⟨B5, 0, none⟩), .pointer (some ⟨B5, 2, none⟩), undef, .pointer (some ⟨B5, 4, none⟩), .pointer (some ⟨B5, 6, none⟩), undef] _ _ (by kernel_rfl) (by kernel_rfl) (by decide) rfl rfl rfl rfl
  case haF => kernel_rfl
  case h0 => exact hk.drew
  case hG =>
    intro b1 b2
    simp only [GivesM]
    clear hQ hk
    refine ⟨?_, ?_, ?_, ?_, ?_, ?_, ?_, ?_, ?_, ?_, ?_, ?_, ?_, ?_, ?_, ?_, trivial⟩
    all_goals
      intro w1 hw1
      have KW := Lib.hid hw1
      clear hw1
      obtain ⟨x0, x1, x2, x3⟩ := cells4 (KW.out.2 _ (.tail _ (.tail _ (.tail _ (.head _)))))
      obtain ⟨y0, y1, y2, y3⟩ := cells4 (KW.out.2 _ (.tail _ (.tail _ (.head _))))
      unfold Oper.wp
      simp only [execOp]
      go_simp <;> first
        | exact ⟨rfl, KW.out⟩
        | exact KW.out
  case hS1 =>
    intro b2 w1 hw1
    have KW := Lib.hid hw1
    clear hw1 hQ hk
    obtain ⟨z0, z1, z2, z3, z4, z5, z6, z7⟩ := cells8 (KW.out.2 _ (.head _))
    have zz : ∀ j, w1.frozen? ⟨B5, j, none⟩ = false := fun j => frozen_of_row w1 B5 j _ _ (KW.out.2 _ (.head _))
    unfold Oper.wp
    simp only [execOp]
    go_simp
    refine kp_cell (Y := #[.int .i64 c0, .int .i64 c1, .int .i64 (cond true r c2), .int .i64 c3, .int .i64 c4, .int .i64 c5, .int .i64 (cond b2 s c6), .int .i64 c7]) KW.out hA.h5 ?_ 2 _ rfl
    intro p hp
    have e1 := hA.n56
    have e2 := hA.n5
    simp only [List.mem_cons, List.not_mem_nil, or_false] at hp
    rcases hp with rfl | rfl | rfl <;> simp <;> omega
  case hS2 =>
    intro b1 w1 hw1
    have KW := Lib.hid hw1
    clear hw1 hQ hk
    obtain ⟨z0, z1, z2, z3, z4, z5, z6, z7⟩ := cells8 (KW.out.2 _ (.head _))
    have zz : ∀ j, w1.frozen? ⟨B5, j, none⟩ = false := fun j => frozen_of_row w1 B5 j _ _ (KW.out.2 _ (.head _))
    unfold Oper.wp
    simp only [execOp]
    go_simp
    refine kp_cell (Y := #[.int .i64 c0, .int .i64 c1, .int .i64 (cond b1 r c2), .int .i64 c3, .int .i64 c4, .int .i64 c5, .int .i64 (cond true s c6), .int .i64 c7]) KW.out hA.h5 ?_ 6 _ rfl
    intro p hp
    have e1 := hA.n56
    have e2 := hA.n5
    simp only [List.mem_cons, List.not_mem_nil, or_false] at hp
    rcases hp with rfl | rfl | rfl <;> simp <;> omega
  case hQ => exact fun wy hy => hQ wy hy

set_option maxRecDepth 1000000 in
set_option maxHeartbeats 12800000 in
theorem bis7_2 (Q : Exit → Act → World → Prop) (w wx : World) (B2 B3 B5 B6 : Nat) (m0 m1 m2 m3 n0 n1 n2 n3 c0 c1 c2 c3 c4 c5 c6 c7 p q : Int) (t z : Int) (u0 u1 u4 u8 u9 u10 u11 u12 u13 u14 u15 u16 u17 u18 u19 u20 u21 u22 u23 u24 u25 u26 u27 u28 u29 u30 u31 u32 u33 u34 u35 u36 u37 u38 u39 u40 u41 u42 u43 u44 u45 u46 u47 u48 u49 u50 u51 u52 u53 u54 u55 u56 u57 u58 u59 u60 u61 u62 u63 u64 u65 u66 u67 u68 u69 u70 u71 u72 u73 u74 u75 u76 u77 u78 u79 u80 u81 u82 u83 u84 u85 u86 u87 u88 u89 u90 u91 u92 u93 u94 u95 u96 u97 u98 u99 u100 u101 u102 u103 u104 u105 u106 u107 u108 u109 u110 u111 u112 u113 u114 u115 u116 u117 u118 u119 u120 u121 u122 u123 u124 u125 u126 u127 u128 u129 u130 u131 u132 u133 u134 u135 u136 u137 u138 u139 u140 u141 u142 u143 u144 u145 u146 u147 u148 u149 u150 u151 u152 u153 u154 u155 u156 u157 u158 u159 u160 u161 u162 u163 u164 u165 u166 u167 u168 u169 u170 u171 u172 u173 u174 u175 u176 u177 u178 u179 u180 u181 u182 u183 u184 u185 u186 u187 u188 u189 u190 u191 u192 u193 u194 u195 u196 u197 u198 u199 u200 u201 u202 u203 u204 u205 u206 u207 u208 u209 u210 u211 u212 u213 u214 u215 u216 u217 u218 u219 u220 u221 u222 u223 u224 u225 u226 u227 u228 u229 u230 u231 u232 u233 u234 u235 u236 u237 u238 u239 u240 u241 u242 u243 u244 u245 u246 u247 u248 u249 u250 u251 u252 u253 u254 u255 u256 u257 u258 u259 u260 u261 u262 u263 u264 u265 u266 u267 u268 u269 u270 u271 u272 u273 u274 u275 u276 u277 u278 u279 u280 u281 u282 u283 u284 u285 u286 u287 u288 u289 u290 u291 u292 u293 u294 u295 : Value) (wt : IntKind.i64.wrap (c2 * c2) = t) (wz : IntKind.i64.wrap (p + t) = z)
    (hA : BisAt w B2 B3 B5 B6) (hk : Kp w wx [(B5, (.cells #[.int .i64 c0, .int .i64 c1, .int .i64 c2, .int .i64 c3, .int .i64 c4, .int .i64 c5, .int .i64 c6, .int .i64 c7] 44 (0, 0))), (B6, (.cells #[.int .i64 p, .int .i64 q] 45 (0, 0))), (B3, (.cells #[.int .i8 n0, .int .i8 n1, .int .i8 n2, .int .i8 n3] 42 (0, 0))), (B2, (.cells #[.int .i8 m0, .int .i8 m1, .int .i8 m2, .int .i8 m3] 42 (0, 0)))]) (hQ : ∀ wy, Kp w wy [(B5, (.cells #[.int .i64 c0, .int .i64 c1, .int .i64 c2, .int .i64 c3, .int .i64 c4, .int .i64 c5, .int .i64 c6, .int .i64 c7] 44 (0, 0))), (B6, (.cells #[.int .i64 z, .int .i64 q] 45 (0, 0))), (B3, (.cells #[.int .i8 n0, .int .i8 n1, .int .i8 n2, .int .i8 n3] 42 (0, 0))), (B2, (.cells #[.int .i8 m0, .int .i8 m1, .int .i8 m2, .int .i8 m3] 42 (0, 0)))] → Q .normal ⟨#[u0, u1, .pointer (some ⟨B2, 0, none⟩), .pointer (some ⟨B3, 0, none⟩), u4, .pointer (some ⟨B5, 0, none⟩), .pointer (some ⟨B6, 0, none⟩), .int .i64 2, u8, u9, u10, u11, u12, u13, u14, u15, u16, u17, u18, u19, u20, u21, u22, u23, u24, u25, u26, u27, u28, u29, u30, u31, u32, u33, u34, u35, u36, u37, u38, u39, u40, u41, u42, u43, u44, u45, u46, u47, u48, u49, u50, u51, u52, u53, u54, u55, .pointer (some ⟨B6, 0, none⟩), .int .i64 p, .int .i64 2, .pointer (some ⟨B5, 0, none⟩), .pointer (some ⟨B5, 2, none⟩), .int .i64 c2, .int .i64 2, .pointer (some ⟨B5, 0, none⟩), .pointer (some ⟨B5, 2, none⟩), .int .i64 c2, .int .i64 t, .int .i64 z, .pointer (some ⟨B6, 0, none⟩), u69, u70, u71, u72, u73, u74, u75, u76, u77, u78, u79, u80, u81, u82, u83, u84, u85, u86, u87, u88, u89, u90, u91, u92, u93, u94, u95, u96, u97, u98, u99, u100, u101, u102, u103, u104, u105, u106, u107, u108, u109, u110, u111, u112, u113, u114, u115, u116, u117, u118, u119, u120, u121, u122, u123, u124, u125, u126, u127, u128, u129, u130, u131, u132, u133, u134, u135, u136, u137, u138, u139, u140, u141, u142, u143, u144, u145, u146, u147, u148, u149, u150, u151, u152, u153, u154, u155, u156, u157, u158, u159, u160, u161, u162, u163, u164, u165, u166, u167, u168, u169, u170, u171, u172, u173, u174, u175, u176, u177, u178, u179, u180, u181, u182, u183, u184, u185, u186, u187, u188, u189, u190, u191, u192, u193, u194, u195, u196, u197, u198, u199, u200, u201, u202, u203, u204, u205, u206, u207, u208, u209, u210, u211, u212, u213, u214, u215, u216, u217, u218, u219, u220, u221, u222, u223, u224, u225, u226, u227, u228, u229, u230, u231, u232, u233, u234, u235, u236, u237, u238, u239, u240, u241, u242, u243, u244, u245, u246, u247, u248, u249, u250, u251, u252, u253, u254, u255, u256, u257, u258, u259, u260, u261, u262, u263, u264, u265, u266, u267, u268, u269, u270, u271, u272, u273, u274, u275, u276, u277, u278, u279, u280, u281, u282, u283, u284, u285, u286, u287, u288, u289, u290, u291, u292, u293, u294, u295], []⟩ wy) : Code.wp Tryz.prog (bisReg 7) Q ⟨#[u0, u1, .pointer (some ⟨B2, 0, none⟩), .pointer (some ⟨B3, 0, none⟩), u4, .pointer (some ⟨B5, 0, none⟩), .pointer (some ⟨B6, 0, none⟩), .int .i64 2, u8, u9, u10, u11, u12, u13, u14, u15, u16, u17, u18, u19, u20, u21, u22, u23, u24, u25, u26, u27, u28, u29, u30, u31, u32, u33, u34, u35, u36, u37, u38, u39, u40, u41, u42, u43, u44, u45, u46, u47, u48, u49, u50, u51, u52, u53, u54, u55, u56, u57, u58, u59, u60, u61, u62, u63, u64, u65, u66, u67, u68, u69, u70, u71, u72, u73, u74, u75, u76, u77, u78, u79, u80, u81, u82, u83, u84, u85, u86, u87, u88, u89, u90, u91, u92, u93, u94, u95, u96, u97, u98, u99, u100, u101, u102, u103, u104, u105, u106, u107, u108, u109, u110, u111, u112, u113, u114, u115, u116, u117, u118, u119, u120, u121, u122, u123, u124, u125, u126, u127, u128, u129, u130, u131, u132, u133, u134, u135, u136, u137, u138, u139, u140, u141, u142, u143, u144, u145, u146, u147, u148, u149, u150, u151, u152, u153, u154, u155, u156, u157, u158, u159, u160, u161, u162, u163, u164, u165, u166, u167, u168, u169, u170, u171, u172, u173, u174, u175, u176, u177, u178, u179, u180, u181, u182, u183, u184, u185, u186, u187, u188, u189, u190, u191, u192, u193, u194, u195, u196, u197, u198, u199, u200, u201, u202, u203, u204, u205, u206, u207, u208, u209, u210, u211, u212, u213, u214, u215, u216, u217, u218, u219, u220, u221, u222, u223, u224, u225, u226, u227, u228, u229, u230, u231, u232, u233, u234, u235, u236, u237, u238, u239, u240, u241, u242, u243, u244, u245, u246, u247, u248, u249, u250, u251, u252, u253, u254, u255, u256, u257, u258, u259, u260, u261, u262, u263, u264, u265, u266, u267, u268, u269, u270, u271, u272, u273, u274, u275, u276, u277, u278, u279, u280, u281, u282, u283, u284, u285, u286, u287, u288, u289, u290, u291, u292, u293, u294, u295], []⟩ wx := by
  conv => arg 2; whnf
  dsimp only
  have K0 := Lib.hid hk
  clear hk
  apply wp_region_gives (aF := ⟨#[u0, u1, .pointer (some ⟨B2, 0, none⟩), .pointer (some ⟨B3, 0, none⟩), u4, .pointer (some ⟨B5, 0, none⟩), .pointer (some ⟨B6, 0, none⟩), .int .i64 2, u8, u9, u10, u11, u12, u13, u14, u15, u16, u17, u18, u19, u20, u21, u22, u23, u24, u25, u26, u27, u28, u29, u30, u31, u32, u33, u34, u35, u36, u37, u38, u39, u40, u41, u42, u43, u44, u45, u46, u47, u48, u49, u50, u51, u52, u53, u54, u55, .pointer (some ⟨B6, 0, none⟩), .int .i64 p, .int .i64 2, .pointer (some ⟨B5, 0, none⟩), .pointer (some ⟨B5, 2, none⟩), .int .i64 c2, .int .i64 2, .pointer (some ⟨B5, 0, none⟩), .pointer (some ⟨B5, 2, none⟩), .int .i64 c2, .int .i64 t, .int .i64 z, .pointer (some ⟨B6, 0, none⟩), u69, u70, u71, u72, u73, u74, u75, u76, u77, u78, u79, u80, u81, u82, u83, u84, u85, u86, u87, u88, u89, u90, u91, u92, u93, u94, u95, u96, u97, u98, u99, u100, u101, u102, u103, u104, u105, u106, u107, u108, u109, u110, u111, u112, u113, u114, u115, u116, u117, u118, u119, u120, u121, u122, u123, u124, u125, u126, u127, u128, u129, u130, u131, u132, u133, u134, u135, u136, u137, u138, u139, u140, u141, u142, u143, u144, u145, u146, u147, u148, u149, u150, u151, u152, u153, u154, u155, u156, u157, u158, u159, u160, u161, u162, u163, u164, u165, u166, u167, u168, u169, u170, u171, u172, u173, u174, u175, u176, u177, u178, u179, u180, u181, u182, u183, u184, u185, u186, u187, u188, u189, u190, u191, u192, u193, u194, u195, u196, u197, u198, u199, u200, u201, u202, u203, u204, u205, u206, u207, u208, u209, u210, u211, u212, u213, u214, u215, u216, u217, u218, u219, u220, u221, u222, u223, u224, u225, u226, u227, u228, u229, u230, u231, u232, u233, u234, u235, u236, u237, u238, u239, u240, u241, u242, u243, u244, u245, u246, u247, u248, u249, u250, u251, u252, u253, u254, u255, u256, u257, u258, u259, u260, u261, u262, u263, u264, u265, u266, u267, u268, u269, u270, u271, u272, u273, u274, u275, u276, u277, u278, u279, u280, u281, u282, u283, u284, u285, u286, u287, u288, u289, u290, u291, u292, u293, u294, u295], []⟩) 13 (fun w' => Blw wx.heap.size wx w') [.pointer (some ⟨B6, 0, none⟩), .int .i64 p, .int .i64 2, .pointer (some ⟨B5, 0, none⟩), .pointer (some ⟨B5, 2, none⟩), .int .i64 c2, .int .i64 2, .pointer (some ⟨B5, 0, none⟩), .pointer (some ⟨B5, 2, none⟩), .int .i64 c2, .int .i64 t, .int .i64 z, .pointer (some ⟨B6, 0, none⟩)] (by kernel_rfl) (by kernel_rfl) (by kernel_rfl) (show Below _ _ _ from (Below.refl _ _).drew)
  case haF => kernel_rfl
  case h =>
    have hBx := K0.out.2 _ (.head _)
    have hBy := K0.out.2 _ (.tail _ (.head _))
    simp only [List.take_succ_cons, List.take_zero, GivesL]
    clear K0 hQ
    refine ⟨?_, ?_, ?_, ?_, ?_, ?_, ?_, ?_, ?_, ?_, ?_, ?_, ?_, trivial⟩
    all_goals
      intro w1 hw1
      obtain ⟨x_0, x_1, x_2, x_3, x_4, x_5, x_6, x_7⟩ := cells8 (((show Below _ _ _ from hw1).block _ (lt_of_blk hBx)).trans hBx)
      obtain ⟨y_0, y_1⟩ := cells2 (((show Below _ _ _ from hw1).block _ (lt_of_blk hBy)).trans hBy)
      unfold Oper.wp
      simp only [execOp]
      go_simp <;> first
        | exact ⟨rfl, hw1⟩
  case ht =>
    intro w5 hw5
    have K5 := Lib.hid (Kp.swap (K0.out.call (show Below _ _ _ from hw5)))
    clear hw5 K0
    simp only [List.drop_succ_cons, List.drop_zero]
    obtain ⟨z0, z1⟩ := cells2 (K5.out.2 _ (.head _))
    have zz : ∀ j, w5.frozen? ⟨B6, j, none⟩ = false := fun j => frozen_of_row w5 B6 j _ _ (K5.out.2 _ (.head _))
    have HQ := Lib.hid hQ
    clear hQ
    go_wp2_with fail
    refine HQ.out _ (Kp.swap (kp_cell (Y := #[.int .i64 z, .int .i64 q]) K5.out hA.h6 ?_ 0 _ rfl))
    intro p hp
    have e1 := hA.n56
    have e2 := hA.n6
    simp only [List.mem_cons, List.not_mem_nil, or_false] at hp
    rcases hp with rfl | rfl | rfl <;> simp <;> omega

set_option maxRecDepth 1000000 in
set_option maxHeartbeats 12800000 in
theorem bis8_2 (Q : Exit → Act → World → Prop) (w wx : World) (B2 B3 B5 B6 : Nat) (m0 m1 m2 m3 n0 n1 n2 n3 c0 c1 c2 c3 c4 c5 c6 c7 p q : Int) (t z : Int) (u0 u1 u4 u8 u9 u10 u11 u12 u13 u14 u15 u16 u17 u18 u19 u20 u21 u22 u23 u24 u25 u26 u27 u28 u29 u30 u31 u32 u33 u34 u35 u36 u37 u38 u39 u40 u41 u42 u43 u44 u45 u46 u47 u48 u49 u50 u51 u52 u53 u54 u55 u56 u57 u58 u59 u60 u61 u62 u63 u64 u65 u66 u67 u68 u69 u70 u71 u72 u73 u74 u75 u76 u77 u78 u79 u80 u81 u82 u83 u84 u85 u86 u87 u88 u89 u90 u91 u92 u93 u94 u95 u96 u97 u98 u99 u100 u101 u102 u103 u104 u105 u106 u107 u108 u109 u110 u111 u112 u113 u114 u115 u116 u117 u118 u119 u120 u121 u122 u123 u124 u125 u126 u127 u128 u129 u130 u131 u132 u133 u134 u135 u136 u137 u138 u139 u140 u141 u142 u143 u144 u145 u146 u147 u148 u149 u150 u151 u152 u153 u154 u155 u156 u157 u158 u159 u160 u161 u162 u163 u164 u165 u166 u167 u168 u169 u170 u171 u172 u173 u174 u175 u176 u177 u178 u179 u180 u181 u182 u183 u184 u185 u186 u187 u188 u189 u190 u191 u192 u193 u194 u195 u196 u197 u198 u199 u200 u201 u202 u203 u204 u205 u206 u207 u208 u209 u210 u211 u212 u213 u214 u215 u216 u217 u218 u219 u220 u221 u222 u223 u224 u225 u226 u227 u228 u229 u230 u231 u232 u233 u234 u235 u236 u237 u238 u239 u240 u241 u242 u243 u244 u245 u246 u247 u248 u249 u250 u251 u252 u253 u254 u255 u256 u257 u258 u259 u260 u261 u262 u263 u264 u265 u266 u267 u268 u269 u270 u271 u272 u273 u274 u275 u276 u277 u278 u279 u280 u281 u282 u283 u284 u285 u286 u287 u288 u289 u290 u291 u292 u293 u294 u295 : Value) (wt : IntKind.i64.wrap (c6 * c6) = t) (wz : IntKind.i64.wrap (q + t) = z)
    (hA : BisAt w B2 B3 B5 B6) (hk : Kp w wx [(B5, (.cells #[.int .i64 c0, .int .i64 c1, .int .i64 c2, .int .i64 c3, .int .i64 c4, .int .i64 c5, .int .i64 c6, .int .i64 c7] 44 (0, 0))), (B6, (.cells #[.int .i64 p, .int .i64 q] 45 (0, 0))), (B3, (.cells #[.int .i8 n0, .int .i8 n1, .int .i8 n2, .int .i8 n3] 42 (0, 0))), (B2, (.cells #[.int .i8 m0, .int .i8 m1, .int .i8 m2, .int .i8 m3] 42 (0, 0)))]) (hQ : ∀ wy, Kp w wy [(B5, (.cells #[.int .i64 c0, .int .i64 c1, .int .i64 c2, .int .i64 c3, .int .i64 c4, .int .i64 c5, .int .i64 c6, .int .i64 c7] 44 (0, 0))), (B6, (.cells #[.int .i64 p, .int .i64 z] 45 (0, 0))), (B3, (.cells #[.int .i8 n0, .int .i8 n1, .int .i8 n2, .int .i8 n3] 42 (0, 0))), (B2, (.cells #[.int .i8 m0, .int .i8 m1, .int .i8 m2, .int .i8 m3] 42 (0, 0)))] → Q .normal ⟨#[u0, u1, .pointer (some ⟨B2, 0, none⟩), .pointer (some ⟨B3, 0, none⟩), u4, .pointer (some ⟨B5, 0, none⟩), .pointer (some ⟨B6, 0, none⟩), .int .i64 2, u8, u9, u10, u11, u12, u13, u14, u15, u16, u17, u18, u19, u20, u21, u22, u23, u24, u25, u26, u27, u28, u29, u30, u31, u32, u33, u34, u35, u36, u37, u38, u39, u40, u41, u42, u43, u44, u45, u46, u47, u48, u49, u50, u51, u52, u53, u54, u55, u56, u57, u58, u59, u60, u61, u62, u63, u64, u65, u66, u67, u68, .pointer (some ⟨B6, 1, none⟩), .int .i64 q, .int .i64 2, .pointer (some ⟨B5, 4, none⟩), .pointer (some ⟨B5, 6, none⟩), .int .i64 c6, .int .i64 2, .pointer (some ⟨B5, 4, none⟩), .pointer (some ⟨B5, 6, none⟩), .int .i64 c6, .int .i64 t, .int .i64 z, .pointer (some ⟨B6, 1, none⟩), u82, u83, u84, u85, u86, u87, u88, u89, u90, u91, u92, u93, u94, u95, u96, u97, u98, u99, u100, u101, u102, u103, u104, u105, u106, u107, u108, u109, u110, u111, u112, u113, u114, u115, u116, u117, u118, u119, u120, u121, u122, u123, u124, u125, u126, u127, u128, u129, u130, u131, u132, u133, u134, u135, u136, u137, u138, u139, u140, u141, u142, u143, u144, u145, u146, u147, u148, u149, u150, u151, u152, u153, u154, u155, u156, u157, u158, u159, u160, u161, u162, u163, u164, u165, u166, u167, u168, u169, u170, u171, u172, u173, u174, u175, u176, u177, u178, u179, u180, u181, u182, u183, u184, u185, u186, u187, u188, u189, u190, u191, u192, u193, u194, u195, u196, u197, u198, u199, u200, u201, u202, u203, u204, u205, u206, u207, u208, u209, u210, u211, u212, u213, u214, u215, u216, u217, u218, u219, u220, u221, u222, u223, u224, u225, u226, u227, u228, u229, u230, u231, u232, u233, u234, u235, u236, u237, u238, u239, u240, u241, u242, u243, u244, u245, u246, u247, u248, u249, u250, u251, u252, u253, u254, u255, u256, u257, u258, u259, u260, u261, u262, u263, u264, u265, u266, u267, u268, u269, u270, u271, u272, u273, u274, u275, u276, u277, u278, u279, u280, u281, u282, u283, u284, u285, u286, u287, u288, u289, u290, u291, u292, u293, u294, u295], []⟩ wy) : Code.wp Tryz.prog (bisReg 8) Q ⟨#[u0, u1, .pointer (some ⟨B2, 0, none⟩), .pointer (some ⟨B3, 0, none⟩), u4, .pointer (some ⟨B5, 0, none⟩), .pointer (some ⟨B6, 0, none⟩), .int .i64 2, u8, u9, u10, u11, u12, u13, u14, u15, u16, u17, u18, u19, u20, u21, u22, u23, u24, u25, u26, u27, u28, u29, u30, u31, u32, u33, u34, u35, u36, u37, u38, u39, u40, u41, u42, u43, u44, u45, u46, u47, u48, u49, u50, u51, u52, u53, u54, u55, u56, u57, u58, u59, u60, u61, u62, u63, u64, u65, u66, u67, u68, u69, u70, u71, u72, u73, u74, u75, u76, u77, u78, u79, u80, u81, u82, u83, u84, u85, u86, u87, u88, u89, u90, u91, u92, u93, u94, u95, u96, u97, u98, u99, u100, u101, u102, u103, u104, u105, u106, u107, u108, u109, u110, u111, u112, u113, u114, u115, u116, u117, u118, u119, u120, u121, u122, u123, u124, u125, u126, u127, u128, u129, u130, u131, u132, u133, u134, u135, u136, u137, u138, u139, u140, u141, u142, u143, u144, u145, u146, u147, u148, u149, u150, u151, u152, u153, u154, u155, u156, u157, u158, u159, u160, u161, u162, u163, u164, u165, u166, u167, u168, u169, u170, u171, u172, u173, u174, u175, u176, u177, u178, u179, u180, u181, u182, u183, u184, u185, u186, u187, u188, u189, u190, u191, u192, u193, u194, u195, u196, u197, u198, u199, u200, u201, u202, u203, u204, u205, u206, u207, u208, u209, u210, u211, u212, u213, u214, u215, u216, u217, u218, u219, u220, u221, u222, u223, u224, u225, u226, u227, u228, u229, u230, u231, u232, u233, u234, u235, u236, u237, u238, u239, u240, u241, u242, u243, u244, u245, u246, u247, u248, u249, u250, u251, u252, u253, u254, u255, u256, u257, u258, u259, u260, u261, u262, u263, u264, u265, u266, u267, u268, u269, u270, u271, u272, u273, u274, u275, u276, u277, u278, u279, u280, u281, u282, u283, u284, u285, u286, u287, u288, u289, u290, u291, u292, u293, u294, u295], []⟩ wx := by
  conv => arg 2; whnf
  dsimp only
  have K0 := Lib.hid hk
  clear hk
  apply wp_region_gives (aF := ⟨#[u0, u1, .pointer (some ⟨B2, 0, none⟩), .pointer (some ⟨B3, 0, none⟩), u4, .pointer (some ⟨B5, 0, none⟩), .pointer (some ⟨B6, 0, none⟩), .int .i64 2, u8, u9, u10, u11, u12, u13, u14, u15, u16, u17, u18, u19, u20, u21, u22, u23, u24, u25, u26, u27, u28, u29, u30, u31, u32, u33, u34, u35, u36, u37, u38, u39, u40, u41, u42, u43, u44, u45, u46, u47, u48, u49, u50, u51, u52, u53, u54, u55, u56, u57, u58, u59, u60, u61, u62, u63, u64, u65, u66, u67, u68, .pointer (some ⟨B6, 1, none⟩), .int .i64 q, .int .i64 2, .pointer (some ⟨B5, 4, none⟩), .pointer (some ⟨B5, 6, none⟩), .int .i64 c6, .int .i64 2, .pointer (some ⟨B5, 4, none⟩), .pointer (some ⟨B5, 6, none⟩), .int .i64 c6, .int .i64 t, .int .i64 z, .pointer (some ⟨B6, 1, none⟩), u82, u83, u84, u85, u86, u87, u88, u89, u90, u91, u92, u93, u94, u95, u96, u97, u98, u99, u100, u101, u102, u103, u104, u105, u106, u107, u108, u109, u110, u111, u112, u113, u114, u115, u116, u117, u118, u119, u120, u121, u122, u123, u124, u125, u126, u127, u128, u129, u130, u131, u132, u133, u134, u135, u136, u137, u138, u139, u140, u141, u142, u143, u144, u145, u146, u147, u148, u149, u150, u151, u152, u153, u154, u155, u156, u157, u158, u159, u160, u161, u162, u163, u164, u165, u166, u167, u168, u169, u170, u171, u172, u173, u174, u175, u176, u177, u178, u179, u180, u181, u182, u183, u184, u185, u186, u187, u188, u189, u190, u191, u192, u193, u194, u195, u196, u197, u198, u199, u200, u201, u202, u203, u204, u205, u206, u207, u208, u209, u210, u211, u212, u213, u214, u215, u216, u217, u218, u219, u220, u221, u222, u223, u224, u225, u226, u227, u228, u229, u230, u231, u232, u233, u234, u235, u236, u237, u238, u239, u240, u241, u242, u243, u244, u245, u246, u247, u248, u249, u250, u251, u252, u253, u254, u255, u256, u257, u258, u259, u260, u261, u262, u263, u264, u265, u266, u267, u268, u269, u270, u271, u272, u273, u274, u275, u276, u277, u278, u279, u280, u281, u282, u283, u284, u285, u286, u287, u288, u289, u290, u291, u292, u293, u294, u295], []⟩) 13 (fun w' => Blw wx.heap.size wx w') [.pointer (some ⟨B6, 1, none⟩), .int .i64 q, .int .i64 2, .pointer (some ⟨B5, 4, none⟩), .pointer (some ⟨B5, 6, none⟩), .int .i64 c6, .int .i64 2, .pointer (some ⟨B5, 4, none⟩), .pointer (some ⟨B5, 6, none⟩), .int .i64 c6, .int .i64 t, .int .i64 z, .pointer (some ⟨B6, 1, none⟩)] (by kernel_rfl) (by kernel_rfl) (by kernel_rfl) (show Below _ _ _ from (Below.refl _ _).drew)
  case haF => kernel_rfl
  case h =>
    have hBx := K0.out.2 _ (.head _)
    have hBy := K0.out.2 _ (.tail _ (.head _))
    simp only [List.take_succ_cons, List.take_zero, GivesL]
    clear K0 hQ
    refine ⟨?_, ?_, ?_, ?_, ?_, ?_, ?_, ?_, ?_, ?_, ?_, ?_, ?_, trivial⟩
    all_goals
      intro w1 hw1
      obtain ⟨x_0, x_1, x_2, x_3, x_4, x_5, x_6, x_7⟩ := cells8 (((show Below _ _ _ from hw1).block _ (lt_of_blk hBx)).trans hBx)
      obtain ⟨y_0, y_1⟩ := cells2 (((show Below _ _ _ from hw1).block _ (lt_of_blk hBy)).trans hBy)
      unfold Oper.wp
      simp only [execOp]
      go_simp <;> first
        | exact ⟨rfl, hw1⟩
  case ht =>
    intro w5 hw5
    have K5 := Lib.hid (Kp.swap (K0.out.call (show Below _ _ _ from hw5)))
    clear hw5 K0
    simp only [List.drop_succ_cons, List.drop_zero]
    obtain ⟨z0, z1⟩ := cells2 (K5.out.2 _ (.head _))
    have zz : ∀ j, w5.frozen? ⟨B6, j, none⟩ = false := fun j => frozen_of_row w5 B6 j _ _ (K5.out.2 _ (.head _))
    have HQ := Lib.hid hQ
    clear hQ
    go_wp2_with fail
    refine HQ.out _ (Kp.swap (kp_cell (Y := #[.int .i64 p, .int .i64 z]) K5.out hA.h6 ?_ 1 _ rfl))
    intro p hp
    have e1 := hA.n56
    have e2 := hA.n6
    simp only [List.mem_cons, List.not_mem_nil, or_false] at hp
    rcases hp with rfl | rfl | rfl <;> simp <;> omega

end Go.Proofs.YtggffhmdgceljaaGreatDoor

/-
  The statements of SunBisects' first loop, each alone: round 3.
-/
namespace Go.Proofs.YtggffhmdgceljaaGreatDoor
open Go.RowKit
set_option linter.unusedVariables false
set_option linter.unusedSimpArgs false
set_option maxRecDepth 1000000 in
set_option maxHeartbeats 12800000 in
theorem bis6_3 (Q : Exit → Act → World → Prop) (w wx : World) (B2 B3 B5 B6 : Nat) (m0 m1 m2 m3 n0 n1 n2 n3 c0 c1 c2 c3 c4 c5 c6 c7 p q : Int) (r s : Int) (u0 u1 u4 u8 u9 u10 u11 u12 u13 u14 u15 u16 u17 u18 u19 u20 u21 u22 u23 u24 u25 u26 u27 u28 u29 u30 u31 u32 u33 u34 u35 u36 u37 u38 u39 u40 u41 u42 u43 u44 u45 u46 u47 u48 u49 u50 u51 u52 u53 u54 u55 u56 u57 u58 u59 u60 u61 u62 u63 u64 u65 u66 u67 u68 u69 u70 u71 u72 u73 u74 u75 u76 u77 u78 u79 u80 u81 u82 u83 u84 u85 u86 u87 u88 u89 u90 u91 u92 u93 u94 u95 u96 u97 u98 u99 u100 u101 u102 u103 u104 u105 u106 u107 u108 u109 u110 u111 u112 u113 u114 u115 u116 u117 u118 u119 u120 u121 u122 u123 u124 u125 u126 u127 u128 u129 u130 u131 u132 u133 u134 u135 u136 u137 u138 u139 u140 u141 u142 u143 u144 u145 u146 u147 u148 u149 u150 u151 u152 u153 u154 u155 u156 u157 u158 u159 u160 u161 u162 u163 u164 u165 u166 u167 u168 u169 u170 u171 u172 u173 u174 u175 u176 u177 u178 u179 u180 u181 u182 u183 u184 u185 u186 u187 u188 u189 u190 u191 u192 u193 u194 u195 u196 u197 u198 u199 u200 u201 u202 u203 u204 u205 u206 u207 u208 u209 u210 u211 u212 u213 u214 u215 u216 u217 u218 u219 u220 u221 u222 u223 u224 u225 u226 u227 u228 u229 u230 u231 u232 u233 u234 u235 u236 u237 u238 u239 u240 u241 u242 u243 u244 u245 u246 u247 u248 u249 u250 u251 u252 u253 u254 u255 u256 u257 u258 u259 u260 u261 u262 u263 u264 u265 u266 u267 u268 u269 u270 u271 u272 u273 u274 u275 u276 u277 u278 u279 u280 u281 u282 u283 u284 u285 u286 u287 u288 u289 u290 u291 u292 u293 u294 u295 : Value)
    (wm : IntKind.i64.wrap m3 = m3) (wn : IntKind.i64.wrap n3 = n3) (em : m3.tmod 4 = r) (en : n3.tmod 4 = s) (wr : IntKind.i64.wrap r = r) (ws : IntKind.i64.wrap s = s)
    (hA : BisAt w B2 B3 B5 B6) (hk : Kp w wx [(B5, (.cells #[.int .i64 c0, .int .i64 c1, .int .i64 c2, .int .i64 c3, .int .i64 c4, .int .i64 c5, .int .i64 c6, .int .i64 c7] 44 (0, 0))), (B6, (.cells #[.int .i64 p, .int .i64 q] 45 (0, 0))), (B3, (.cells #[.int .i8 n0, .int .i8 n1, .int .i8 n2, .int .i8 n3] 42 (0, 0))), (B2, (.cells #[.int .i8 m0, .int .i8 m1, .int .i8 m2, .int .i8 m3] 42 (0, 0)))]) (hQ : ∀ wy, Kp w wy [(B5, (.cells #[.int .i64 c0, .int .i64 c1, .int .i64 c2, .int .i64 r, .int .i64 c4, .int .i64 c5, .int .i64 c6, .int .i64 s] 44 (0, 0))), (B6, (.cells #[.int .i64 p, .int .i64 q] 45 (0, 0))), (B3, (.cells #[.int .i8 n0, .int .i8 n1, .int .i8 n2, .int .i8 n3] 42 (0, 0))), (B2, (.cells #[.int .i8 m0, .int .i8 m1, .int .i8 m2, .int .i8 m3] 42 (0, 0)))] → Q .normal ⟨#[u0, u1, .pointer (some ⟨B2, 0, none⟩), .pointer (some ⟨B3, 0, none⟩), u4, .pointer (some ⟨B5, 0, none⟩), .pointer (some ⟨B6, 0, none⟩), .int .i64 3, u8, u9, u10, u11, u12, u13, u14, u15, u16, u17, u18, u19, u20, u21, u22, u23, u24, u25, u26, u27, u28, u29, u30, u31, u32, u33, u34, u35, u36, u37, u38, u39, .int .i64 3, .int .i64 3, .int .i64 3, .pointer (some ⟨B2, 3, none⟩), .int .i8 m3, .int .i64 m3, .int .i64 r, .int .i64 3, .pointer (some ⟨B3, 3, none⟩), .int .i8 n3, .int .i64 n3, .int .i64 s, .pointer (some ⟨B5, 0, none⟩), .pointer (some ⟨B5, 3, none⟩), .pointer (some ⟨B5, 4, none⟩), .pointer (some ⟨B5, 7, none⟩), u56, u57, u58, u59, u60, u61, u62, u63, u64, u65, u66, u67, u68, u69, u70, u71, u72, u73, u74, u75, u76, u77, u78, u79, u80, u81, u82, u83, u84, u85, u86, u87, u88, u89, u90, u91, u92, u93, u94, u95, u96, u97, u98, u99, u100, u101, u102, u103, u104, u105, u106, u107, u108, u109, u110, u111, u112, u113, u114, u115, u116, u117, u118, u119, u120, u121, u122, u123, u124, u125, u126, u127, u128, u129, u130, u131, u132, u133, u134, u135, u136, u137, u138, u139, u140, u141, u142, u143, u144, u145, u146, u147, u148, u149, u150, u151, u152, u153, u154, u155, u156, u157, u158, u159, u160, u161, u162, u163, u164, u165, u166, u167, u168, u169, u170, u171, u172, u173, u174, u175, u176, u177, u178, u179, u180, u181, u182, u183, u184, u185, u186, u187, u188, u189, u190, u191, u192, u193, u194, u195, u196, u197, u198, u199, u200, u201, u202, u203, u204, u205, u206, u207, u208, u209, u210, u211, u212, u213, u214, u215, u216, u217, u218, u219, u220, u221, u222, u223, u224, u225, u226, u227, u228, u229, u230, u231, u232, u233, u234, u235, u236, u237, u238, u239, u240, u241, u242, u243, u244, u245, u246, u247, u248, u249, u250, u251, u252, u253, u254, u255, u256, u257, u258, u259, u260, u261, u262, u263, u264, u265, u266, u267, u268, u269, u270, u271, u272, u273, u274, u275, u276, u277, u278, u279, u280, u281, u282, u283, u284, u285, u286, u287, u288, u289, u290, u291, u292, u293, u294, u295], []⟩ wy) : Code.wp Tryz.prog (bisReg 6) Q ⟨#[u0, u1, .pointer (some ⟨B2, 0, none⟩), .pointer (some ⟨B3, 0, none⟩), u4, .pointer (some ⟨B5, 0, none⟩), .pointer (some ⟨B6, 0, none⟩), .int .i64 3, u8, u9, u10, u11, u12, u13, u14, u15, u16, u17, u18, u19, u20, u21, u22, u23, u24, u25, u26, u27, u28, u29, u30, u31, u32, u33, u34, u35, u36, u37, u38, u39, u40, u41, u42, u43, u44, u45, u46, u47, u48, u49, u50, u51, u52, u53, u54, u55, u56, u57, u58, u59, u60, u61, u62, u63, u64, u65, u66, u67, u68, u69, u70, u71, u72, u73, u74, u75, u76, u77, u78, u79, u80, u81, u82, u83, u84, u85, u86, u87, u88, u89, u90, u91, u92, u93, u94, u95, u96, u97, u98, u99, u100, u101, u102, u103, u104, u105, u106, u107, u108, u109, u110, u111, u112, u113, u114, u115, u116, u117, u118, u119, u120, u121, u122, u123, u124, u125, u126, u127, u128, u129, u130, u131, u132, u133, u134, u135, u136, u137, u138, u139, u140, u141, u142, u143, u144, u145, u146, u147, u148, u149, u150, u151, u152, u153, u154, u155, u156, u157, u158, u159, u160, u161, u162, u163, u164, u165, u166, u167, u168, u169, u170, u171, u172, u173, u174, u175, u176, u177, u178, u179, u180, u181, u182, u183, u184, u185, u186, u187, u188, u189, u190, u191, u192, u193, u194, u195, u196, u197, u198, u199, u200, u201, u202, u203, u204, u205, u206, u207, u208, u209, u210, u211, u212, u213, u214, u215, u216, u217, u218, u219, u220, u221, u222, u223, u224, u225, u226, u227, u228, u229, u230, u231, u232, u233, u234, u235, u236, u237, u238, u239, u240, u241, u242, u243, u244, u245, u246, u247, u248, u249, u250, u251, u252, u253, u254, u255, u256, u257, u258, u259, u260, u261, u262, u263, u264, u265, u266, u267, u268, u269, u270, u271, u272, u273, u274, u275, u276, u277, u278, u279, u280, u281, u282, u283, u284, u285, u286, u287, u288, u289, u290, u291, u292, u293, u294, u295], []⟩ wx := by
  conv => arg 2; whnf
  dsimp only
  apply wp_region_two (aF := ⟨#[u0, u1, .pointer (some ⟨B2, 0, none⟩), .pointer (some ⟨B3, 0, none⟩), u4, .pointer (some ⟨B5, 0, none⟩), .pointer (some ⟨B6, 0, none⟩), .int .i64 3, u8, u9, u10, u11, u12, u13, u14, u15, u16, u17, u18, u19, u20, u21, u22, u23, u24, u25, u26, u27, u28, u29, u30, u31, u32, u33, u34, u35, u36, u37, u38, u39, .int .i64 3, .int .i64 3, .int .i64 3, .pointer (some ⟨B2, 3, none⟩), .int .i8 m3, .int .i64 m3, .int .i64 r, .int .i64 3, .pointer (some ⟨B3, 3, none⟩), .int .i8 n3, .int .i64 n3, .int .i64 s, .pointer (some ⟨B5, 0, none⟩), .pointer (some ⟨B5, 3, none⟩), .pointer (some ⟨B5, 4, none⟩), .pointer (some ⟨B5, 7, none⟩), u56, u57, u58, u59, u60, u61, u62, u63, u64, u65, u66, u67, u68, u69, u70, u71, u72, u73, u74, u75, u76, u77, u78, u79, u80, u81, u82, u83, u84, u85, u86, u87, u88, u89, u90, u91, u92, u93, u94, u95, u96, u97, u98, u99, u100, u101, u102, u103, u104, u105, u106, u107, u108, u109, u110, u111, u112, u113, u114, u115, u116, u117, u118, u119, u120, u121, u122, u123, u124, u125, u126, u127, u128, u129, u130, u131, u132, u133, u134, u135, u136, u137, u138, u139, u140, u141, u142, u143, u144, u145, u146, u147, u148, u149, u150, u151, u152, u153, u154, u155, u156, u157, u158, u159, u160, u161, u162, u163, u164, u165, u166, u167, u168, u169, u170, u171, u172, u173, u174, u175, u176, u177, u178, u179, u180, u181, u182, u183, u184, u185, u186, u187, u188, u189, u190, u191, u192, u193, u194, u195, u196, u197, u198, u199, u200, u201, u202, u203, u204, u205, u206, u207, u208, u209, u210, u211, u212, u213, u214, u215, u216, u217, u218, u219, u220, u221, u222, u223, u224, u225, u226, u227, u228, u229, u230, u231, u232, u233, u234, u235, u236, u237, u238, u239, u240, u241, u242, u243, u244, u245, u246, u247, u248, u249, u250, u251, u252, u253, u254, u255, u256, u257, u258, u259, u260, u261, u262, u263, u264, u265, u266, u267, u268, u269, u270, u271, u272, u273, u274, u275, u276, u277, u278, u279, u280, u281, u282, u283, u284, u285, u286, u287, u288, u289, u290, u291, u292, u293, u294, u295], []⟩) 14 17 (fun b1 b2 w1 => Kp w w1 [(B5, (.cells #[.int .i64 c0, .int .i64 c1, .int .i64 c2, .int .i64 (cond b1 r c3), .int .i64 c4, .int .i64 c5, .int .i64 c6, .int .i64 (cond b2 s c7)] 44 (0, 0))), (B6, (.cells #[.int .i64 p, .int .i64 q] 45 (0, 0))), (B3, (.cells #[.int .i8 n0, .int .i8 n1, .int .i8 n2, .int .i8 n3] 42 (0, 0))), (B2, (.cells #[.int .i8 m0, .int .i8 m1, .int .i8 m2, .int .i8 m3] 42 (0, 0)))]) [false, false, false, false, false, false, false, false, false, false, false, false, false, false, true, false, false, true] [.int .i64 3, .int .i64 3, .int .i64 3, .pointer (some ⟨B2, 3, none⟩), .int .i8 m3, .int .i64 m3, .int .i64 r, .int .i64 3, .pointer (some ⟨B3, 3, none⟩), .int .i8 n3, .int .i64 n3, .int .i64 s, .pointer (some ⟨B5, 0, none⟩), .pointer (some ⟨B5, 3, none⟩), undef, .pointer (some ⟨B5, 4, none⟩), .pointer (some ⟨B5, 7, none⟩), undef] _ _ (by kernel_rfl) (by kernel_rfl) (by decide) rfl rfl rfl rfl
  case haF => kernel_rfl
  case h0 => exact hk.drew
  case hG =>
    intro b1 b2
    simp only [GivesM]
    clear hQ hk
    refine ⟨?_, ?_, ?_, ?_, ?_, ?_, ?_, ?_, ?_, ?_, ?_, ?_, ?_, ?_, ?_, ?_, trivial⟩
    all_goals
      intro w1 hw1
      have KW := Lib.hid hw1
      clear hw1
      obtain ⟨x0, x1, x2, x3⟩ := cells4 (KW.out.2 _ (.tail _ (.tail _ (.tail _ (.head _)))))
      obtain ⟨y0, y1, y2, y3⟩ := cells4 (KW.out.2 _ (.tail _ (.tail _ (.head _))))
      unfold Oper.wp
      simp only [execOp]
      go_simp <;> first
        | exact ⟨rfl, KW.out⟩
        | exact KW.out
  case hS1 =>
    intro b2 w1 hw1
    have KW := Lib.hid hw1
    clear hw1 hQ hk
    obtain ⟨z0, z1, z2, z3, z4, z5, z6, z7⟩ := cells8 (KW.out.2 _ (.head _))
    have zz : ∀ j, w1.frozen? ⟨B5, j, none⟩ = false := fun j => frozen_of_row w1 B5 j _ _ (KW.out.2 _ (.head _))
    unfold Oper.wp
    simp only [execOp]
    go_simp
    refine kp_cell (Y := #[.int .i64 c0, .int .i64 c1, .int .i64 c2, .int .i64 (cond true r c3), .int .i64 c4, .int .i64 c5, .int .i64 c6, .int .i64 (cond b2 s c7)]) KW.out hA.h5 ?_ 3 _ rfl
    intro p hp
    have e1 := hA.n56
    have e2 := hA.n5
    simp only [List.mem_cons, List.not_mem_nil, or_false] at hp
    rcases hp with rfl | rfl | rfl <;> simp <;> omega
  case hS2 =>
    intro b1 w1 hw1
    have KW := Lib.hid hw1
    clear hw1 hQ hk
    obtain ⟨z0, z1, z2, z3, z4, z5, z6, z7⟩ := cells8 (KW.out.2 _ (.head _))
    have zz : ∀ j, w1.frozen? ⟨B5, j, none⟩ = false := fun j => frozen_of_row w1 B5 j _ _ (KW.out.2 _ (.head _))
    unfold Oper.wp
    simp only [execOp]
    go_simp
    refine kp_cell (Y := #[.int .i64 c0, .int .i64 c1, .int .i64 c2, .int .i64 (cond b1 r c3), .int .i64 c4, .int .i64 c5, .int .i64 c6, .int .i64 (cond true s c7)]) KW.out hA.h5 ?_ 7 _ rfl
    intro p hp
    have e1 := hA.n56
    have e2 := hA.n5
    simp only [List.mem_cons, List.not_mem_nil, or_false] at hp
    rcases hp with rfl | rfl | rfl <;> simp <;> omega
  case hQ => exact fun wy hy => hQ wy hy

set_option maxRecDepth 1000000 in
set_option maxHeartbeats 12800000 in
theorem bis7_3 (Q : Exit → Act → World → Prop) (w wx : World) (B2 B3 B5 B6 : Nat) (m0 m1 m2 m3 n0 n1 n2 n3 c0 c1 c2 c3 c4 c5 c6 c7 p q : Int) (t z : Int) (u0 u1 u4 u8 u9 u10 u11 u12 u13 u14 u15 u16 u17 u18 u19 u20 u21 u22 u23 u24 u25 u26 u27 u28 u29 u30 u31 u32 u33 u34 u35 u36 u37 u38 u39 u40 u41 u42 u43 u44 u45 u46 u47 u48 u49 u50 u51 u52 u53 u54 u55 u56 u57 u58 u59 u60 u61 u62 u63 u64 u65 u66 u67 u68 u69 u70 u71 u72 u73 u74 u75 u76 u77 u78 u79 u80 u81 u82 u83 u84 u85 u86 u87 u88 u89 u90 u91 u92 u93 u94 u95 u96 u97 u98 u99 u100 u101 u102 u103 u104 u105 u106 u107 u108 u109 u110 u111 u112 u113 u114 u115 u116 u117 u118 u119 u120 u121 u122 u123 u124 u125 u126 u127 u128 u129 u130 u131 u132 u133 u134 u135 u136 u137 u138 u139 u140 u141 u142 u143 u144 u145 u146 u147 u148 u149 u150 u151 u152 u153 u154 u155 u156 u157 u158 u159 u160 u161 u162 u163 u164 u165 u166 u167 u168 u169 u170 u171 u172 u173 u174 u175 u176 u177 u178 u179 u180 u181 u182 u183 u184 u185 u186 u187 u188 u189 u190 u191 u192 u193 u194 u195 u196 u197 u198 u199 u200 u201 u202 u203 u204 u205 u206 u207 u208 u209 u210 u211 u212 u213 u214 u215 u216 u217 u218 u219 u220 u221 u222 u223 u224 u225 u226 u227 u228 u229 u230 u231 u232 u233 u234 u235 u236 u237 u238 u239 u240 u241 u242 u243 u244 u245 u246 u247 u248 u249 u250 u251 u252 u253 u254 u255 u256 u257 u258 u259 u260 u261 u262 u263 u264 u265 u266 u267 u268 u269 u270 u271 u272 u273 u274 u275 u276 u277 u278 u279 u280 u281 u282 u283 u284 u285 u286 u287 u288 u289 u290 u291 u292 u293 u294 u295 : Value) (wt : IntKind.i64.wrap (c3 * c3) = t) (wz : IntKind.i64.wrap (p + t) = z)
    (hA : BisAt w B2 B3 B5 B6) (hk : Kp w wx [(B5, (.cells #[.int .i64 c0, .int .i64 c1, .int .i64 c2, .int .i64 c3, .int .i64 c4, .int .i64 c5, .int .i64 c6, .int .i64 c7] 44 (0, 0))), (B6, (.cells #[.int .i64 p, .int .i64 q] 45 (0, 0))), (B3, (.cells #[.int .i8 n0, .int .i8 n1, .int .i8 n2, .int .i8 n3] 42 (0, 0))), (B2, (.cells #[.int .i8 m0, .int .i8 m1, .int .i8 m2, .int .i8 m3] 42 (0, 0)))]) (hQ : ∀ wy, Kp w wy [(B5, (.cells #[.int .i64 c0, .int .i64 c1, .int .i64 c2, .int .i64 c3, .int .i64 c4, .int .i64 c5, .int .i64 c6, .int .i64 c7] 44 (0, 0))), (B6, (.cells #[.int .i64 z, .int .i64 q] 45 (0, 0))), (B3, (.cells #[.int .i8 n0, .int .i8 n1, .int .i8 n2, .int .i8 n3] 42 (0, 0))), (B2, (.cells #[.int .i8 m0, .int .i8 m1, .int .i8 m2, .int .i8 m3] 42 (0, 0)))] → Q .normal ⟨#[u0, u1, .pointer (some ⟨B2, 0, none⟩), .pointer (some ⟨B3, 0, none⟩), u4, .pointer (some ⟨B5, 0, none⟩), .pointer (some ⟨B6, 0, none⟩), .int .i64 3, u8, u9, u10, u11, u12, u13, u14, u15, u16, u17, u18, u19, u20, u21, u22, u23, u24, u25, u26, u27, u28, u29, u30, u31, u32, u33, u34, u35, u36, u37, u38, u39, u40, u41, u42, u43, u44, u45, u46, u47, u48, u49, u50, u51, u52, u53, u54, u55, .pointer (some ⟨B6, 0, none⟩), .int .i64 p, .int .i64 3, .pointer (some ⟨B5, 0, none⟩), .pointer (some ⟨B5, 3, none⟩), .int .i64 c3, .int .i64 3, .pointer (some ⟨B5, 0, none⟩), .pointer (some ⟨B5, 3, none⟩), .int .i64 c3, .int .i64 t, .int .i64 z, .pointer (some ⟨B6, 0, none⟩), u69, u70, u71, u72, u73, u74, u75, u76, u77, u78, u79, u80, u81, u82, u83, u84, u85, u86, u87, u88, u89, u90, u91, u92, u93, u94, u95, u96, u97, u98, u99, u100, u101, u102, u103, u104, u105, u106, u107, u108, u109, u110, u111, u112, u113, u114, u115, u116, u117, u118, u119, u120, u121, u122, u123, u124, u125, u126, u127, u128, u129, u130, u131, u132, u133, u134, u135, u136, u137, u138, u139, u140, u141, u142, u143, u144, u145, u146, u147, u148, u149, u150, u151, u152, u153, u154, u155, u156, u157, u158, u159, u160, u161, u162, u163, u164, u165, u166, u167, u168, u169, u170, u171, u172, u173, u174, u175, u176, u177, u178, u179, u180, u181, u182, u183, u184, u185, u186, u187, u188, u189, u190, u191, u192, u193, u194, u195, u196, u197, u198, u199, u200, u201, u202, u203, u204, u205, u206, u207, u208, u209, u210, u211, u212, u213, u214, u215, u216, u217, u218, u219, u220, u221, u222, u223, u224, u225, u226, u227, u228, u229, u230, u231, u232, u233, u234, u235, u236, u237, u238, u239, u240, u241, u242, u243, u244, u245, u246, u247, u248, u249, u250, u251, u252, u253, u254, u255, u256, u257, u258, u259, u260, u261, u262, u263, u264, u265, u266, u267, u268, u269, u270, u271, u272, u273, u274, u275, u276, u277, u278, u279, u280, u281, u282, u283, u284, u285, u286, u287, u288, u289, u290, u291, u292, u293, u294, u295], []⟩ wy) : Code.wp Tryz.prog (bisReg 7) Q ⟨#[u0, u1, .pointer (some ⟨B2, 0, none⟩), .pointer (some ⟨B3, 0, none⟩), u4, .pointer (some ⟨B5, 0, none⟩), .pointer (some ⟨B6, 0, none⟩), .int .i64 3, u8, u9, u10, u11, u12, u13, u14, u15, u16, u17, u18, u19, u20, u21, u22, u23, u24, u25, u26, u27, u28, u29, u30, u31, u32, u33, u34, u35, u36, u37, u38, u39, u40, u41, u42, u43, u44, u45, u46, u47, u48, u49, u50, u51, u52, u53, u54, u55, u56, u57, u58, u59, u60, u61, u62, u63, u64, u65, u66, u67, u68, u69, u70, u71, u72, u73, u74, u75, u76, u77, u78, u79, u80, u81, u82, u83, u84, u85, u86, u87, u88, u89, u90, u91, u92, u93, u94, u95, u96, u97, u98, u99, u100, u101, u102, u103, u104, u105, u106, u107, u108, u109, u110, u111, u112, u113, u114, u115, u116, u117, u118, u119, u120, u121, u122, u123, u124, u125, u126, u127, u128, u129, u130, u131, u132, u133, u134, u135, u136, u137, u138, u139, u140, u141, u142, u143, u144, u145, u146, u147, u148, u149, u150, u151, u152, u153, u154, u155, u156, u157, u158, u159, u160, u161, u162, u163, u164, u165, u166, u167, u168, u169, u170, u171, u172, u173, u174, u175, u176, u177, u178, u179, u180, u181, u182, u183, u184, u185, u186, u187, u188, u189, u190, u191, u192, u193, u194, u195, u196, u197, u198, u199, u200, u201, u202, u203, u204, u205, u206, u207, u208, u209, u210, u211, u212, u213, u214, u215, u216, u217, u218, u219, u220, u221, u222, u223, u224, u225, u226, u227, u228, u229, u230, u231, u232, u233, u234, u235, u236, u237, u238, u239, u240, u241, u242, u243, u244, u245, u246, u247, u248, u249, u250, u251, u252, u253, u254, u255, u256, u257, u258, u259, u260, u261, u262, u263, u264, u265, u266, u267, u268, u269, u270, u271, u272, u273, u274, u275, u276, u277, u278, u279, u280, u281, u282, u283, u284, u285, u286, u287, u288, u289, u290, u291, u292, u293, u294, u295], []⟩ wx := by
  conv => arg 2; whnf
  dsimp only
  have K0 := Lib.hid hk
  clear hk
  apply wp_region_gives (aF := ⟨#[u0, u1, .pointer (some ⟨B2, 0, none⟩), .pointer (some ⟨B3, 0, none⟩), u4, .pointer (some ⟨B5, 0, none⟩), .pointer (some ⟨B6, 0, none⟩), .int .i64 3, u8, u9, u10, u11, u12, u13, u14, u15, u16, u17, u18, u19, u20, u21, u22, u23, u24, u25, u26, u27, u28, u29, u30, u31, u32, u33, u34, u35, u36, u37, u38, u39, u40, u41, u42, u43, u44, u45, u46, u47, u48, u49, u50, u51, u52, u53, u54, u55, .pointer (some ⟨B6, 0, none⟩), .int .i64 p, .int .i64 3, .pointer (some ⟨B5, 0, none⟩), .pointer (some ⟨B5, 3, none⟩), .int .i64 c3, .int .i64 3, .pointer (some ⟨B5, 0, none⟩), .pointer (some ⟨B5, 3, none⟩), .int .i64 c3, .int .i64 t, .int .i64 z, .pointer (some ⟨B6, 0, none⟩), u69, u70, u71, u72, u73, u74, u75, u76, u77, u78, u79, u80, u81, u82, u83, u84, u85, u86, u87, u88, u89, u90, u91, u92, u93, u94, u95, u96, u97, u98, u99, u100, u101, u102, u103, u104, u105, u106, u107, u108, u109, u110, u111, u112, u113, u114, u115, u116, u117, u118, u119, u120, u121, u122, u123, u124, u125, u126, u127, u128, u129, u130, u131, u132, u133, u134, u135, u136, u137, u138, u139, u140, u141, u142, u143, u144, u145, u146, u147, u148, u149, u150, u151, u152, u153, u154, u155, u156, u157, u158, u159, u160, u161, u162, u163, u164, u165, u166, u167, u168, u169, u170, u171, u172, u173, u174, u175, u176, u177, u178, u179, u180, u181, u182, u183, u184, u185, u186, u187, u188, u189, u190, u191, u192, u193, u194, u195, u196, u197, u198, u199, u200, u201, u202, u203, u204, u205, u206, u207, u208, u209, u210, u211, u212, u213, u214, u215, u216, u217, u218, u219, u220, u221, u222, u223, u224, u225, u226, u227, u228, u229, u230, u231, u232, u233, u234, u235, u236, u237, u238, u239, u240, u241, u242, u243, u244, u245, u246, u247, u248, u249, u250, u251, u252, u253, u254, u255, u256, u257, u258, u259, u260, u261, u262, u263, u264, u265, u266, u267, u268, u269, u270, u271, u272, u273, u274, u275, u276, u277, u278, u279, u280, u281, u282, u283, u284, u285, u286, u287, u288, u289, u290, u291, u292, u293, u294, u295], []⟩) 13 (fun w' => Blw wx.heap.size wx w') [.pointer (some ⟨B6, 0, none⟩), .int .i64 p, .int .i64 3, .pointer (some ⟨B5, 0, none⟩), .pointer (some ⟨B5, 3, none⟩), .int .i64 c3, .int .i64 3, .pointer (some ⟨B5, 0, none⟩), .pointer (some ⟨B5, 3, none⟩), .int .i64 c3, .int .i64 t, .int .i64 z, .pointer (some ⟨B6, 0, none⟩)] (by kernel_rfl) (by kernel_rfl) (by kernel_rfl) (show Below _ _ _ from (Below.refl _ _).drew)
  case haF => kernel_rfl
  case h =>
    have hBx := K0.out.2 _ (.head _)
    have hBy := K0.out.2 _ (.tail _ (.head _))
    simp only [List.take_succ_cons, List.take_zero, GivesL]
    clear K0 hQ
    refine ⟨?_, ?_, ?_, ?_, ?_, ?_, ?_, ?_, ?_, ?_, ?_, ?_, ?_, trivial⟩
    all_goals
      intro w1 hw1
      obtain ⟨x_0, x_1, x_2, x_3, x_4, x_5, x_6, x_7⟩ := cells8 (((show Below _ _ _ from hw1).block _ (lt_of_blk hBx)).trans hBx)
      obtain ⟨y_0, y_1⟩ := cells2 (((show Below _ _ _ from hw1).block _ (lt_of_blk hBy)).trans hBy)
      unfold Oper.wp
      simp only [execOp]
      go_simp <;> first
        | exact ⟨rfl, hw1⟩
  case ht =>
    intro w5 hw5
    have K5 := Lib.hid (Kp.swap (K0.out.call (show Below _ _ _ from hw5)))
    clear hw5 K0
    simp only [List.drop_succ_cons, List.drop_zero]
    obtain ⟨z0, z1⟩ := cells2 (K5.out.2 _ (.head _))
    have zz : ∀ j, w5.frozen? ⟨B6, j, none⟩ = false := fun j => frozen_of_row w5 B6 j _ _ (K5.out.2 _ (.head _))
    have HQ := Lib.hid hQ
    clear hQ
    go_wp2_with fail
    refine HQ.out _ (Kp.swap (kp_cell (Y := #[.int .i64 z, .int .i64 q]) K5.out hA.h6 ?_ 0 _ rfl))
    intro p hp
    have e1 := hA.n56
    have e2 := hA.n6
    simp only [List.mem_cons, List.not_mem_nil, or_false] at hp
    rcases hp with rfl | rfl | rfl <;> simp <;> omega

set_option maxRecDepth 1000000 in
set_option maxHeartbeats 12800000 in
theorem bis8_3 (Q : Exit → Act → World → Prop) (w wx : World) (B2 B3 B5 B6 : Nat) (m0 m1 m2 m3 n0 n1 n2 n3 c0 c1 c2 c3 c4 c5 c6 c7 p q : Int) (t z : Int) (u0 u1 u4 u8 u9 u10 u11 u12 u13 u14 u15 u16 u17 u18 u19 u20 u21 u22 u23 u24 u25 u26 u27 u28 u29 u30 u31 u32 u33 u34 u35 u36 u37 u38 u39 u40 u41 u42 u43 u44 u45 u46 u47 u48 u49 u50 u51 u52 u53 u54 u55 u56 u57 u58 u59 u60 u61 u62 u63 u64 u65 u66 u67 u68 u69 u70 u71 u72 u73 u74 u75 u76 u77 u78 u79 u80 u81 u82 u83 u84 u85 u86 u87 u88 u89 u90 u91 u92 u93 u94 u95 u96 u97 u98 u99 u100 u101 u102 u103 u104 u105 u106 u107 u108 u109 u110 u111 u112 u113 u114 u115 u116 u117 u118 u119 u120 u121 u122 u123 u124 u125 u126 u127 u128 u129 u130 u131 u132 u133 u134 u135 u136 u137 u138 u139 u140 u141 u142 u143 u144 u145 u146 u147 u148 u149 u150 u151 u152 u153 u154 u155 u156 u157 u158 u159 u160 u161 u162 u163 u164 u165 u166 u167 u168 u169 u170 u171 u172 u173 u174 u175 u176 u177 u178 u179 u180 u181 u182 u183 u184 u185 u186 u187 u188 u189 u190 u191 u192 u193 u194 u195 u196 u197 u198 u199 u200 u201 u202 u203 u204 u205 u206 u207 u208 u209 u210 u211 u212 u213 u214 u215 u216 u217 u218 u219 u220 u221 u222 u223 u224 u225 u226 u227 u228 u229 u230 u231 u232 u233 u234 u235 u236 u237 u238 u239 u240 u241 u242 u243 u244 u245 u246 u247 u248 u249 u250 u251 u252 u253 u254 u255 u256 u257 u258 u259 u260 u261 u262 u263 u264 u265 u266 u267 u268 u269 u270 u271 u272 u273 u274 u275 u276 u277 u278 u279 u280 u281 u282 u283 u284 u285 u286 u287 u288 u289 u290 u291 u292 u293 u294 u295 : Value) (wt : IntKind.i64.wrap (c7 * c7) = t) (wz : IntKind.i64.wrap (q + t) = z)
    (hA : BisAt w B2 B3 B5 B6) (hk : Kp w wx [(B5, (.cells #[.int .i64 c0, .int .i64 c1, .int .i64 c2, .int .i64 c3, .int .i64 c4, .int .i64 c5, .int .i64 c6, .int .i64 c7] 44 (0, 0))), (B6, (.cells #[.int .i64 p, .int .i64 q] 45 (0, 0))), (B3, (.cells #[.int .i8 n0, .int .i8 n1, .int .i8 n2, .int .i8 n3] 42 (0, 0))), (B2, (.cells #[.int .i8 m0, .int .i8 m1, .int .i8 m2, .int .i8 m3] 42 (0, 0)))]) (hQ : ∀ wy, Kp w wy [(B5, (.cells #[.int .i64 c0, .int .i64 c1, .int .i64 c2, .int .i64 c3, .int .i64 c4, .int .i64 c5, .int .i64 c6, .int .i64 c7] 44 (0, 0))), (B6, (.cells #[.int .i64 p, .int .i64 z] 45 (0, 0))), (B3, (.cells #[.int .i8 n0, .int .i8 n1, .int .i8 n2, .int .i8 n3] 42 (0, 0))), (B2, (.cells #[.int .i8 m0, .int .i8 m1, .int .i8 m2, .int .i8 m3] 42 (0, 0)))] → Q .normal ⟨#[u0, u1, .pointer (some ⟨B2, 0, none⟩), .pointer (some ⟨B3, 0, none⟩), u4, .pointer (some ⟨B5, 0, none⟩), .pointer (some ⟨B6, 0, none⟩), .int .i64 3, u8, u9, u10, u11, u12, u13, u14, u15, u16, u17, u18, u19, u20, u21, u22, u23, u24, u25, u26, u27, u28, u29, u30, u31, u32, u33, u34, u35, u36, u37, u38, u39, u40, u41, u42, u43, u44, u45, u46, u47, u48, u49, u50, u51, u52, u53, u54, u55, u56, u57, u58, u59, u60, u61, u62, u63, u64, u65, u66, u67, u68, .pointer (some ⟨B6, 1, none⟩), .int .i64 q, .int .i64 3, .pointer (some ⟨B5, 4, none⟩), .pointer (some ⟨B5, 7, none⟩), .int .i64 c7, .int .i64 3, .pointer (some ⟨B5, 4, none⟩), .pointer (some ⟨B5, 7, none⟩), .int .i64 c7, .int .i64 t, .int .i64 z, .pointer (some ⟨B6, 1, none⟩), u82, u83, u84, u85, u86, u87, u88, u89, u90, u91, u92, u93, u94, u95, u96, u97, u98, u99, u100, u101, u102, u103, u104, u105, u106, u107, u108, u109, u110, u111, u112, u113, u114, u115, u116, u117, u118, u119, u120, u121, u122, u123, u124, u125, u126, u127, u128, u129, u130, u131, u132, u133, u134, u135, u136, u137, u138, u139, u140, u141, u142, u143, u144, u145, u146, u147, u148, u149, u150, u151, u152, u153, u154, u155, u156, u157, u158, u159, u160, u161, u162, u163, u164, u165, u166, u167, u168, u169, u170, u171, u172, u173, u174, u175, u176, u177, u178, u179, u180, u181, u182, u183, u184, u185, u186, u187, u188, u189, u190, u191, u192, u193, u194, u195, u196, u197, u198, u199, u200, u201, u202, u203, u204, u205, u206, u207, u208, u209, u210, u211, u212, u213, u214, u215, u216, u217, u218, u219, u220, u221, u222, u223, u224, u225, u226, u227, u228, u229, u230, u231, u232, u233, u234, u235, u236, u237, u238, u239, u240, u241, u242, u243, u244, u245, u246, u247, u248, u249, u250, u251, u252, u253, u254, u255, u256, u257, u258, u259, u260, u261, u262, u263, u264, u265, u266, u267, u268, u269, u270, u271, u272, u273, u274, u275, u276, u277, u278, u279, u280, u281, u282, u283, u284, u285, u286, u287, u288, u289, u290, u291, u292, u293, u294, u295], []⟩ wy) : Code.wp Tryz.prog (bisReg 8) Q ⟨#[u0, u1, .pointer (some ⟨B2, 0, none⟩), .pointer (some ⟨B3, 0, none⟩), u4, .pointer (some ⟨B5, 0, none⟩), .pointer (some ⟨B6, 0, none⟩), .int .i64 3, u8, u9, u10, u11, u12, u13, u14, u15, u16, u17, u18, u19, u20, u21, u22, u23, u24, u25, u26, u27, u28, u29, u30, u31, u32, u33, u34, u35, u36, u37, u38, u39, u40, u41, u42, u43, u44, u45, u46, u47, u48, u49, u50, u51, u52, u53, u54, u55, u56, u57, u58, u59, u60, u61, u62, u63, u64, u65, u66, u67, u68, u69, u70, u71, u72, u73, u74, u75, u76, u77, u78, u79, u80, u81, u82, u83, u84, u85, u86, u87, u88, u89, u90, u91, u92, u93, u94, u95, u96, u97, u98, u99, u100, u101, u102, u103, u104, u105, u106, u107, u108, u109, u110, u111, u112, u113, u114, u115, u116, u117, u118, u119, u120, u121, u122, u123, u124, u125, u126, u127, u128, u129, u130, u131, u132, u133, u134, u135, u136, u137, u138, u139, u140, u141, u142, u143, u144, u145, u146, u147, u148, u149, u150, u151, u152, u153, u154, u155, u156, u157, u158, u159, u160, u161, u162, u163, u164, u165, u166, u167, u168, u169, u170, u171, u172, u173, u174, u175, u176, u177, u178, u179, u180, u181, u182, u183, u184, u185, u186, u187, u188, u189, u190, u191, u192, u193, u194, u195, u196, u197, u198, u199, u200, u201, u202, u203, u204, u205, u206, u207, u208, u209, u210, u211, u212, u213, u214, u215, u216, u217, u218, u219, u220, u221, u222, u223, u224, u225, u226, u227, u228, u229, u230, u231, u232, u233, u234, u235, u236, u237, u238, u239, u240, u241, u242, u243, u244, u245, u246, u247, u248, u249, u250, u251, u252, u253, u254, u255, u256, u257, u258, u259, u260, u261, u262, u263, u264, u265, u266, u267, u268, u269, u270, u271, u272, u273, u274, u275, u276, u277, u278, u279, u280, u281, u282, u283, u284, u285, u286, u287, u288, u289, u290, u291, u292, u293, u294, u295], []⟩ wx := by
  conv => arg 2; whnf
  dsimp only
  have K0 := Lib.hid hk
  clear hk
  apply wp_region_gives (aF := ⟨#[u0, u1, .pointer (some ⟨B2, 0, none⟩), .pointer (some ⟨B3, 0, none⟩), u4, .pointer (some ⟨B5, 0, none⟩), .pointer (some ⟨B6, 0, none⟩), .int .i64 3, u8, u9, u10, u11, u12, u13, u14, u15, u16, u17, u18, u19, u20, u21, u22, u23, u24, u25, u26, u27, u28, u29, u30, u31, u32, u33, u34, u35, u36, u37, u38, u39, u40, u41, u42, u43, u44, u45, u46, u47, u48, u49, u50, u51, u52, u53, u54, u55, u56, u57, u58, u59, u60, u61, u62, u63, u64, u65, u66, u67, u68, .pointer (some ⟨B6, 1, none⟩), .int .i64 q, .int .i64 3, .pointer (some ⟨B5, 4, none⟩), .pointer (some ⟨B5, 7, none⟩), .int .i64 c7, .int .i64 3, .pointer (some ⟨B5, 4, none⟩), .pointer (some ⟨B5, 7, none⟩), .int .i64 c7, .int .i64 t, .int .i64 z, .pointer (some ⟨B6, 1, none⟩), u82, u83, u84, u85, u86, u87, u88, u89, u90, u91, u92, u93, u94, u95, u96, u97, u98, u99, u100, u101, u102, u103, u104, u105, u106, u107, u108, u109, u110, u111, u112, u113, u114, u115, u116, u117, u118, u119, u120, u121, u122, u123, u124, u125, u126, u127, u128, u129, u130, u131, u132, u133, u134, u135, u136, u137, u138, u139, u140, u141, u142, u143, u144, u145, u146, u147, u148, u149, u150, u151, u152, u153, u154, u155, u156, u157, u158, u159, u160, u161, u162, u163, u164, u165, u166, u167, u168, u169, u170, u171, u172, u173, u174, u175, u176, u177, u178, u179, u180, u181, u182, u183, u184, u185, u186, u187, u188, u189, u190, u191, u192, u193, u194, u195, u196, u197, u198, u199, u200, u201, u202, u203, u204, u205, u206, u207, u208, u209, u210, u211, u212, u213, u214, u215, u216, u217, u218, u219, u220, u221, u222, u223, u224, u225, u226, u227, u228, u229, u230, u231, u232, u233, u234, u235, u236, u237, u238, u239, u240, u241, u242, u243, u244, u245, u246, u247, u248, u249, u250, u251, u252, u253, u254, u255, u256, u257, u258, u259, u260, u261, u262, u263, u264, u265, u266, u267, u268, u269, u270, u271, u272, u273, u274, u275, u276, u277, u278, u279, u280, u281, u282, u283, u284, u285, u286, u287, u288, u289, u290, u291, u292, u293, u294, u295], []⟩) 13 (fun w' => Blw wx.heap.size wx w') [.pointer (some ⟨B6, 1, none⟩), .int .i64 q, .int .i64 3, .pointer (some ⟨B5, 4, none⟩), .pointer (some ⟨B5, 7, none⟩), .int .i64 c7, .int .i64 3, .pointer (some ⟨B5, 4, none⟩), .pointer (some ⟨B5, 7, none⟩), .int .i64 c7, .int .i64 t, .int .i64 z, .pointer (some ⟨B6, 1, none⟩)] (by kernel_rfl) (by kernel_rfl) (by kernel_rfl) (show Below _ _ _ from (Below.refl _ _).drew)
  case haF => kernel_rfl
  case h =>
    have hBx := K0.out.2 _ (.head _)
    have hBy := K0.out.2 _ (.tail _ (.head _))
    simp only [List.take_succ_cons, List.take_zero, GivesL]
    clear K0 hQ
    refine ⟨?_, ?_, ?_, ?_, ?_, ?_, ?_, ?_, ?_, ?_, ?_, ?_, ?_, trivial⟩
    all_goals
      intro w1 hw1
      obtain ⟨x_0, x_1, x_2, x_3, x_4, x_5, x_6, x_7⟩ := cells8 (((show Below _ _ _ from hw1).block _ (lt_of_blk hBx)).trans hBx)
      obtain ⟨y_0, y_1⟩ := cells2 (((show Below _ _ _ from hw1).block _ (lt_of_blk hBy)).trans hBy)
      unfold Oper.wp
      simp only [execOp]
      go_simp <;> first
        | exact ⟨rfl, hw1⟩
  case ht =>
    intro w5 hw5
    have K5 := Lib.hid (Kp.swap (K0.out.call (show Below _ _ _ from hw5)))
    clear hw5 K0
    simp only [List.drop_succ_cons, List.drop_zero]
    obtain ⟨z0, z1⟩ := cells2 (K5.out.2 _ (.head _))
    have zz : ∀ j, w5.frozen? ⟨B6, j, none⟩ = false := fun j => frozen_of_row w5 B6 j _ _ (K5.out.2 _ (.head _))
    have HQ := Lib.hid hQ
    clear hQ
    go_wp2_with fail
    refine HQ.out _ (Kp.swap (kp_cell (Y := #[.int .i64 p, .int .i64 z]) K5.out hA.h6 ?_ 1 _ rfl))
    intro p hp
    have e1 := hA.n56
    have e2 := hA.n6
    simp only [List.mem_cons, List.not_mem_nil, or_false] at hp
    rcases hp with rfl | rfl | rfl <;> simp <;> omega

end Go.Proofs.YtggffhmdgceljaaGreatDoor

/-
  Mathematics of rays that are reflected twice at one ray.
-/
namespace Go.Proofs.YtggffhmdgceljaaGreatDoor
open Go.RowKit
set_option linter.unusedVariables false
set_option linter.unusedSimpArgs false

theorem dot_linr (g x y z a b c : Int) : dot3 x y z (g * a) (g * b) (g * c) = g * dot3 x y z a b c := by
  unfold dot3
  grind
theorem dot_lin2 (g x y z : Int) : dot3 (g * x) (g * y) (g * z) (g * x) (g * y) (g * z) = g * g * dot3 x y z x y z := by
  unfold dot3
  grind
theorem pos_cancel {a b : Int} (ha : 0 < a) (h : 0 < a * b) : 0 < b := by
  rcases Int.lt_or_le 0 b with k | k
  · exact k
  · have := Int.mul_nonpos_of_nonneg_of_nonpos (Int.le_of_lt ha) k
    omega
section
variable {x y z a b c p1 p2 p3 r1 r2 r3 a1 a2 a3 : Int}

end
end Go.Proofs.YtggffhmdgceljaaGreatDoor

/-
  Mathematics of the vector that bisects two whole ones.
-/
namespace Go.Proofs.YtggffhmdgceljaaGreatDoor
open Go.RowKit
set_option linter.unusedVariables false
set_option linter.unusedSimpArgs false

/-- The length of the whole vector of four integers. -/
theorem whole_len (m n p q : Int) : (m * m + n * n + p * p + q * q) * (m * m + n * n + p * p + q * q) =
    dot3 (m * m + n * n - p * p - q * q) (2 * (m * q + n * p)) (2 * (n * q - m * p)) (m * m + n * n - p * p - q * q) (2 * (m * q + n * p)) (2 * (n * q - m * p)) := by
  unfold dot3
  grind

section
variable {x y z a b c L M : Int}
theorem bis_dot1 (hL : L * L = dot3 x y z x y z) : dot3 x y z (x * M + a * L) (y * M + b * L) (z * M + c * L) = L * (L * M + dot3 x y z a b c) := by
  have : dot3 x y z (x * M + a * L) (y * M + b * L) (z * M + c * L) = M * dot3 x y z x y z + L * dot3 x y z a b c := by unfold dot3; grind
  rw [this, ← hL]
  grind
theorem bis_sq (hL : L * L = dot3 x y z x y z) (hM : M * M = dot3 a b c a b c) : dot3 (x * M + a * L) (y * M + b * L) (z * M + c * L) (x * M + a * L) (y * M + b * L) (z * M + c * L) = 2 * (L * M) * (L * M + dot3 x y z a b c) := by
  have : dot3 (x * M + a * L) (y * M + b * L) (z * M + c * L) (x * M + a * L) (y * M + b * L) (z * M + c * L) = M * M * dot3 x y z x y z + 2 * (L * M) * dot3 x y z a b c + L * L * dot3 a b c a b c := by unfold dot3; grind
  rw [this, ← hL, ← hM]
  grind
theorem bis_pos (hL0 : 0 < L) (hM0 : 0 < M) (hL : L * L = dot3 x y z x y z) (hM : M * M = dot3 a b c a b c) (hz : ¬ (x * M + a * L = 0 ∧ y * M + b * L = 0 ∧ z * M + c * L = 0)) : 0 < L * M + dot3 x y z a b c := by
  have h1 := dot_pos hz
  rw [bis_sq hL hM] at h1
  have h2 : 0 < 2 * (L * M) := by have := Int.mul_pos hL0 hM0; omega
  exact pos_cancel h2 h1
theorem rfl_nlin (g x a D N : Int) : g * g * rflP x a D N = rflP x (g * a) (g * D) (g * g * N) := by
  unfold rflP
  grind
/-- The normal reflects the first vector to the second one. -/
theorem bis_there (hL0 : 0 < L) (hM0 : 0 < M) (hL : L * L = dot3 x y z x y z) (hM : M * M = dot3 a b c a b c) {n1 n2 n3 b1 b2 b3 s1 s2 s3 : Int} (hz : ¬ (x * M + a * L = 0 ∧ y * M + b * L = 0 ∧ z * M + c * L = 0)) (hn : Red (x * M + a * L) (y * M + b * L) (z * M + c * L) n1 n2 n3) (hb : Red a b c b1 b2 b3)
    (hs : Red (rflP x n1 (dot3 x y z n1 n2 n3) (dot3 n1 n2 n3 n1 n2 n3)) (rflP y n2 (dot3 x y z n1 n2 n3) (dot3 n1 n2 n3 n1 n2 n3)) (rflP z n3 (dot3 x y z n1 n2 n3) (dot3 n1 n2 n3 n1 n2 n3)) s1 s2 s3) : s1 = b1 ∧ s2 = b2 ∧ s3 = b3 := by
  obtain ⟨g, hg, e1, e2, e3⟩ := hn.ex
  have hp := bis_pos hL0 hM0 hL hM hz
  have D1 := bis_dot1 (x := x) (y := y) (z := z) (a := a) (b := b) (c := c) (L := L) (M := M) hL
  have D2 := bis_sq (x := x) (y := y) (z := z) (a := a) (b := b) (c := c) (L := L) (M := M) hL hM
  have r : ∀ u v P : Int, rflP u (u * M + v * L) (L * P) (2 * (L * M) * P) = 2 * (L * L) * P * v := fun u v P => by unfold rflP; grind
  rw [e1, e2, e3, dot_linr] at D1
  rw [e1, e2, e3, dot_lin2] at D2
  have hk : 0 < 2 * (L * L) * (L * M + dot3 x y z a b c) := Int.mul_pos (by have := Int.mul_pos hL0 hL0; omega) hp
  exact hs.unique hb (Int.mul_pos hg hg) hk (by rw [rfl_nlin, D1, D2, ← e1]; exact r x a _) (by rw [rfl_nlin, D1, D2, ← e2]; exact r y b _) (by rw [rfl_nlin, D1, D2, ← e3]; exact r z c _)
end
theorem sq_cop {g L s : Nat} (hg : 0 < g) (h : g * g * s = L * L) : ∃ l, L = g * l ∧ l * l = s := by
  have hd : 0 < Nat.gcd g L := Nat.gcd_pos_of_pos_left _ hg
  obtain ⟨g', L', hc, e1, e2⟩ := Nat.exists_coprime g L
  generalize Nat.gcd g L = d at *
  subst e1 e2
  have h2 : g' * g' * s = L' * L' := by
    have h3 : (d * d) * (g' * g' * s) = (d * d) * (L' * L') := by
      calc (d * d) * (g' * g' * s) = g' * d * (g' * d) * s := by grind
        _ = L' * d * (L' * d) := h
        _ = (d * d) * (L' * L') := by grind
    exact Nat.eq_of_mul_eq_mul_left (Nat.mul_pos hd hd) h3
  have h4 : g' ∣ L' := hc.dvd_of_dvd_mul_left ⟨g' * s, by rw [← h2]; grind⟩
  have h5 : g' = 1 := by
    have : g' ∣ Nat.gcd g' L' := Nat.dvd_gcd (Nat.dvd_refl _) h4
    rw [hc] at this
    exact Nat.dvd_one.1 this
  subst h5
  exact ⟨L', by grind, by omega⟩
/-- The length of a reduced vector of a whole one is whole. -/
theorem red_len {x y z r1 r2 r3 : Int} (hr : Red x y z r1 r2 r3) {L : Nat} (hL : (L : Int) * L = dot3 x y z x y z) :
    ∃ (g : Int) (l : Nat), 0 < g ∧ x = g * r1 ∧ y = g * r2 ∧ z = g * r3 ∧ (L : Int) = g * l ∧ (l : Int) * l = dot3 r1 r2 r3 r1 r2 r3 := by
  obtain ⟨g, hg, e1, e2, e3⟩ := hr.ex
  have h1 : g * g * dot3 r1 r2 r3 r1 r2 r3 = (L : Int) * L := by rw [hL, e1, e2, e3, dot_lin2]
  have h2 : 0 ≤ dot3 r1 r2 r3 r1 r2 r3 := Int.le_of_lt (dot_pos hr.nonzero)
  obtain ⟨s, hs⟩ := Int.eq_ofNat_of_zero_le h2
  obtain ⟨k, hk⟩ := Int.eq_ofNat_of_zero_le (Int.le_of_lt hg)
  rw [hs, hk] at h1
  obtain ⟨l, hl1, hl2⟩ := sq_cop (g := k) (L := L) (s := s) (by omega) (by exact_mod_cast h1)
  exact ⟨g, l, hg, e1, e2, e3, by rw [hl1, hk]; exact_mod_cast rfl, by rw [hs]; exact_mod_cast hl2⟩
/-- The normal does not depend on the lengths. -/
theorem bis_short {x y z a b c p1 p2 p3 q1 q2 q3 n1 n2 n3 s1 s2 s3 L M g h k l : Int} (hg : 0 < g) (hh : 0 < h) (e1 : x = g * p1) (e2 : y = g * p2) (e3 : z = g * p3) (eL : L = g * l) (f1 : a = h * q1) (f2 : b = h * q2) (f3 : c = h * q3) (eM : M = h * k)
    (hn : Red (x * M + a * L) (y * M + b * L) (z * M + c * L) n1 n2 n3) (hs : Red (p1 * k + q1 * l) (p2 * k + q2 * l) (p3 * k + q3 * l) s1 s2 s3) : s1 = n1 ∧ s2 = n2 ∧ s3 = n3 :=
  hs.unique hn (Int.mul_pos hg hh) (by decide : (0 : Int) < 1) (by rw [e1, f1, eL, eM]; grind) (by rw [e2, f2, eL, eM]; grind) (by rw [e3, f3, eL, eM]; grind)
/-- Both vectors have one cosine with the normal, above 0. -/
theorem bis_cos {x y z a b c L M n1 n2 n3 : Int} (hL0 : 0 < L) (hM0 : 0 < M) (hL : L * L = dot3 x y z x y z) (hM : M * M = dot3 a b c a b c) (hz : ¬ (x * M + a * L = 0 ∧ y * M + b * L = 0 ∧ z * M + c * L = 0)) (hn : Red (x * M + a * L) (y * M + b * L) (z * M + c * L) n1 n2 n3) :
    0 < dot3 x y z n1 n2 n3 ∧ 0 < dot3 a b c n1 n2 n3 ∧ dot3 x y z n1 n2 n3 * dot3 x y z n1 n2 n3 * (dot3 a b c a b c * dot3 n1 n2 n3 n1 n2 n3) = dot3 a b c n1 n2 n3 * dot3 a b c n1 n2 n3 * (dot3 x y z x y z * dot3 n1 n2 n3 n1 n2 n3) := by
  obtain ⟨g, hg, e1, e2, e3⟩ := hn.ex
  have hp := bis_pos hL0 hM0 hL hM hz
  have d1 := bis_dot1 (x := x) (y := y) (z := z) (a := a) (b := b) (c := c) (L := L) (M := M) hL
  have d2 : dot3 a b c (x * M + a * L) (y * M + b * L) (z * M + c * L) = M * (L * M + dot3 x y z a b c) := by
    have : dot3 a b c (x * M + a * L) (y * M + b * L) (z * M + c * L) = M * dot3 x y z a b c + L * dot3 a b c a b c := by unfold dot3; grind
    rw [this, ← hM]
    grind
  rw [e1, e2, e3, dot_linr] at d1 d2
  rw [← hL, ← hM]
  generalize dot3 x y z n1 n2 n3 = u at *
  generalize dot3 a b c n1 n2 n3 = v at *
  generalize L * M + dot3 x y z a b c = P at *
  generalize dot3 n1 n2 n3 n1 n2 n3 = N at *
  have hu : 0 < g * u := by rw [d1]; exact Int.mul_pos hL0 hp
  have hv : 0 < g * v := by rw [d2]; exact Int.mul_pos hM0 hp
  have hu' : 0 < u := by
    rcases Int.lt_or_le 0 u with h | h
    · exact h
    · have := Int.mul_nonpos_of_nonneg_of_nonpos (Int.le_of_lt hg) h; omega
  have hv' : 0 < v := by
    rcases Int.lt_or_le 0 v with h | h
    · exact h
    · have := Int.mul_nonpos_of_nonneg_of_nonpos (Int.le_of_lt hg) h; omega
  refine ⟨hu', hv', ?_⟩
  have hgg : g * g ≠ 0 := by have := Int.mul_pos hg hg; omega
  apply Int.eq_of_mul_eq_mul_left hgg
  calc g * g * (u * u * (M * M * N)) = (g * u) * (g * u) * (M * M * N) := by grind
    _ = (L * P) * (L * P) * (M * M * N) := by rw [d1]
    _ = (M * P) * (M * P) * (L * L * N) := by grind
    _ = (g * v) * (g * v) * (L * L * N) := by rw [d2]
    _ = g * g * (v * v * (L * L * N)) := by grind
theorem opp_self {x y z : Int} (h : ¬ (x = 0 ∧ y = 0 ∧ z = 0)) : oppB x y z x y z = false := by
  refine decide_eq_false fun ⟨h1, h2, h3⟩ => (red_of h).nonzero ⟨by omega, by omega, by omega⟩
end Go.Proofs.YtggffhmdgceljaaGreatDoor

/-
  Contract of what tells tiny rays.
-/
namespace Go.Proofs.YtggffhmdgceljaaGreatDoor
open Go.RowKit
set_option linter.unusedVariables false
set_option linter.unusedSimpArgs false

def tinyP (x y z : Int) : Prop := rayErr x y z = 0 ∧ (-40 ≤ x ∧ x ≤ 40) ∧ (-40 ≤ y ∧ y ≤ 40) ∧ (-40 ≤ z ∧ z ≤ 40)
def max6 (a b c d e f : Int) : Int := max (max (max (max (max a b) c) d) e) f
theorem run_max2 (a b : Int) : Builtin.max2 (.int .i64 a) (.int .i64 b) = pure (.int .i64 (max a b)) := by
  have m : (if b > a then b else a) = max a b := by
    rw [Int.max_def]
    split <;> split <;> omega
  simp only [Builtin.max2, m]
@[go_sem high] theorem run_max6 {P : Program} (a b c d e f : Int) (w : World) (ts : Array TypeId) (t : TypeId) : (Builtin.max_ ts t #[.int .i64 a, .int .i64 b, .int .i64 c, .int .i64 d, .int .i64 e, .int .i64 f]).run P w = .ok (.int .i64 (max6 a b c d e f)) w := by
  simp [Builtin.max_, List.foldlM, run_max2, max6]

set_option maxRecDepth 100000 in
set_option maxHeartbeats 6400000 in
theorem tiny_yes (x y z : Int) (h : tinyP x y z) (w : World) :
    Calls Tryz.prog 19 #[.agg #[.int .i64 x, .int .i64 y, .int .i64 z]] w fun e w' => e = .returned (.bool true) ∧ Below w.heap.size w w' := by
  obtain ⟨h0, hx, hy, hz⟩ := h
  have KR : Hid (∀ w1 : World, Calls Tryz.prog 11 #[.agg #[.int .i64 x, .int .i64 y, .int .i64 z]] w1 fun e w' => e = .returned (.int .i64 0) ∧ Below w1.heap.size w1 w') := Lib.hid fun w1 => by
    have h := refCheckRay_all x y z w1
    rwa [h0] at h
  obtain ⟨W0, hW0⟩ : ∃ W0, w.alloc (.cells #[.int .i64 x, .int .i64 y, .int .i64 z] 23) = W0 := ⟨_, rfl⟩
  have K0 : Hid (Kp w W0 [(w.heap.size, .cells #[.int .i64 x, .int .i64 y, .int .i64 z] 23 (0, 0))]) := Lib.hid (by
    rw [← hW0]
    have k := (Kp.none w).alloc (.cells #[.int .i64 x, .int .i64 y, .int .i64 z] 23)
    simpa using k)
  have y6 := @run_max6
  clear y6
  have n1 : IntKind.i64.wrap (-x) = -x := IntWalk.i64_in _ ⟨by omega, by omega⟩
  have n2 : IntKind.i64.wrap (-y) = -y := IntWalk.i64_in _ ⟨by omega, by omega⟩
  have n3 : IntKind.i64.wrap (-z) = -z := IntWalk.i64_in _ ⟨by omega, by omega⟩
  obtain ⟨m, hmm⟩ : ∃ m, max6 x (-x) y (-y) z (-z) = m := ⟨_, rfl⟩
  have hle : m ≤ 40 := by unfold max6 at hmm; omega
  clear hx hy hz h0
  go_enter Tryz.func19, Tryz.ntmps19
  go_upto_region 1 with fail
  try rw [hW0]
  clear hW0
  obtain ⟨b0, b1, b2⟩ := cells3 (K0.out.2 _ (.head _))
  go_wp2_with (first
    | (go_at_call 11; (with_reducible refine (KR.out _).mono ?_); rintro e w1 ⟨rfl, hb⟩; have K1 := Lib.hid (K0.out.call hb); clear hb; obtain ⟨c0, c1, c2⟩ := cells3 (K1.out.2 _ (.head _))))
  go_ret
  first
    | exact ⟨rfl, Kp.below K1.out⟩
    | exact ⟨by show Ending.returned (Value.bool (decide (m ≤ 40))) = _; rw [decide_eq_false (by omega)], Kp.below K1.out⟩

end Go.Proofs.YtggffhmdgceljaaGreatDoor

/-
  What SunTwice's walks ask for.
-/
namespace Go.Proofs.YtggffhmdgceljaaGreatDoor
open Go.RowKit
set_option linter.unusedVariables false
set_option linter.unusedSimpArgs false

theorem rng_in {n L : Int} (h : -L ≤ n ∧ n ≤ L) : rangeErr n (-L) L = 0 := by
  unfold rangeErr
  rw [if_neg (by omega)]
theorem vec_in {L x y z : Int} (hx : -L ≤ x ∧ x ≤ L) (hy : -L ≤ y ∧ y ≤ L) (hz : -L ≤ z ∧ z ≤ L) : vectorErrL L x y z = 0 := by
  unfold vectorErrL
  rw [rng_in hx, rng_in hy, rng_in hz]
  rfl
theorem dir_in {x y z : Int} (h0 : ¬ (x = 0 ∧ y = 0 ∧ z = 0)) (hx : -4096 ≤ x ∧ x ≤ 4096) (hy : -4096 ≤ y ∧ y ≤ 4096) (hz : -4096 ≤ z ∧ z ≤ 4096) : directionErr x y z = 0 := by
  unfold directionErr
  rw [if_neg h0, vectorErr_L, vec_in (by omega) (by omega) (by omega)]
  rfl
theorem ray_in {x y z : Int} (h0 : ¬ (x = 0 ∧ y = 0 ∧ z = 0)) (hx : -4096 ≤ x ∧ x ≤ 4096) (hy : -4096 ≤ y ∧ y ≤ 4096) (hz : -4096 ≤ z ∧ z ≤ 4096) : rayErr x y z = 0 := by
  unfold rayErr
  rw [dir_in h0 hx hy hz, vec_in hx hy hz]
  rfl
/-- The reduced vector of a ray is a ray with parts that are no longer. -/
theorem red_small {x y z r1 r2 r3 M : Int} (h : Red x y z r1 r2 r3) (hx : -M ≤ x ∧ x ≤ M) (hy : -M ≤ y ∧ y ≤ M) (hz : -M ≤ z ∧ z ≤ M) : (-M ≤ r1 ∧ r1 ≤ M) ∧ (-M ≤ r2 ∧ r2 ≤ M) ∧ (-M ≤ r3 ∧ r3 ≤ M) := by
  obtain ⟨h1, h2, h3⟩ := h.small
  omega
/-- What has no common divisor is its own reduced vector. -/
theorem red_one {x y z r1 r2 r3 : Int} (h : Red x y z r1 r2 r3) : r1.tdiv (g3 r1 r2 r3) = r1 ∧ r2.tdiv (g3 r1 r2 r3) = r2 ∧ r3.tdiv (g3 r1 r2 r3) = r3 := by
  rw [h.one]
  exact ⟨Int.tdiv_one _, Int.tdiv_one _, Int.tdiv_one _⟩
theorem fit_small {x a : Int} (hx : -4096 ≤ x ∧ x ≤ 4096) (ha : -4096 ≤ a ∧ a ≤ 4096) : Fit (x * a) := by
  have h : (x * a).natAbs ≤ 4096 * 4096 := by
    rw [Int.natAbs_mul]
    exact Nat.mul_le_mul (by omega) (by omega)
  unfold Fit
  omega
end Go.Proofs.YtggffhmdgceljaaGreatDoor
