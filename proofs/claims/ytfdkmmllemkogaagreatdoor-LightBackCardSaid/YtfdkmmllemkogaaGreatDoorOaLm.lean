/-
  What serves every walk: the code from a region on, blocks that are kept, cells of a block.
-/
import Derived.Deep.CutBlock
import Derived.Deep.DeepCutAuto
import Derived.Test.YtfdkmmllemkogaaGreatDoorOaBp
import Derived.Test.YtfdkmmllemkogaaGreatDoorOZr
import Derived.Test.YtfdkmmllemkogaaGreatDoorOaSl
import Derived.Test.YtfdkmmllemkogaaGreatDoorOaJd
import Derived.Test.YtfdkmmllemkogaaGreatDoorOaJi
import Derived.Test.YtfdkmmllemkogaaGreatDoorOWf
import Derived.Test.YtfdkmmllemkogaaGreatDoorOBd
namespace Go.Proofs.YtfdkmmllemkogaaGreatDoor
open Go.RowKit Go.Shelf
set_option linter.unusedVariables false
set_option linter.unusedSimpArgs false

def headsC (n : Nat) : Code → Bool
  | .region m _ _ => m == n
  | .seq a _ => headsC n a
  | _ => false
def tailC (n : Nat) : Code → Option Code
  | .seq a b => if headsC n a then some (.seq a b) else match tailC n b with
    | some c => some c
    | none => tailC n a
  | .block _ c => tailC n c
  | .scope c => tailC n c
  | .loop c => tailC n c
  | .cond _ a b => match tailC n a with
    | some c => some c
    | none => tailC n b
  | c => if headsC n c then some c else none
theorem Kp.subs {w w1 : World} {l m : List (Nat × Obj)} (h : Kp w w1 l) (hs : ∀ p ∈ m, p ∈ l) : Kp w w1 m := ⟨h.1, fun p hp => h.2 p (hs p hp)⟩
theorem cells3 {w : World} {B : Nat} {T : TypeId} {x y z : Value} (h : w.heap[B]? = some (.cells #[x, y, z] T (0, 0))) :
    w.cell? ⟨B, 0, none⟩ = some x ∧ w.cell? ⟨B, 1, none⟩ = some y ∧ w.cell? ⟨B, 2, none⟩ = some z :=
  ⟨by rw [cell_of_row w _ 0 _ _ (0, 0) h]; rfl, by rw [cell_of_row w _ 1 _ _ (0, 0) h]; rfl, by rw [cell_of_row w _ 2 _ _ (0, 0) h]; rfl⟩
theorem Kp.cons {w w1 : World} {l : List (Nat × Obj)} (h : Kp w w1 l) {B : Nat} {O : Obj} (hB : w1.heap[B]? = some O) : Kp w w1 ((B, O) :: l) := ⟨h.1, fun p hp => by
  rcases List.mem_cons.1 hp with rfl | hp
  · exact hB
  · exact h.2 p hp⟩
end Go.Proofs.YtfdkmmllemkogaaGreatDoor

/-
  Contract of small for every map: whether it is right, has at most 160 samples, and none above a bound.
-/

namespace Go.Proofs.YtfdkmmllemkogaaGreatDoor
open Go.RowKit
set_option linter.unusedVariables false
set_option linter.unusedSimpArgs false

theorem order_lt {x y : Nat} {k l : Int} (hx : Smp x k) (hy : Smp y l) : (FloatKind.f32.format.order x y == some .lt) = decide (k < l) := by
  have e : Ieee.single.order x y = some (compare k l) := hx.order hy
  show (Ieee.single.order x y == some .lt) = decide (k < l)
  rw [e]
  have h : (compare k l = .lt) ↔ k < l := by
    show compareOfLessAndEq k l = .lt ↔ _
    unfold compareOfLessAndEq
    split
    · simp_all
    · split <;> simp_all
  by_cases hk : k < l
  · rw [decide_eq_true hk, h.2 hk]; rfl
  · rw [decide_eq_false hk]
    cases h2 : compare k l
    · exact absurd (h.1 h2) hk
    · rfl
    · rfl

theorem ret_boolK {a b : Bool} (h : a = b) : Ending.returned (.bool a) = .returned (.bool b) := by rw [h]
def smallB (W H : Int) (n : Nat) (xs : List Nat) (M : Nat) : Bool := decide (mapErr W H n xs = 0 ∧ n ≤ 160 ∧ ∀ j, j < n → (kOf (xs[j]?.getD 0)).natAbs ≤ M)

set_option maxRecDepth 100000 in
set_option maxHeartbeats 3200000 in
theorem small_all (mw mn M : Nat) (hp : Smp mw M) (hm : Smp mn (-(M : Int))) (hneg : ∀ w : World, (Op.unary .neg (.float .f32 mw)).run Tryz.prog w = .ok (.float .f32 mn) w)
    (W H : Int) (a : Option Addr) (n c : Nat) (xs : List Nat) (w : World) (hM : AnyMap w a n c xs) :
    Calls Tryz.prog 96 #[.agg #[.int .i64 W, .int .i64 H, .slice a n c], .float .f32 mw] w fun e w' => e = .returned (.bool (smallB W H n xs M)) ∧ Below w.heap.size w w' := by
  obtain ⟨W0, hW0⟩ : ∃ W0, w.alloc (.cells #[.int .i64 W, .int .i64 H, .slice a n c] 48) = W0 := ⟨_, rfl⟩
  have hB0 : Below w.heap.size w W0 := by rw [← hW0]; exact (Below.refl _ w).alloc (Nat.le_refl _) _
  have r0 : W0.heap[w.heap.size]? = some (.cells #[.int .i64 W, .int .i64 H, .slice a n c] 48 (0, 0)) := by rw [← hW0]; exact blk_alloc_new _ _
  obtain ⟨z0, z1, z2⟩ := row_cells r0
  obtain ⟨er, her⟩ : ∃ er, mapErr W H n xs = er := ⟨_, rfl⟩
  have K0 := refCheckMap_map W H a n c xs W0 (hM.below hB0 (Nat.le_refl _))
  rw [her] at K0
  have K := Lib.hid K0
  have HB0 := Lib.hid hB0
  have HR0 := Lib.hid r0
  have HM := Lib.hid hM
  have HER := Lib.hid her
  have HP := Lib.hid hp
  have HN := Lib.hid hm
  clear hB0 r0 hM K0 her hp hm
  by_cases h0 : er = 0
  · have e0 : (er != 0) = false := by simp [h0]
    by_cases h1 : n ≤ 160
    · have i1 : ¬ ((160 : Int) < (n : Int)) := by omega
      have H0 := Lib.hid h0
      clear h0
      go_enter Tryz.func96, Tryz.ntmps96
      go_upto_region 1 with fail
      try rw [hW0]
      clear hW0
      go_upto_if 15 with (go_at_call 41; with_reducible refine K.out.mono ?_; rintro e w1 ⟨rfl, hb1⟩; have r1 := (hb1.block _ (lt_of_blk HR0.out)).trans HR0.out; have hb1' := HB0.out.trans (hb1.mono HB0.out.size); obtain ⟨y0, y1, y2⟩ := row_cells r1)
      have HB1 := Lib.hid hb1'
      have HR1 := Lib.hid r1
      clear hb1 hb1' r1 z0 z1 z2
      go_wp2_with fail
      go_loop [19] (fun i => ∃ k : Nat, k ≤ n ∧ i = .int .i64 k ∧ Hid (∀ j, j < k → (kOf (xs[j]?.getD 0)).natAbs ≤ M)) (fun i => n - (intOf i).toNat)
      case atStart => exact ⟨0, Nat.zero_le _, rfl, Lib.hid fun j hj => absurd hj (by omega)⟩
      case round =>
        obtain ⟨k, hk, rfl, hh⟩ := hrel
        by_cases hlt : k < n
        · obtain ⟨b, o, rfl, hb, hcc⟩ := HM.out.cells k hlt
          have hcell : w1.cell? ⟨b, o + k, none⟩ = some (.float .f32 (xs[k]?.getD 0)) := (HB1.out.cell (by exact hb)).trans (hcc k hlt)
          have hs := (smp_kOf (mapErr_smps HM.out.len (HER.out.trans H0.out) k hlt)).1
          have t1 := order_gt hs HP.out
          have t2 := order_lt hs HN.out
          obtain ⟨x, hx⟩ : ∃ x, xs[k]?.getD 0 = x := ⟨_, rfl⟩
          have HX := Lib.hid hx
          rw [hx] at hcell t1 t2
          have t1' : (FloatKind.f32.format.order x mw == some .gt) = decide ((M : Int) < kOf x) := t1
          clear t1 hs hcc hx
          by_cases hbad : (kOf x).natAbs ≤ M
          · have u1 : (FloatKind.f32.format.order x mw == some .gt) = false := by rw [t1']; simp; omega
            have u2 : (FloatKind.f32.format.order x mn == some .lt) = false := by rw [t2]; simp; omega
            have HBAD := Lib.hid hbad
            clear t1' t2 hbad
            go_wp2_with fail
            go_round
            case rel => exact ⟨k + 1, by omega, by go_num, Lib.hid fun j hj => by
              by_cases hjk : j < k
              · exact hh.out j hjk
              · obtain rfl : j = k := by omega
                rw [HX.out]; exact HBAD.out⟩
            case measure => simp [intOf]; omega
          · have hfalse : smallB W H n xs M = false := decide_eq_false fun h => hbad (by rw [← HX.out]; exact h.2.2 k hlt)
            have HF := Lib.hid hfalse
            by_cases hg : (M : Int) < kOf x
            · have u1 : (FloatKind.f32.format.order x mw == some .gt) = true := by rw [t1']; simp; omega
              clear t1' t2 hbad hfalse hg
              go_wp2_with fail
              go_ret
              exact ⟨ret_boolK HF.out.symm, HB1.out⟩
            · have u1 : (FloatKind.f32.format.order x mw == some .gt) = false := by rw [t1']; simp; omega
              have u2 : (FloatKind.f32.format.order x mn == some .lt) = true := by rw [t2]; simp; omega
              clear t1' t2 hbad hfalse hg
              go_wp2_with fail
              go_ret
              exact ⟨ret_boolK HF.out.symm, HB1.out⟩
        · obtain rfl : k = n := by omega
          have htrue : smallB W H k xs M = true := decide_eq_true ⟨HER.out.trans H0.out, h1, hh.out⟩
          have HT := Lib.hid htrue
          clear htrue
          go_wp2_with fail
          go_ret
          exact ⟨ret_boolK HT.out.symm, HB1.out⟩
    · have i1 : (160 : Int) < (n : Int) := by omega
      have hfalse : smallB W H n xs M = false := decide_eq_false fun h => h1 h.2.1
      have HF := Lib.hid hfalse
      clear h0 hfalse h1
      go_enter Tryz.func96, Tryz.ntmps96
      go_upto_region 1 with fail
      try rw [hW0]
      clear hW0
      go_wp2_with (go_at_call 41; with_reducible refine K.out.mono ?_; rintro e w1 ⟨rfl, hb1⟩; have r1 := (hb1.block _ (lt_of_blk HR0.out)).trans HR0.out; have HB1 := Lib.hid (HB0.out.trans (hb1.mono HB0.out.size)); obtain ⟨y0, y1, y2⟩ := row_cells r1; clear hb1)
      go_ret
      exact ⟨ret_boolK HF.out.symm, HB1.out⟩
  · have e0 : (er != 0) = true := by simp [h0]
    have hfalse : smallB W H n xs M = false := decide_eq_false fun h => h0 (HER.out.symm.trans h.1)
    have HF := Lib.hid hfalse
    clear h0 hfalse
    go_enter Tryz.func96, Tryz.ntmps96
    go_upto_region 1 with fail
    try rw [hW0]
    clear hW0
    go_wp2_with (go_at_call 41; with_reducible refine K.out.mono ?_; rintro e w1 ⟨rfl, hb1⟩; have HB1 := Lib.hid (HB0.out.trans (hb1.mono HB0.out.size)); clear hb1)
    go_ret
    exact ⟨ret_boolK HF.out.symm, HB1.out⟩

end Go.Proofs.YtfdkmmllemkogaaGreatDoor

/-
  Contracts of both Packs for every map, and the strings of bytes.
-/

namespace Go.Proofs.YtfdkmmllemkogaaGreatDoor
open Go.RowKit
set_option linter.unusedVariables false
set_option linter.unusedSimpArgs false

/-- A slice of bytes that is nil, or lies in memory. -/
def BytesIn (w : World) (a : Option Addr) (n : Nat) (S : List Int) : Prop :=
  (a = none ∧ n = 0 ∧ S = []) ∨ ∃ b o, a = some ⟨b, o, none⟩ ∧ b < w.heap.size ∧ S.length = n ∧ w.rangeAt b o (S.map (Value.int .u8))
theorem BytesIn.kept {w w' : World} {a : Option Addr} {n : Nat} {S : List Int} (h : BytesIn w a n S) (hb : Below w.heap.size w w') : BytesIn w' a n S := by
  rcases h with h | ⟨b, o, h1, h2, h3, h4⟩
  · exact .inl h
  · exact .inr ⟨b, o, h1, Nat.lt_of_lt_of_le h2 hb.size, h3, range_below h4 hb h2⟩
theorem BytesIn.conv {w : World} {a : Option Addr} {n c : Nat} {S : List Int} (h : BytesIn w a n S) : (convert 109 9 (.slice a n c)).run Tryz.prog w = .ok (.string (strOfNums S)) w := by
  rcases h with ⟨rfl, rfl, rfl⟩ | ⟨b, o, rfl, h2, h3, h4⟩
  · exact run_convert_bytes_nil (P := Tryz.prog) w 109 5 Tryz.underlying109 Tryz.underlying5 0 c 9 Tryz.underlying9
  · exact run_convert_bytes_arg (P := Tryz.prog) w 109 5 Tryz.underlying109 Tryz.underlying5 b o n c S h3 (fun i hi => range_cells h4 i (by rw [h3]; exact hi)) 9 Tryz.underlying9
theorem BytesIn.of_row {w : World} {B n : Nat} {v : Value} {S : List Int} (hl : S.length = n) (hn : 1 ≤ n) (h : w.ownsRow B 5 1 v n (S.map (Value.int .u8))) :
    ∃ a c, v = .slice a n c ∧ BytesIn w a n S := by
  rcases h.2 with ⟨rfl, rfl⟩ | ⟨g, cap, cur, rfl, hb, hg, h1, h2, _⟩
  · omega
  · exact ⟨_, _, rfl, .inr ⟨g, 0, rfl, lt_of_blk hg, hl, fun i u hu => by
      have h3 := h.cells (g := g) rfl i u hu
      rwa [Addr.add_mid] at h3⟩⟩

end Go.Proofs.YtfdkmmllemkogaaGreatDoor
