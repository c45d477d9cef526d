/-
  Contract of the reference's Pack for a right map: the bytes of its stream.
-/
import Derived.ArgAppend
import Derived.Deep.CutBlock
import Derived.Deep.DeepCutAuto
import Derived.Laws.BytesArg
import Derived.Lib.SlBytesConst
import Derived.Test.YtfdkmmllemkogaaGreatDoorOWa
import Derived.Test.YtfdkmmllemkogaaGreatDoorObDb
import Derived.Test.YtfdkmmllemkogaaGreatDoorOWk
import Derived.Test.YtfdkmmllemkogaaGreatDoorObKb
import Derived.Test.YtfdkmmllemkogaaGreatDoorOZd
import Derived.Test.YtfdkmmllemkogaaGreatDoorOWs
import Derived.OpenShut
import Derived.Test.YtfdkmmllemkogaaGreatDoorOBd
import Derived.Test.YtfdkmmllemkogaaGreatDoorObLh
namespace Go.Proofs.YtfdkmmllemkogaaGreatDoor
open Go.RowKit
set_option linter.unusedVariables false
set_option linter.unusedSimpArgs false

theorem row_cells {w : World} {B : Nat} {T : TypeId} {x y z : Value} (h : w.heap[B]? = some (.cells #[x, y, z] T (0, 0))) :
    w.cell? ⟨B, 0, none⟩ = some x ∧ w.cell? ⟨B, 1, none⟩ = some y ∧ w.cell? ⟨B, 2, none⟩ = some z :=
  ⟨by rw [cell_of_row w _ 0 _ _ (0, 0) h]; rfl, by rw [cell_of_row w _ 1 _ _ (0, 0) h]; rfl, by rw [cell_of_row w _ 2 _ _ (0, 0) h]; rfl⟩
end Go.Proofs.YtfdkmmllemkogaaGreatDoor

/-
  Contract of small for every map: whether it is right, has at most 160 samples, and none above a bound.
-/

namespace Go.Proofs.YtfdkmmllemkogaaGreatDoor
open Go.RowKit
set_option linter.unusedVariables false
set_option linter.unusedSimpArgs false

theorem order_lt {x y : Nat} {k l : Int} (hx : Smp x k) (hy : Smp y l) : (FloatKind.f32.format.order x y == some .lt) = decide (k < l) := by
  have e : Ieee.single.order x y = some (compare k l) := hx.order hy
  show (Ieee.single.order x y == some .lt) = decide (k < l)
  rw [e]
  have h : (compare k l = .lt) ↔ k < l := by
    show compareOfLessAndEq k l = .lt ↔ _
    unfold compareOfLessAndEq
    split
    · simp_all
    · split <;> simp_all
  by_cases hk : k < l
  · rw [decide_eq_true hk, h.2 hk]; rfl
  · rw [decide_eq_false hk]
    cases h2 : compare k l
    · exact absurd (h.1 h2) hk
    · rfl
    · rfl

theorem ret_boolK {a b : Bool} (h : a = b) : Ending.returned (.bool a) = .returned (.bool b) := by rw [h]
def smallB (W H : Int) (n : Nat) (xs : List Nat) (M : Nat) : Bool := decide (mapErr W H n xs = 0 ∧ n ≤ 160 ∧ ∀ j, j < n → (kOf (xs[j]?.getD 0)).natAbs ≤ M)

set_option maxRecDepth 100000 in
set_option maxHeartbeats 3200000 in
theorem small_all (mw mn M : Nat) (hp : Smp mw M) (hm : Smp mn (-(M : Int))) (hneg : ∀ w : World, (Op.unary .neg (.float .f32 mw)).run Tryz.prog w = .ok (.float .f32 mn) w)
    (W H : Int) (a : Option Addr) (n c : Nat) (xs : List Nat) (w : World) (hM : AnyMap w a n c xs) :
    Calls Tryz.prog 96 #[.agg #[.int .i64 W, .int .i64 H, .slice a n c], .float .f32 mw] w fun e w' => e = .returned (.bool (smallB W H n xs M)) ∧ Below w.heap.size w w' := by
  obtain ⟨W0, hW0⟩ : ∃ W0, w.alloc (.cells #[.int .i64 W, .int .i64 H, .slice a n c] 48) = W0 := ⟨_, rfl⟩
  have hB0 : Below w.heap.size w W0 := by rw [← hW0]; exact (Below.refl _ w).alloc (Nat.le_refl _) _
  have r0 : W0.heap[w.heap.size]? = some (.cells #[.int .i64 W, .int .i64 H, .slice a n c] 48 (0, 0)) := by rw [← hW0]; exact blk_alloc_new _ _
  obtain ⟨z0, z1, z2⟩ := row_cells r0
  obtain ⟨er, her⟩ : ∃ er, mapErr W H n xs = er := ⟨_, rfl⟩
  have K0 := refCheckMap_map W H a n c xs W0 (hM.below hB0 (Nat.le_refl _))
  rw [her] at K0
  have K := Lib.hid K0
  have HB0 := Lib.hid hB0
  have HR0 := Lib.hid r0
  have HM := Lib.hid hM
  have HER := Lib.hid her
  have HP := Lib.hid hp
  have HN := Lib.hid hm
  clear hB0 r0 hM K0 her hp hm
  by_cases h0 : er = 0
  · have e0 : (er != 0) = false := by simp [h0]
    by_cases h1 : n ≤ 160
    · have i1 : ¬ ((160 : Int) < (n : Int)) := by omega
      have H0 := Lib.hid h0
      clear h0
      go_enter Tryz.func96, Tryz.ntmps96
      go_upto_region 1 with fail
      try rw [hW0]
      clear hW0
      go_upto_if 15 with (go_at_call 41; with_reducible refine K.out.mono ?_; rintro e w1 ⟨rfl, hb1⟩; have r1 := (hb1.block _ (lt_of_blk HR0.out)).trans HR0.out; have hb1' := HB0.out.trans (hb1.mono HB0.out.size); obtain ⟨y0, y1, y2⟩ := row_cells r1)
      have HB1 := Lib.hid hb1'
      have HR1 := Lib.hid r1
      clear hb1 hb1' r1 z0 z1 z2
      go_wp2_with fail
      go_loop [19] (fun i => ∃ k : Nat, k ≤ n ∧ i = .int .i64 k ∧ Hid (∀ j, j < k → (kOf (xs[j]?.getD 0)).natAbs ≤ M)) (fun i => n - (intOf i).toNat)
      case atStart => exact ⟨0, Nat.zero_le _, rfl, Lib.hid fun j hj => absurd hj (by omega)⟩
      case round =>
        obtain ⟨k, hk, rfl, hh⟩ := hrel
        by_cases hlt : k < n
        · obtain ⟨b, o, rfl, hb, hcc⟩ := HM.out.cells k hlt
          have hcell : w1.cell? ⟨b, o + k, none⟩ = some (.float .f32 (xs[k]?.getD 0)) := (HB1.out.cell (by exact hb)).trans (hcc k hlt)
          have hs := (smp_kOf (mapErr_smps HM.out.len (HER.out.trans H0.out) k hlt)).1
          have t1 := order_gt hs HP.out
          have t2 := order_lt hs HN.out
          obtain ⟨x, hx⟩ : ∃ x, xs[k]?.getD 0 = x := ⟨_, rfl⟩
          have HX := Lib.hid hx
          rw [hx] at hcell t1 t2
          have t1' : (FloatKind.f32.format.order x mw == some .gt) = decide ((M : Int) < kOf x) := t1
          clear t1 hs hcc hx
          by_cases hbad : (kOf x).natAbs ≤ M
          · have u1 : (FloatKind.f32.format.order x mw == some .gt) = false := by rw [t1']; simp; omega
            have u2 : (FloatKind.f32.format.order x mn == some .lt) = false := by rw [t2]; simp; omega
            have HBAD := Lib.hid hbad
            clear t1' t2 hbad
            go_wp2_with fail
            go_round
            case rel => exact ⟨k + 1, by omega, by go_num, Lib.hid fun j hj => by
              by_cases hjk : j < k
              · exact hh.out j hjk
              · obtain rfl : j = k := by omega
                rw [HX.out]; exact HBAD.out⟩
            case measure => simp [intOf]; omega
          · have hfalse : smallB W H n xs M = false := decide_eq_false fun h => hbad (by rw [← HX.out]; exact h.2.2 k hlt)
            have HF := Lib.hid hfalse
            by_cases hg : (M : Int) < kOf x
            · have u1 : (FloatKind.f32.format.order x mw == some .gt) = true := by rw [t1']; simp; omega
              clear t1' t2 hbad hfalse hg
              go_wp2_with fail
              go_ret
              exact ⟨ret_boolK HF.out.symm, HB1.out⟩
            · have u1 : (FloatKind.f32.format.order x mw == some .gt) = false := by rw [t1']; simp; omega
              have u2 : (FloatKind.f32.format.order x mn == some .lt) = true := by rw [t2]; simp; omega
              clear t1' t2 hbad hfalse hg
              go_wp2_with fail
              go_ret
              exact ⟨ret_boolK HF.out.symm, HB1.out⟩
        · obtain rfl : k = n := by omega
          have htrue : smallB W H k xs M = true := decide_eq_true ⟨HER.out.trans H0.out, h1, hh.out⟩
          have HT := Lib.hid htrue
          clear htrue
          go_wp2_with fail
          go_ret
          exact ⟨ret_boolK HT.out.symm, HB1.out⟩
    · have i1 : (160 : Int) < (n : Int) := by omega
      have hfalse : smallB W H n xs M = false := decide_eq_false fun h => h1 h.2.1
      have HF := Lib.hid hfalse
      clear h0 hfalse h1
      go_enter Tryz.func96, Tryz.ntmps96
      go_upto_region 1 with fail
      try rw [hW0]
      clear hW0
      go_wp2_with (go_at_call 41; with_reducible refine K.out.mono ?_; rintro e w1 ⟨rfl, hb1⟩; have r1 := (hb1.block _ (lt_of_blk HR0.out)).trans HR0.out; have HB1 := Lib.hid (HB0.out.trans (hb1.mono HB0.out.size)); obtain ⟨y0, y1, y2⟩ := row_cells r1; clear hb1)
      go_ret
      exact ⟨ret_boolK HF.out.symm, HB1.out⟩
  · have e0 : (er != 0) = true := by simp [h0]
    have hfalse : smallB W H n xs M = false := decide_eq_false fun h => h0 (HER.out.symm.trans h.1)
    have HF := Lib.hid hfalse
    clear h0 hfalse
    go_enter Tryz.func96, Tryz.ntmps96
    go_upto_region 1 with fail
    try rw [hW0]
    clear hW0
    go_wp2_with (go_at_call 41; with_reducible refine K.out.mono ?_; rintro e w1 ⟨rfl, hb1⟩; have HB1 := Lib.hid (HB0.out.trans (hb1.mono HB0.out.size)); clear hb1)
    go_ret
    exact ⟨ret_boolK HF.out.symm, HB1.out⟩

end Go.Proofs.YtfdkmmllemkogaaGreatDoor

/-
  Arguments that are arrays of integers or of spans, opened.
-/
namespace Go.Proofs.YtfdkmmllemkogaaGreatDoor
open Go.ChangeShapes Go.WideShapes Go.ChangeAt Go.RowKit Go.Joins Go.Deep
set_option linter.unusedVariables false
set_option maxRecDepth 100000

theorem okWide_arr {P : Program} {w : World} {r : Reach} {base : Nat} {t n e : Nat} {v : Value} (ht : P.underlying t = some (.array n e)) (h : Value.okWide P w r base t v) : ∃ cs, v = .agg cs ∧ cs.size = P.cellsOf t := by
  simp only [Value.okWide, ht] at h
  obtain ⟨cs, h1, h2, _⟩ := h
  exact ⟨cs, h1, h2⟩

end Go.Proofs.YtfdkmmllemkogaaGreatDoor

/-
  Arguments that are arrays of bytes, opened.
-/

namespace Go.Proofs.YtfdkmmllemkogaaGreatDoor
open Go.ChangeShapes Go.WideShapes Go.ChangeAt Go.RowKit Go.Joins Go.Deep
set_option linter.unusedVariables false
set_option linter.unusedSimpArgs false
set_option maxRecDepth 100000

theorem openByteArr {H : Type} {enc : TypeId × Value → H} {W : World} {b0 : Nat} {t n e : Nat} {v : Value} {d : DataW H} {p : List MemPlace} (ht : Tryz.prog.underlying t = some (.array n e)) (he : Tryz.prog.underlying e = some (.int .u8)) (hc : Tryz.prog.cellsOf t = n) (hce : Tryz.prog.cellsOf e = 1)
    (hv : Value.okWide Tryz.prog W .any b0 t v) (h : DataW.Trod enc Tryz.prog W 0 (fun _ => true) true t v d p) : ∃ l : List Int, l.length = n ∧ (∀ z ∈ l, 0 ≤ z ∧ z ≤ 255) ∧ v = .agg (l.map (Value.int .u8)).toArray := by
  obtain ⟨cs, rfl, hsz⟩ := okWide_arr ht hv
  obtain ⟨fuel, hf⟩ := h
  obtain ⟨xs, m, _, _, _, hl, hi⟩ := DataW.trod_array ht hf
  have e1' : IntKind.u8.min = 0 := by rfl
  have e2' : IntKind.u8.max = 255 := by rfl
  have key : ∀ i, i < n → ∃ z : Int, cs.toList[i]? = some (.int .u8 z) ∧ 0 ≤ z ∧ z ≤ 255 := by
    intro i hlt
    have h := hi i hlt
    rw [hce, Nat.mul_one] at h
    simp only [Value.cells] at h
    obtain ⟨y, hy⟩ : ∃ y, xs[i]? = some y := ⟨_, List.getElem?_eq_getElem (by omega)⟩
    rw [hy] at h
    have hli : i < cs.toList.length := by rw [Array.length_toList]; omega
    have e1 : (cs.toList.drop i).take 1 = [cs.toList[i]] := by
      rw [List.drop_eq_getElem_cons hli]; rfl
    rw [e1] at h
    obtain ⟨X, e0, _, hw⟩ := DataW.trod_int he h
    simp only [List.cons.injEq, and_true] at e0
    simp only [Lit.wf, Bool.and_eq_true, decide_eq_true_eq, e1', e2'] at hw
    exact ⟨X, by rw [List.getElem?_eq_getElem hli, e0], hw.1, hw.2⟩
  refine ⟨(List.range n).map (fun i => match cs.toList[i]? with | some (Value.int _ z) => z | _ => (0 : Int)), by simp, ?_, ?_⟩
  · intro z hz
    obtain ⟨i, hi', rfl⟩ := List.mem_map.1 hz
    obtain ⟨y, hy, h1, h2⟩ := key i (List.mem_range.1 hi')
    rw [hy]
    exact ⟨h1, h2⟩
  · congr 1
    apply Array.ext'
    refine List.ext_getElem? fun i => ?_
    simp only [List.map_map, List.getElem?_map]
    by_cases hi' : i < n
    · obtain ⟨z, hz, _, _⟩ := key i hi'
      rw [hz, List.getElem?_range hi']
      have hz2 : cs[i]? = some (.int .u8 z) := by simpa using hz
      simp [hz2]
    · have h1 : cs.toList[i]? = none := by rw [List.getElem?_eq_none]; rw [Array.length_toList]; omega
      have h2 : (List.range n)[i]? = none := by rw [List.getElem?_eq_none]; simp; omega
      rw [h1, h2]; rfl
theorem openBytes2 {H : Type} {enc : TypeId × Value → H} {W : World} {b0 : Nat} {v : Value} {d : DataW H} {p : List MemPlace}
    (hv : Value.okWide Tryz.prog W .any b0 150 v) (h : DataW.Trod enc Tryz.prog W 0 (fun _ => true) true 150 v d p) :
    ∃ x y : Int, v = .agg #[.int .u8 x, .int .u8 y] ∧ (0 ≤ x ∧ x ≤ 255) ∧ (0 ≤ y ∧ y ≤ 255) := by
  obtain ⟨l, hl, hb, rfl⟩ := openByteArr Tryz.underlying150 Tryz.underlying5 (by kernel_rfl) (by kernel_rfl) hv h
  match l, hl with
  | [x, y], _ => exact ⟨x, y, rfl, hb x (by simp), hb y (by simp)⟩
end Go.Proofs.YtfdkmmllemkogaaGreatDoor

/-
  LightCut returns true for all arguments.
-/

namespace Go.Proofs.YtfdkmmllemkogaaGreatDoor
open Go.ChangeShapes Go.WideShapes Go.ChangeAt Go.RowKit Go.Joins Go.Deep
set_option linter.unusedVariables false
set_option linter.unusedSimpArgs false
set_option maxRecDepth 100000

theorem smp1024 : Smp 1149239296 ((16384 : Nat) : Int) := by
  rw [show (1149239296 : Nat) = smpOf ((16384 : Nat) : Int) from by decide +kernel]; exact smpOf_smp _ (by decide)
theorem smpN1024 : Smp 3296722944 (-((16384 : Nat) : Int)) := by
  rw [show (3296722944 : Nat) = smpOf (-((16384 : Nat) : Int)) from by decide +kernel]; exact smpOf_smp _ (by decide)
theorem neg1024 : ∀ w : World, (Op.unary .neg (.float .f32 1149239296)).run Tryz.prog w = .ok (.float .f32 3296722944) w := fun w => by kernel_rfl

set_option maxHeartbeats 3200000 in
theorem cut_all (w : World) (W H : Int) (a : Option Addr) (n c : Nat) (xs : List Nat) (n0 n1 : Int) (hn0 : 0 ≤ n0 ∧ n0 ≤ 255) (hn1 : 0 ≤ n1 ∧ n1 ≤ 255) (ht : TabAt w) (hM : AnyMap w a n c xs) :
    Calls Tryz.prog 13 #[.agg #[.int .i64 W, .int .i64 H, .slice a n c], .agg #[.int .u8 n0, .int .u8 n1]] w (TruePost w) := by
  have KS : ∀ w1 : World, Below w.heap.size w w1 → Calls Tryz.prog 96 #[.agg #[.int .i64 W, .int .i64 H, .slice a n c], .float .f32 1149239296] w1 fun e w' => e = .returned (.bool (smallB W H n xs 16384)) ∧ Below w1.heap.size w1 w' := fun w1 h =>
    small_all 1149239296 3296722944 16384 smp1024 smpN1024 neg1024 W H a n c xs w1 (hM.below h (Nat.le_refl _))
  by_cases hb : smallB W H n xs 16384 = true
  · rw [hb] at KS
    obtain ⟨h0, h1, h2⟩ := of_decide_eq_true hb
    obtain ⟨Wn, Hn, b, o, rfl, rfl, rfl, hR⟩ := rm_of_any hM h0
    exact cut_walk w Wn Hn b o n c _ hR n0 n1 hn0 hn1 KS ht
  · rw [Bool.eq_false_iff.2 hb] at KS
    have KW : Hid (∀ w1 : World, Below w.heap.size w w1 → Calls Tryz.prog 19 #[] w1 fun e w' => e = .returned (.bool true) ∧ Below w.heap.size w w') :=
      Lib.hid fun w1 h => (awake_any w1 (ht.on h)).mono fun e w' ⟨he, hb⟩ => ⟨he, h.trans (hb.mono h.size)⟩
    have HS := Lib.hid KS
    have hB0 : Below w.heap.size w ((w.alloc (.cells #[.int .i64 W, .int .i64 H, .slice a n c] 48)).alloc (.cells #[.int .u8 n0, .int .u8 n1] 150)) := ((Below.refl _ w).alloc (Nat.le_refl _) _).alloc (by simp) _
    have HB0 := Lib.hid hB0
    clear hB0 KS hb hM ht
    go_enter Tryz.func13, Tryz.ntmps13
    go_wp2_with (first
      | (go_at_call 96; refine (HS.out _ HB0.out).mono ?_; rintro e w1 ⟨rfl, hb1⟩; have HB1 := Lib.hid (HB0.out.trans (hb1.mono HB0.out.size)); clear hb1)
      | (go_at_call 19; refine (KW.out _ HB1.out).mono ?_; rintro e w2 ⟨rfl, hb2⟩))
    go_ret
    exact ⟨rfl, hb2⟩
end Go.Proofs.YtfdkmmllemkogaaGreatDoor
