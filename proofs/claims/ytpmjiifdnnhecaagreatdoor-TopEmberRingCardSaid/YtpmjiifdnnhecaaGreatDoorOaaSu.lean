/-
  Texts: assembled: the map of rows, or its error.
-/
import Derived.Test.YtpmjiifdnnhecaaGreatDoorOaaSq
namespace Go.Proofs.YtpmjiifdnnhecaaGreatDoor
open Go.RowKit
set_option linter.unusedVariables false
set_option linter.unusedSimpArgs false

theorem smpOf_wordS (n : Int) (hn : n.natAbs < 2 ^ 24) : smpOf n < 2 ^ 32 := by
  have := floatBits_wf (smpOf_run n hn)
  simpa [Lit.wf] using this
/-- The error of a map of integers. -/
def cellErr (W H : Int) (ls : List Int) : Int := if largeErr ls.length ls = 0 then mapErr W H ls.length (ls.map smpOf) else largeErr ls.length ls
open Classical in
/-- The error of rows. -/
noncomputable def asmErr (W H : Int) (rs : List (List Int)) : Int := if (rs.length : Int) = H ∧ ∀ r ∈ rs, (r.length : Int) = W then cellErr W H rs.flatten else 2
/-- What assembled answers. -/
def AsmV (w : World) (W H : Int) (rs : List (List Int)) (e : Ending) (w' : World) : Prop :=
  ∃ X Y a n c, e = .returned (.tuple #[.agg #[.int .i64 X, .int .i64 Y, .slice a n c], .int .i64 (asmErr W H rs)]) ∧ ResV w' (asmErr W H rs) W H rs.flatten X Y a n c ∧ Below w.heap.size w w'
theorem asm_bad {w w' : World} {W H : Int} {rs : List (List Int)} {r : Int} (h : asmErr W H rs = r) (h0 : r ≠ 0) (hb : Below w.heap.size w w') : AsmV w W H rs (.returned (.tuple #[.agg #[.int .i64 0, .int .i64 0, .slice none 0 0], .int .i64 r])) w' :=
  ⟨0, 0, none, 0, 0, by rw [h], by rw [h]; exact ResV.none _ _ _ _ _ h0, hb⟩
theorem asm_ok {w w' : World} {W H : Int} {rs : List (List Int)} {X Y : Int} {a : Option Addr} {n c : Nat} (h : asmErr W H rs = 0) (hr : ResV w' 0 W H rs.flatten X Y a n c) (hb : Below w.heap.size w w') : AsmV w W H rs (.returned (.tuple #[.agg #[.int .i64 X, .int .i64 Y, .slice a n c], .int .i64 0])) w' :=
  ⟨X, Y, a, n, c, by rw [h], by rw [h]; exact hr, hb⟩
theorem ResV.any {w : World} {W H : Int} {ls : List Int} {X Y : Int} {a : Option Addr} {n c : Nat} (h : ResV w 0 W H ls X Y a n c) : AnyMap w a n c (ls.map smpOf) := by
  obtain ⟨h1, h2, h3, h4, h5, g, h6, h7, h8⟩ := h.ok rfl
  have hx : ∀ j, j < n → (ls.map smpOf)[j]?.getD 0 = smpOf (ls[j]?.getD 0) := fun j hj => by
    rw [List.getElem?_map, List.getElem?_eq_getElem (by omega)]; rfl
  refine ⟨by rw [List.length_map]; exact h3, fun j hj => ?_, .inr ⟨_, h6⟩, fun j hj => ⟨g, 0, h6, h7, fun k hk => by rw [Nat.zero_add, hx k hk]; exact h8 k hk⟩⟩
  rw [hx j hj]; exact smpOf_wordS _ (Nat.lt_of_le_of_lt (h5 j hj) (by decide))

theorem mapErr_pos {W H : Int} {n : Nat} {xs : List Nat} (hx : xs.length = n) (h : mapErr W H n xs = 0) : 1 ≤ n := by
  obtain ⟨w1, w2, h1, h2, hA, hS⟩ := mapErr_zero hx h
  have := Int.mul_le_mul w1 h1 (by omega) (by omega)
  omega
/-- What toMap answers, in words that serve no rows, too. -/
def ToMapV (w : World) (W H : Int) (ls : List Int) (e : Ending) (w' : World) : Prop :=
  ∃ X Y a n c, e = .returned (.tuple #[.agg #[.int .i64 X, .int .i64 Y, .slice a n c], .int .i64 (largeErr ls.length ls)]) ∧ (largeErr ls.length ls = 0 → X = W ∧ Y = H ∧ n = ls.length ∧ AnyMap w' a n c (ls.map smpOf) ∧ (1 ≤ ls.length → ResV w' 0 W H ls X Y a n c)) ∧ Below w.heap.size w w'
theorem toMap_v1 (W H : Int) (g N c B : Nat) (ls : List Int) (hl : ls.length = N) (hm : N ≤ 4096) (w : World) (ho : w.ownsRow B 3 1 (.slice (some ⟨g, 0, none⟩) N c) N (ls.map (Value.int .i64))) :
    Calls Tryz.prog 153 #[.agg #[.int .i64 W, .int .i64 H, .slice (some ⟨g, 0, none⟩) N c]] w (ToMapV w W H ls) := by
  refine (toMap_res W H g N c B ls hl hm w ho).mono ?_
  rintro e w' ⟨X, Y, a', n', c', rfl, hr, hb⟩
  subst hl
  refine ⟨X, Y, a', n', c', rfl, fun h0 => ?_, hb⟩
  rw [h0] at hr
  obtain ⟨h1, h2, h3, h4⟩ := hr.ok rfl
  exact ⟨h1, h2, h3.symm, hr.any, fun _ => hr⟩
theorem toMap_v0 (W H : Int) (w : World) :
    Calls Tryz.prog 153 #[.agg #[.int .i64 W, .int .i64 H, .slice none 0 0]] w (ToMapV w W H []) := by
  refine (toMap_nil W H w).mono ?_
  rintro e w' ⟨rfl, hb, hlt⟩
  have hl : largeErr ([] : List Int).length [] = 0 := if_pos (fun j hj => by cases hj)
  exact ⟨W, H, _, 0, 0, by rw [hl], fun _ => ⟨rfl, rfl, rfl, ⟨rfl, fun j hj => (by omega), .inr ⟨_, rfl⟩, fun j hj => (by omega)⟩, fun h => by cases h⟩, hb⟩

theorem asm_end {w w2 : World} {x y z x' y' z' : Value} (hk : w2.heap[w.heap.size]? = some (.cells #[x, y, z] 121 (0, 0))) (hb : Below w.heap.size w w2) (o : Obj) :
    ((((w2.setCell ⟨w.heap.size, 0, none⟩ x').setCell ⟨w.heap.size, 1, none⟩ y').setCell ⟨w.heap.size, 2, none⟩ z').alloc o).heap[w.heap.size]? = some (.cells #[x', y', z'] 121 (0, 0)) ∧
    Below w.heap.size w ((((w2.setCell ⟨w.heap.size, 0, none⟩ x').setCell ⟨w.heap.size, 1, none⟩ y').setCell ⟨w.heap.size, 2, none⟩ z').alloc o) := by
  have r := blk_set3 hk x' y' z'
  have b := ((hb.setCell (p := ⟨w.heap.size, 0, none⟩) (Nat.le_refl _) x').setCell (p := ⟨w.heap.size, 1, none⟩) (Nat.le_refl _) y').setCell (p := ⟨w.heap.size, 2, none⟩) (Nat.le_refl _) z'
  have l := (Array.getElem?_eq_some_iff.1 r).1
  exact ⟨(Below.heap_alloc _ _ _ l).trans r, b.alloc (by omega) _⟩
theorem res_end {w2 w3 : World} {W H X Y : Int} {ls : List Int} {a : Option Addr} {n c b : Nat} {x' y' z' : Value} {cs : Array Value} {v : Int} (h : ResV w2 0 W H ls X Y a n c) (h1 : 1 ≤ ls.length) (hk : w2.heap[b]? = some (.cells cs 121 (0, 0))) (hcs : cs[0]? = some (.int .i64 v)) (hb : Below w2.heap.size w2 w3) :
    ResV (((w3.setCell ⟨b, 0, none⟩ x').setCell ⟨b, 1, none⟩ y').setCell ⟨b, 2, none⟩ z') 0 W H ls X Y a n c := by
  obtain ⟨e1, e2, e3, e4, e5, g, e6, e7, e8⟩ := h.ok rfl
  have hne : g ≠ b := by
    rintro rfl
    have h0 := e8 0 (by omega)
    rw [cell_of_row w2 _ 0 _ _ (0, 0) hk, hcs] at h0
    cases h0
  refine ⟨fun h => absurd rfl h, fun _ => ⟨e1, e2, e3, e4, e5, g, e6, ?_, fun j hj => ?_⟩⟩
  · have := hb.size
    simp [World.setCell]; omega
  · have hblk : (((w3.setCell ⟨b, 0, none⟩ x').setCell ⟨b, 1, none⟩ y').setCell ⟨b, 2, none⟩ z').heap[g]? = w3.heap[g]? := by
      rw [Below.heap_setCell _ _ _ _ hne, Below.heap_setCell _ _ _ _ hne, Below.heap_setCell _ _ _ _ hne]
    rw [World.cell?_of_block (a := ⟨g, j, none⟩) hblk, hb.cell (p := ⟨g, j, none⟩) e7]
    exact e8 j hj
theorem RowsIn.on {w w' : World} {us : List Value} {rs : List (List Int)} (h : RowsIn w us rs) (hb : Below w.heap.size w w') : RowsIn w' us rs :=
  ⟨h.1, fun j u r hu hr => by
    obtain ⟨g, c, e, hg, hc⟩ := h.2 j u r hu hr
    exact ⟨g, c, e, Nat.lt_of_lt_of_le hg hb.size, fun k v hk => (hb.cell (p := ⟨g, k, none⟩) hg).trans (hc k v hk)⟩⟩
/-- What Concat answers: what toMap takes. -/
def CatV (w : World) (W H : Int) (ls : List Int) (e : Ending) (w' : World) : Prop :=
  ∃ a n c, e = .returned (.slice a n c) ∧ (∀ w2, Below w'.heap.size w' w2 → Calls Tryz.prog 153 #[.agg #[.int .i64 W, .int .i64 H, .slice a n c]] w2 (ToMapV w2 W H ls)) ∧ Below w.heap.size w w'
theorem concat_v (W H : Int) (g o n c : Nat) (us : List Value) (rs : List (List Int)) (w : World) (hg : g < w.heap.size) (hn : us.length = n) (hn2 : n ≤ 1000000) (hcell : ∀ (j : Nat) (u : Value), us[j]? = some u → w.cell? ⟨g, o + j, none⟩ = some u)
    (hrow : RowsIn w us rs) (hN2 : rs.flatten.length ≤ 4096) (hpos : 1 ≤ n → 1 ≤ rs.flatten.length) :
    Calls Tryz.prog 211 #[.slice (some ⟨g, o, none⟩) n c] w (CatV w W H rs.flatten) := by
  by_cases h : 1 ≤ n
  · refine (concat_any g o n c us rs w hg hn hn2 hcell hrow _ rfl (hpos h) (by omega)).mono ?_
    rintro e w' ⟨gg, cc, rfl, ho, hb⟩
    exact ⟨_, _, _, rfl, fun w2 hb2 => toMap_v1 W H gg _ cc _ rs.flatten rfl hN2 w2 (owns_on ho hb2), hb⟩
  · obtain rfl : n = 0 := by omega
    have hr : rs = [] := List.eq_nil_of_length_eq_zero (by rw [← hrow.1]; exact hn)
    refine (concat_none (some ⟨g, o, none⟩) c w).mono ?_
    rintro e w' ⟨rfl, rfl⟩
    exact ⟨none, 0, 0, rfl, fun w2 hb2 => by rw [hr]; exact toMap_v0 W H w2, Below.refl _ _⟩

set_option maxRecDepth 100000 in
set_option maxHeartbeats 6400000 in
theorem assembled_any (W H : Int) (g o n c : Nat) (us : List Value) (rs : List (List Int)) (w : World) (hg : g < w.heap.size) (hn : us.length = n) (hn2 : n ≤ 1000000) (hcell : ∀ (j : Nat) (u : Value), us[j]? = some u → w.cell? ⟨g, o + j, none⟩ = some u)
    (hrow : RowsIn w us rs) (hN2 : rs.flatten.length ≤ 4096) (hpos : 1 ≤ n → 1 ≤ rs.flatten.length) :
    Calls Tryz.prog 164 #[.int .i64 W, .int .i64 H, .slice (some ⟨g, o, none⟩) n c] w (AsmV w W H rs) := by
  have hrl : rs.length = n := by rw [← hrow.1]; exact hn
  by_cases hnb : (n : Int) = H
  · have HNB := Lib.hid hnb
    have e1 : ((n : Int) != H) = false := by simp [hnb]
    have hall : (∀ r ∈ rs, (r.length : Int) = W) ∨ ¬ (∀ r ∈ rs, (r.length : Int) = W) := Classical.em _
    have HALL := Lib.hid hall
    have HC := Lib.hid hcell
    have HR := Lib.hid hrow
    have HN := Lib.hid hn
    have HRL := Lib.hid hrl
    have HPOS := Lib.hid hpos
    clear hall hcell hrow hn hrl hpos hnb
    go_enter Tryz.func164, Tryz.ntmps164
    go_wp2
    obtain ⟨W0, hW0⟩ : ∃ W0, w.alloc (.cells #[.int .i64 0, .int .i64 0, .slice none 0 0] 121) = W0 := ⟨_, rfl⟩
    have hB0 : Below w.heap.size w W0 := by rw [← hW0]; exact (Below.refl _ w).alloc (Nat.le_refl _) _
    have hs0 : W0.heap.size = w.heap.size + 1 := by rw [← hW0]; simp
    have hk0 : W0.heap[w.heap.size]? = some (.cells #[.int .i64 0, .int .i64 0, .slice none 0 0] 121 (0, 0)) := by rw [← hW0]; exact heap_alloc_new w _
    have t0 : W0.cell? ⟨w.heap.size, 0, none⟩ = some (.int .i64 0) := by rw [cell_of_row W0 _ 0 _ _ (0, 0) hk0]; rfl
    have t1 : W0.cell? ⟨w.heap.size, 1, none⟩ = some (.int .i64 0) := by rw [cell_of_row W0 _ 1 _ _ (0, 0) hk0]; rfl
    have t2 : W0.cell? ⟨w.heap.size, 2, none⟩ = some (.slice none 0 0) := by rw [cell_of_row W0 _ 2 _ _ (0, 0) hk0]; rfl
    have f0 : W0.frozen? ⟨w.heap.size, 0, none⟩ = false := frozen_of_row W0 _ 0 _ _ hk0
    have f1 : W0.frozen? ⟨w.heap.size, 1, none⟩ = false := frozen_of_row W0 _ 1 _ _ hk0
    have f2 : W0.frozen? ⟨w.heap.size, 2, none⟩ = false := frozen_of_row W0 _ 2 _ _ hk0
    have HB0 := Lib.hid hB0
    have HS0 := Lib.hid hs0
    have HK0 := Lib.hid hk0
    try rw [hW0]
    clear hW0 hB0 hs0 hk0
    go_loop [19] (fun i => ∃ k : Nat, k ≤ n ∧ i = .int .i64 k ∧ Hid (∀ (j : Nat) (r : List Int), j < k → rs[j]? = some r → (r.length : Int) = W)) (fun i => n - (intOf i).toNat)
    case atStart => exact ⟨0, Nat.zero_le _, rfl, Lib.hid (fun j r h => by omega)⟩
    case round =>
      obtain ⟨k, hk, rfl, hT⟩ := hrel
      by_cases hlt : k < n
      · obtain ⟨u, hu⟩ : ∃ u, us[k]? = some u := ⟨us[k]'(by rw [HN.out]; exact hlt), List.getElem?_eq_getElem _⟩
        obtain ⟨r, hr⟩ : ∃ r, rs[k]? = some r := ⟨rs[k]'(by rw [HRL.out]; exact hlt), List.getElem?_eq_getElem _⟩
        obtain ⟨gg, cc, rfl, -, -⟩ := HR.out.2 k u r hu hr
        have hc : W0.cell? ⟨g, o + k, none⟩ = some (.slice (some ⟨gg, 0, none⟩) r.length cc) := (HB0.out.cell (by exact hg)).trans (HC.out k _ hu)
        by_cases hw : (r.length : Int) = W
        · have hT' := Lib.hid (show ∀ (j : Nat) (r : List Int), j < k + 1 → rs[j]? = some r → (r.length : Int) = W from fun j r' hj hr' => by
            by_cases e : j = k
            · subst e; rw [hr] at hr'; cases hr'; exact hw
            · exact hT.out j r' (by omega) hr')
          have e2 : ((r.length : Int) != W) = false := by simp [hw]
          obtain ⟨m, hm⟩ : ∃ m, r.length = m := ⟨_, rfl⟩
          rw [hm] at hc e2
          clear hu hr hw hm
          go_wp2
          go_round
          case rel => exact ⟨k + 1, by omega, by go_num, hT'⟩
          case measure => first | (simp [intOf]; done) | (simp [intOf]; omega)
        · have he : asmErr W H rs = 2 := by unfold asmErr; rw [if_neg (fun h => hw (h.2 r (List.mem_of_getElem? hr)))]
          have HE := Lib.hid he
          have e2 : ((r.length : Int) != W) = true := by simp [hw]
          obtain ⟨m, hm⟩ : ∃ m, r.length = m := ⟨_, rfl⟩
          rw [hm] at hc e2
          clear hu hr hw hm he
          go_wp2
          obtain ⟨WF, hWF⟩ : ∃ WF, (((W0.setCell ⟨w.heap.size, 0, none⟩ (.int .i64 0)).setCell ⟨w.heap.size, 1, none⟩ (.int .i64 0)).setCell ⟨w.heap.size, 2, none⟩ (.slice none 0 0)) = WF := ⟨_, rfl⟩
          have rF : WF.heap[w.heap.size]? = some (.cells #[.int .i64 0, .int .i64 0, .slice none 0 0] 121 (0, 0)) := by rw [← hWF]; exact blk_set3 HK0.out _ _ _
          have bF : Below w.heap.size w WF := by
            rw [← hWF]
            exact ((HB0.out.setCell (p := ⟨w.heap.size, 0, none⟩) (Nat.le_refl _) _).setCell (p := ⟨w.heap.size, 1, none⟩) (Nat.le_refl _) _).setCell (p := ⟨w.heap.size, 2, none⟩) (Nat.le_refl _) _
          rw [hWF]
          exact bodyPost_ret (v := .tuple #[.agg #[.int .i64 0, .int .i64 0, .slice none 0 0], .int .i64 2]) (results_row_tmp Tryz.results164 _ _ w.heap.size 121 _ (0, 0) _ rfl rF Tryz.underlying121 rfl (by kernel_rfl)) rfl (asm_bad HE.out (by decide) bF)
      · obtain rfl : n = k := by omega
        have he : asmErr W H rs = cellErr W H rs.flatten := by
          unfold asmErr
          refine if_pos ⟨by rw [HRL.out]; exact HNB.out, fun r hr => ?_⟩
          obtain ⟨j, hj⟩ := List.getElem?_of_mem hr
          exact hT.out j r (by have := (List.getElem?_eq_some_iff.1 hj).1; have := HRL.out; omega) hj
        have KC := Lib.hid (concat_v W H g o n c us rs W0 (by have := HS0.out; omega) HN.out hn2 (fun j u hu => (HB0.out.cell (by exact hg)).trans (HC.out j u hu)) (HR.out.on HB0.out) hN2 HPOS.out)
        unfold cellErr at he
        obtain ⟨q, hq⟩ : ∃ q, largeErr rs.flatten.length rs.flatten = q := ⟨_, rfl⟩
        obtain ⟨m, hm⟩ : ∃ m, mapErr W H rs.flatten.length (rs.flatten.map smpOf) = m := ⟨_, rfl⟩
        rw [hq, hm] at he
        have hm1 : m = 0 → 1 ≤ rs.flatten.length := fun h0 => mapErr_pos (by rw [List.length_map]) (hm.trans h0)
        have HM := Lib.hid hm
        have HQ := Lib.hid hq
        have HM1 := Lib.hid hm1
        clear hq hm hm1
        have hcase : (q = 0 ∧ m = 0 ∧ asmErr W H rs = 0) ∨ (q = 0 ∧ m ≠ 0 ∧ asmErr W H rs = m) ∨ (q ≠ 0 ∧ asmErr W H rs = q) := by
          by_cases h0 : q = 0
          · rw [if_pos h0] at he
            by_cases h1 : m = 0
            · exact .inl ⟨h0, h1, by rw [he, h1]⟩
            · exact .inr (.inl ⟨h0, h1, he⟩)
          · rw [if_neg h0] at he
            exact .inr (.inr ⟨h0, he⟩)
        clear he
        rcases hcase with ⟨h0, h1, he⟩ | ⟨h0, h1, he⟩ | ⟨h0, he⟩
        · have HE := Lib.hid he
          have H1 := Lib.hid (HM1.out h1)
          subst h0
          subst h1
          clear he
          go_wp2_with fail
          refine KC.out.mono ?_
          rintro e w1 ⟨a1, n1, c1, rfl, hk1, hb1⟩
          have KM := Lib.hid (hk1 w1 (Below.refl _ _))
          have HB1 := Lib.hid hb1
          clear hk1 hb1
          go_wp2_with fail
          refine KM.out.mono ?_
          rintro e w2 ⟨X, Y, a2, n2, c2, rfl, hok, hb2⟩
          obtain ⟨rfl, rfl, hn2', hany, hres⟩ := hok HQ.out
          have HRES := Lib.hid (hres H1.out)
          rw [HQ.out]
          have KK : Hid (∀ w3, Below w2.heap.size w2 w3 → Calls Tryz.prog 134 #[.agg #[.int .i64 X, .int .i64 Y, .slice a2 n2 c2]] w3 fun e w' => e = .returned (.int .i64 0) ∧ Below w3.heap.size w3 w') := Lib.hid fun w3 hb3 => by
            have h := checkMap_map X Y a2 n2 c2 _ w3 (hany.below hb3 (Nat.le_refl _))
            have hh := HM.out
            rw [← hn2'] at hh
            rw [hh] at h
            exact h
          clear hok hn2' hany hres
          have hk2 : w2.heap[w.heap.size]? = some (.cells #[.int .i64 0, .int .i64 0, .slice none 0 0] 121 (0, 0)) := by
            have l0 := (Array.getElem?_eq_some_iff.1 HK0.out).1
            have e1 := (HB1.out.block w.heap.size l0).trans HK0.out
            exact (hb2.block w.heap.size (Array.getElem?_eq_some_iff.1 e1).1).trans e1
          have HB2 := Lib.hid (HB0.out.trans ((HB1.out.mono (by have := HS0.out; omega)).trans (hb2.mono (by have h1 := HB1.out.size; have := HS0.out; omega))))
          clear t0 t1 t2 f0 f1 f2 hb2
          have t0 : w2.cell? ⟨w.heap.size, 0, none⟩ = some (.int .i64 0) := by rw [cell_of_row w2 _ 0 _ _ (0, 0) hk2]; rfl
          have t1 : w2.cell? ⟨w.heap.size, 1, none⟩ = some (.int .i64 0) := by rw [cell_of_row w2 _ 1 _ _ (0, 0) hk2]; rfl
          have t2 : w2.cell? ⟨w.heap.size, 2, none⟩ = some (.slice none 0 0) := by rw [cell_of_row w2 _ 2 _ _ (0, 0) hk2]; rfl
          have f0 : w2.frozen? ⟨w.heap.size, 0, none⟩ = false := frozen_of_row w2 _ 0 _ _ hk2
          have f1 : w2.frozen? ⟨w.heap.size, 1, none⟩ = false := frozen_of_row w2 _ 1 _ _ hk2
          have f2 : w2.frozen? ⟨w.heap.size, 2, none⟩ = false := frozen_of_row w2 _ 2 _ _ hk2
          have hs2 : w.heap.size < w2.heap.size := (Array.getElem?_eq_some_iff.1 hk2).1
          have HK2 := Lib.hid hk2
          clear hk2
          go_wp2_with fail
          refine (KK.out _ ((Below.refl _ w2).alloc (Nat.le_refl _) _)).mono ?_
          rintro e w3 ⟨rfl, hb3⟩
          have hk3 : w3.heap[w.heap.size]? = some (.cells #[.int .i64 0, .int .i64 0, .slice none 0 0] 121 (0, 0)) := by
            have e1 := (Below.heap_alloc w2 (.cells #[.int .i64 X, .int .i64 Y, .slice a2 n2 c2] 121) w.heap.size hs2).trans HK2.out
            exact (hb3.block w.heap.size (Array.getElem?_eq_some_iff.1 e1).1).trans e1
          have hm3 : w3.heap[w2.heap.size]? = some (.cells #[.int .i64 X, .int .i64 Y, .slice a2 n2 c2] 121 (0, 0)) := (hb3.block _ (by simp)).trans (heap_alloc_new w2 _)
          have HB3 := Lib.hid ((HB2.out.alloc (by omega) _).trans (hb3.mono (by simp; omega)))
          have HB23 : Hid (Below w2.heap.size w2 w3) := Lib.hid (((Below.refl _ w2).alloc (Nat.le_refl _) _).trans (hb3.mono (by simp)))
          clear t0 t1 t2 f0 f1 f2 hb3
          have t0 : w3.cell? ⟨w.heap.size, 0, none⟩ = some (.int .i64 0) := by rw [cell_of_row w3 _ 0 _ _ (0, 0) hk3]; rfl
          have t1 : w3.cell? ⟨w.heap.size, 1, none⟩ = some (.int .i64 0) := by rw [cell_of_row w3 _ 1 _ _ (0, 0) hk3]; rfl
          have t2 : w3.cell? ⟨w.heap.size, 2, none⟩ = some (.slice none 0 0) := by rw [cell_of_row w3 _ 2 _ _ (0, 0) hk3]; rfl
          have f0 : w3.frozen? ⟨w.heap.size, 0, none⟩ = false := frozen_of_row w3 _ 0 _ _ hk3
          have f1 : w3.frozen? ⟨w.heap.size, 1, none⟩ = false := frozen_of_row w3 _ 1 _ _ hk3
          have f2 : w3.frozen? ⟨w.heap.size, 2, none⟩ = false := frozen_of_row w3 _ 2 _ _ hk3
          have r0 : w3.cell? ⟨w2.heap.size, 0, none⟩ = some (.int .i64 X) := by rw [cell_of_row w3 _ 0 _ _ (0, 0) hm3]; rfl
          have r1 : w3.cell? ⟨w2.heap.size, 1, none⟩ = some (.int .i64 Y) := by rw [cell_of_row w3 _ 1 _ _ (0, 0) hm3]; rfl
          have r2 : w3.cell? ⟨w2.heap.size, 2, none⟩ = some (.slice a2 n2 c2) := by rw [cell_of_row w3 _ 2 _ _ (0, 0) hm3]; rfl
          have HK3 := Lib.hid hk3
          clear hk3 hm3
          go_wp2
          have rR := res_end (x' := .int .i64 X) (y' := .int .i64 Y) (z' := .slice a2 n2 c2) HRES.out H1.out HK2.out rfl HB23.out
          have rF := blk_set3 HK3.out (.int .i64 X) (.int .i64 Y) (.slice a2 n2 c2)
          have bF := ((HB3.out.setCell (p := ⟨w.heap.size, 0, none⟩) (Nat.le_refl _) (.int .i64 X)).setCell (p := ⟨w.heap.size, 1, none⟩) (Nat.le_refl _) (.int .i64 Y)).setCell (p := ⟨w.heap.size, 2, none⟩) (Nat.le_refl _) (.slice a2 n2 c2)
          obtain ⟨WF, hWF⟩ : ∃ WF, ((w3.setCell ⟨w.heap.size, 0, none⟩ (.int .i64 X)).setCell ⟨w.heap.size, 1, none⟩ (.int .i64 Y)).setCell ⟨w.heap.size, 2, none⟩ (.slice a2 n2 c2) = WF := ⟨_, rfl⟩
          rw [hWF] at rF bF rR ⊢
          exact bodyPost_ret (v := .tuple #[.agg #[.int .i64 X, .int .i64 Y, .slice a2 n2 c2], .int .i64 0]) (results_row_tmp Tryz.results164 _ _ w.heap.size 121 _ (0, 0) _ rfl rF Tryz.underlying121 rfl (by kernel_rfl)) rfl (asm_ok HE.out rR bF)
        · have HE := Lib.hid he
          have H0 := Lib.hid h1
          have ev : (m == 0) = false := by simp [h1]
          have ev2 : (m != 0) = true := by simp [h1]
          subst h0
          clear h1 he
          go_wp2_with fail
          refine KC.out.mono ?_
          rintro e w1 ⟨a1, n1, c1, rfl, hk1, hb1⟩
          have KM := Lib.hid (hk1 w1 (Below.refl _ _))
          have HB1 := Lib.hid hb1
          clear hk1 hb1
          go_wp2_with fail
          refine KM.out.mono ?_
          rintro e w2 ⟨X, Y, a2, n2, c2, rfl, hok, hb2⟩
          obtain ⟨rfl, rfl, hn2', hany, -⟩ := hok HQ.out
          rw [HQ.out]
          have KK : Hid (∀ w3, Below w2.heap.size w2 w3 → Calls Tryz.prog 134 #[.agg #[.int .i64 X, .int .i64 Y, .slice a2 n2 c2]] w3 fun e w' => e = .returned (.int .i64 m) ∧ Below w3.heap.size w3 w') := Lib.hid fun w3 hb3 => by
            have h := checkMap_map X Y a2 n2 c2 _ w3 (hany.below hb3 (Nat.le_refl _))
            have hh := HM.out
            rw [← hn2'] at hh
            rw [hh] at h
            exact h
          clear hok hn2' hany
          have hk2 : w2.heap[w.heap.size]? = some (.cells #[.int .i64 0, .int .i64 0, .slice none 0 0] 121 (0, 0)) := by
            have l0 := (Array.getElem?_eq_some_iff.1 HK0.out).1
            have e1 := (HB1.out.block w.heap.size l0).trans HK0.out
            exact (hb2.block w.heap.size (Array.getElem?_eq_some_iff.1 e1).1).trans e1
          have HB2 := Lib.hid (HB0.out.trans ((HB1.out.mono (by have := HS0.out; omega)).trans (hb2.mono (by have h1 := HB1.out.size; have := HS0.out; omega))))
          clear t0 t1 t2 f0 f1 f2 hb2
          have t0 : w2.cell? ⟨w.heap.size, 0, none⟩ = some (.int .i64 0) := by rw [cell_of_row w2 _ 0 _ _ (0, 0) hk2]; rfl
          have t1 : w2.cell? ⟨w.heap.size, 1, none⟩ = some (.int .i64 0) := by rw [cell_of_row w2 _ 1 _ _ (0, 0) hk2]; rfl
          have t2 : w2.cell? ⟨w.heap.size, 2, none⟩ = some (.slice none 0 0) := by rw [cell_of_row w2 _ 2 _ _ (0, 0) hk2]; rfl
          have f0 : w2.frozen? ⟨w.heap.size, 0, none⟩ = false := frozen_of_row w2 _ 0 _ _ hk2
          have f1 : w2.frozen? ⟨w.heap.size, 1, none⟩ = false := frozen_of_row w2 _ 1 _ _ hk2
          have f2 : w2.frozen? ⟨w.heap.size, 2, none⟩ = false := frozen_of_row w2 _ 2 _ _ hk2
          have hs2 : w.heap.size < w2.heap.size := (Array.getElem?_eq_some_iff.1 hk2).1
          have HK2 := Lib.hid hk2
          clear hk2
          go_wp2_with fail
          refine (KK.out _ ((Below.refl _ w2).alloc (Nat.le_refl _) _)).mono ?_
          rintro e w3 ⟨rfl, hb3⟩
          have hk3 : w3.heap[w.heap.size]? = some (.cells #[.int .i64 0, .int .i64 0, .slice none 0 0] 121 (0, 0)) := by
            have e1 := (Below.heap_alloc w2 (.cells #[.int .i64 X, .int .i64 Y, .slice a2 n2 c2] 121) w.heap.size hs2).trans HK2.out
            exact (hb3.block w.heap.size (Array.getElem?_eq_some_iff.1 e1).1).trans e1
          have hm3 : w3.heap[w2.heap.size]? = some (.cells #[.int .i64 X, .int .i64 Y, .slice a2 n2 c2] 121 (0, 0)) := (hb3.block _ (by simp)).trans (heap_alloc_new w2 _)
          have HB3 := Lib.hid ((HB2.out.alloc (by omega) _).trans (hb3.mono (by simp; omega)))
          have HB23 : Hid (Below w2.heap.size w2 w3) := Lib.hid (((Below.refl _ w2).alloc (Nat.le_refl _) _).trans (hb3.mono (by simp)))
          clear t0 t1 t2 f0 f1 f2 hb3
          have t0 : w3.cell? ⟨w.heap.size, 0, none⟩ = some (.int .i64 0) := by rw [cell_of_row w3 _ 0 _ _ (0, 0) hk3]; rfl
          have t1 : w3.cell? ⟨w.heap.size, 1, none⟩ = some (.int .i64 0) := by rw [cell_of_row w3 _ 1 _ _ (0, 0) hk3]; rfl
          have t2 : w3.cell? ⟨w.heap.size, 2, none⟩ = some (.slice none 0 0) := by rw [cell_of_row w3 _ 2 _ _ (0, 0) hk3]; rfl
          have f0 : w3.frozen? ⟨w.heap.size, 0, none⟩ = false := frozen_of_row w3 _ 0 _ _ hk3
          have f1 : w3.frozen? ⟨w.heap.size, 1, none⟩ = false := frozen_of_row w3 _ 1 _ _ hk3
          have f2 : w3.frozen? ⟨w.heap.size, 2, none⟩ = false := frozen_of_row w3 _ 2 _ _ hk3
          have r0 : w3.cell? ⟨w2.heap.size, 0, none⟩ = some (.int .i64 X) := by rw [cell_of_row w3 _ 0 _ _ (0, 0) hm3]; rfl
          have r1 : w3.cell? ⟨w2.heap.size, 1, none⟩ = some (.int .i64 Y) := by rw [cell_of_row w3 _ 1 _ _ (0, 0) hm3]; rfl
          have r2 : w3.cell? ⟨w2.heap.size, 2, none⟩ = some (.slice a2 n2 c2) := by rw [cell_of_row w3 _ 2 _ _ (0, 0) hm3]; rfl
          have HK3 := Lib.hid hk3
          clear hk3 hm3
          go_wp2
          have rF := blk_set3 HK3.out (.int .i64 0) (.int .i64 0) (.slice none 0 0)
          have bF := ((HB3.out.setCell (p := ⟨w.heap.size, 0, none⟩) (Nat.le_refl _) (.int .i64 0)).setCell (p := ⟨w.heap.size, 1, none⟩) (Nat.le_refl _) (.int .i64 0)).setCell (p := ⟨w.heap.size, 2, none⟩) (Nat.le_refl _) (.slice none 0 0)
          obtain ⟨WF, hWF⟩ : ∃ WF, ((w3.setCell ⟨w.heap.size, 0, none⟩ (.int .i64 0)).setCell ⟨w.heap.size, 1, none⟩ (.int .i64 0)).setCell ⟨w.heap.size, 2, none⟩ (.slice none 0 0) = WF := ⟨_, rfl⟩
          rw [hWF] at rF bF ⊢
          exact bodyPost_ret (v := .tuple #[.agg #[.int .i64 0, .int .i64 0, .slice none 0 0], .int .i64 m]) (results_row_tmp Tryz.results164 _ _ w.heap.size 121 _ (0, 0) _ rfl rF Tryz.underlying121 rfl (by kernel_rfl)) rfl (asm_bad HE.out H0.out bF)
        · have HE := Lib.hid he
          have H0 := Lib.hid h0
          have ev : (q == 0) = false := by simp [h0]
          have ev2 : (q != 0) = true := by simp [h0]
          clear h0 he
          go_wp2_with fail
          refine KC.out.mono ?_
          rintro e w1 ⟨a1, n1, c1, rfl, hk1, hb1⟩
          have KM := Lib.hid (hk1 w1 (Below.refl _ _))
          have HB1 := Lib.hid hb1
          clear hk1 hb1
          go_wp2_with fail
          refine KM.out.mono ?_
          rintro e w2 ⟨X, Y, a2, n2, c2, rfl, -, hb2⟩
          rw [HQ.out]
          have hk2 : w2.heap[w.heap.size]? = some (.cells #[.int .i64 0, .int .i64 0, .slice none 0 0] 121 (0, 0)) := by
            have l0 := (Array.getElem?_eq_some_iff.1 HK0.out).1
            have e1 := (HB1.out.block w.heap.size l0).trans HK0.out
            exact (hb2.block w.heap.size (Array.getElem?_eq_some_iff.1 e1).1).trans e1
          have HB2 := Lib.hid (HB0.out.trans ((HB1.out.mono (by have := HS0.out; omega)).trans (hb2.mono (by have h1 := HB1.out.size; have := HS0.out; omega))))
          clear t0 t1 t2 f0 f1 f2 hb2
          have t0 : w2.cell? ⟨w.heap.size, 0, none⟩ = some (.int .i64 0) := by rw [cell_of_row w2 _ 0 _ _ (0, 0) hk2]; rfl
          have t1 : w2.cell? ⟨w.heap.size, 1, none⟩ = some (.int .i64 0) := by rw [cell_of_row w2 _ 1 _ _ (0, 0) hk2]; rfl
          have t2 : w2.cell? ⟨w.heap.size, 2, none⟩ = some (.slice none 0 0) := by rw [cell_of_row w2 _ 2 _ _ (0, 0) hk2]; rfl
          have f0 : w2.frozen? ⟨w.heap.size, 0, none⟩ = false := frozen_of_row w2 _ 0 _ _ hk2
          have f1 : w2.frozen? ⟨w.heap.size, 1, none⟩ = false := frozen_of_row w2 _ 1 _ _ hk2
          have f2 : w2.frozen? ⟨w.heap.size, 2, none⟩ = false := frozen_of_row w2 _ 2 _ _ hk2
          have hs2 : w.heap.size < w2.heap.size := (Array.getElem?_eq_some_iff.1 hk2).1
          have HK2 := Lib.hid hk2
          clear hk2
          go_wp2
          obtain ⟨rF, bF⟩ := asm_end (x' := .int .i64 0) (y' := .int .i64 0) (z' := .slice none 0 0) HK2.out HB2.out (.cells #[.int .i64 X, .int .i64 Y, .slice a2 n2 c2] 121)
          obtain ⟨WF, hWF⟩ : ∃ WF, ((((w2.setCell ⟨w.heap.size, 0, none⟩ (.int .i64 0)).setCell ⟨w.heap.size, 1, none⟩ (.int .i64 0)).setCell ⟨w.heap.size, 2, none⟩ (.slice none 0 0)).alloc (.cells #[.int .i64 X, .int .i64 Y, .slice a2 n2 c2] 121)) = WF := ⟨_, rfl⟩
          rw [hWF] at rF bF ⊢
          exact bodyPost_ret (v := .tuple #[.agg #[.int .i64 0, .int .i64 0, .slice none 0 0], .int .i64 q]) (results_row_tmp Tryz.results164 _ _ w.heap.size 121 _ (0, 0) _ rfl rF Tryz.underlying121 rfl (by kernel_rfl)) rfl (asm_bad HE.out H0.out bF)
  · have he : asmErr W H rs = 2 := by unfold asmErr; rw [if_neg (fun h => hnb (by rw [← hrl]; exact h.1))]
    have HE := Lib.hid he
    have e1 : ((n : Int) != H) = true := by simp [hnb]
    clear hnb he hrl hrow hcell
    go_enter Tryz.func164, Tryz.ntmps164
    go_wp2
    refine bodyPost_ret (v := .tuple #[.agg #[.int .i64 0, .int .i64 0, .slice none 0 0], .int .i64 2]) (by simp [results, Tryz.results164, go_sem]) rfl (asm_bad HE.out (by decide) ?_)
    exact (Below.refl _ w).alloc (Nat.le_refl _) _
end Go.Proofs.YtpmjiifdnnhecaaGreatDoor
