/-
  Texts: Print of a map with an error; Parse of a text that is too long, on both sides.
-/
import Derived.Test.YtfdkmmllemkogaaGreatDoorOcTa
import Derived.Test.YtfdkmmllemkogaaGreatDoorOcSy
import Derived.Deep.CutBlock
import Derived.Deep.DeepCutAuto
import Derived.Test.YtfdkmmllemkogaaGreatDoorOcBp
import Derived.Test.YtfdkmmllemkogaaGreatDoorOVk
import Derived.Test.YtfdkmmllemkogaaGreatDoorOBd
import Derived.Shelf.Vars
namespace Go.Proofs.YtfdkmmllemkogaaGreatDoor
open Go.RowKit
set_option linter.unusedVariables false
set_option linter.unusedSimpArgs false

set_option maxRecDepth 100000 in
set_option maxHeartbeats 3200000 in
theorem print_bad (W H : Int) (a : Option Addr) (n c : Nat) (r : Int) (hr0 : r ≠ 0) (w : World)
    (hC : ∀ w1 : World, Below w.heap.size w w1 → Calls Tryz.prog 47 #[.agg #[.int .i64 W, .int .i64 H, .slice a n c]] w1 fun e w' => e = .returned (.int .i64 r) ∧ Below w1.heap.size w1 w') :
    Calls Tryz.prog 92 #[.agg #[.int .i64 W, .int .i64 H, .slice a n c]] w fun e w' => e = .returned (.tuple #[.string ⟨#[]⟩, .int .i64 r]) ∧ Below w.heap.size w w' := by
  have hB0 : Below w.heap.size w (w.alloc (.cells #[.int .i64 W, .int .i64 H, .slice a n c] 54)) := (Below.refl _ w).alloc (Nat.le_refl _) _
  have K := Lib.hid (hC _ hB0)
  have HB0 := Lib.hid hB0
  have e0 : (r != 0) = true := by simp [hr0]
  clear hr0 hC hB0
  go_enter Tryz.func92, Tryz.ntmps92
  go_wp2_with fail
  refine K.out.mono ?_
  rintro e w1 ⟨rfl, hb1⟩
  have HB1 := Lib.hid (HB0.out.trans (hb1.mono HB0.out.size))
  clear hb1
  go_wp2
  go_ret2
  exact ⟨rfl, HB1.out⟩

set_option maxRecDepth 100000 in
set_option maxHeartbeats 3200000 in
theorem readLines_long (s : ByteArray) (most : Int) (f : Value) (w : World) (h : most < (s.size : Int)) :
    Calls Tryz.prog 187 #[.string s, .int .i64 most, f] w fun e w' => e = .returned (.tuple #[.int .i64 0, .int .i64 26]) ∧ w = w' := by
  go_enter Tryz.func187, Tryz.ntmps187
  go_wp2
  go_ret2
  exact ⟨rfl, rfl⟩

set_option maxRecDepth 100000 in
set_option maxHeartbeats 6400000 in
theorem parse_long (s : ByteArray) (w : World) (h : (1000000 : Int) < (s.size : Int)) :
    Calls Tryz.prog 93 #[.string s] w fun e w' => e = .returned (.tuple #[.agg #[.int .i64 0, .int .i64 0, .slice none 0 0], .int .i64 0, .int .i64 26]) ∧ Below w.heap.size w w' := by
  have KF : Hid (∀ W, Calls Tryz.prog 186 #[] W fun e w' => e = .returned (.map (some W.heap.size)) ∧ w'.heap[W.heap.size]? = some (.map formsE 2) ∧ Below W.heap.size W w') := Lib.hid fun W => lineForms_any W
  have KR : Hid (∀ f W, Calls Tryz.prog 187 #[.string s, .int .i64 1000000, f] W fun e w' => e = .returned (.tuple #[.int .i64 0, .int .i64 26]) ∧ W = w') := Lib.hid fun f W => readLines_long s 1000000 f W h
  obtain ⟨Wa, hWa⟩ : ∃ Wa, w.alloc (.cells #[.int .i64 0, .int .i64 0, .slice none 0 0] 54) = Wa := ⟨_, rfl⟩
  have hBa : Below w.heap.size w Wa := by rw [← hWa]; exact (Below.refl _ w).alloc (Nat.le_refl _) _
  have hka : Wa.heap[w.heap.size]? = some (.cells #[.int .i64 0, .int .i64 0, .slice none 0 0] 54 (0, 0)) := by rw [← hWa]; exact heap_alloc_new w _
  have HBA := Lib.hid hBa
  have HKA := Lib.hid hka
  clear hBa hka h
  go_enter Tryz.func93, Tryz.ntmps93
  go_wp2_with fail
  try rw [hWa]
  refine (KF.out _).mono ?_
  rintro e w1 ⟨rfl, -, hb1⟩
  have hk1 := (hb1.block _ (Array.getElem?_eq_some_iff.1 HKA.out).1).trans HKA.out
  have hl1 := (Array.getElem?_eq_some_iff.1 hk1).1
  have HB1 := Lib.hid (HBA.out.trans (hb1.mono HBA.out.size))
  obtain ⟨W2, hW2⟩ : ∃ W2, ((w1.alloc (.cells #[.map (some Wa.heap.size)] 245)).alloc (.cells #[.slice none 0 0] 247)).alloc (.cells #[.string ⟨#[109, 97, 112]⟩] 9) = W2 := ⟨_, rfl⟩
  have hB2 : Below w1.heap.size w1 W2 := by rw [← hW2]; exact (((Below.refl _ w1).alloc (Nat.le_refl _) _).alloc (by simp) _).alloc (by simp; omega) _
  have hk2 := (hB2.block _ hl1).trans hk1
  have HB2 := Lib.hid (HB1.out.trans (hB2.mono (by omega)))
  have HK2 := Lib.hid hk2
  have t0 : W2.cell? ⟨w.heap.size, 0, none⟩ = some (.int .i64 0) := by rw [cell_of_row W2 _ 0 _ _ (0, 0) hk2]; rfl
  have t1 : W2.cell? ⟨w.heap.size, 1, none⟩ = some (.int .i64 0) := by rw [cell_of_row W2 _ 1 _ _ (0, 0) hk2]; rfl
  have t2 : W2.cell? ⟨w.heap.size, 2, none⟩ = some (.slice none 0 0) := by rw [cell_of_row W2 _ 2 _ _ (0, 0) hk2]; rfl
  have f0 : W2.frozen? ⟨w.heap.size, 0, none⟩ = false := frozen_of_row W2 _ 0 _ _ hk2
  have f1 : W2.frozen? ⟨w.heap.size, 1, none⟩ = false := frozen_of_row W2 _ 1 _ _ hk2
  have f2 : W2.frozen? ⟨w.heap.size, 2, none⟩ = false := frozen_of_row W2 _ 2 _ _ hk2
  have hs3 : w.heap.size < W2.heap.size := (Array.getElem?_eq_some_iff.1 hk2).1
  clear hb1 hk1 hl1 hB2 hk2 hWa
  go_wp2_with fail
  try rw [hW2]
  clear hW2
  refine (KR.out _ _).mono ?_
  rintro e w3 ⟨rfl, rfl⟩
  go_wp2_with fail
  refine (cwhen_any true 25 _).mono ?_
  rintro e w3 ⟨rfl, rfl⟩
  rw [if_pos rfl]
  go_wp2_with fail
  refine (first_two 26 25 _ _).mono ?_
  rintro e w4 ⟨rfl, rfl⟩
  have e25 : firstNZ [26, 25] = 26 := by decide
  rw [e25]
  clear e25
  go_wp2
  obtain ⟨rF, bF⟩ := asm_end (x' := .int .i64 0) (y' := .int .i64 0) (z' := .slice none 0 0) HK2.out HB2.out (.cells #[.int .i64 26, .int .i64 25] 26)
  obtain ⟨WF, hWF⟩ : ∃ WF, ((((W2.setCell ⟨w.heap.size, 0, none⟩ (.int .i64 0)).setCell ⟨w.heap.size, 1, none⟩ (.int .i64 0)).setCell ⟨w.heap.size, 2, none⟩ (.slice none 0 0)).alloc (.cells #[.int .i64 26, .int .i64 25] 26)) = WF := ⟨_, rfl⟩
  rw [hWF] at rF bF ⊢
  exact bodyPost_ret (v := .tuple #[.agg #[.int .i64 0, .int .i64 0, .slice none 0 0], .int .i64 0, .int .i64 26]) (results_row_tmp2 Tryz.results93 _ _ w.heap.size 54 _ (0, 0) _ rfl rF Tryz.underlying54 rfl (by kernel_rfl)) rfl ⟨rfl, bF⟩

set_option maxRecDepth 100000 in
set_option maxHeartbeats 3200000 in
theorem refParse_long (s : ByteArray) (w : World) (h : (1000000 : Int) < (s.size : Int)) :
    Calls Tryz.prog 95 #[.string s] w fun e w' => e = .returned (.tuple #[.agg #[.int .i64 0, .int .i64 0, .slice none 0 0], .int .i64 0, .int .i64 26]) ∧ Below w.heap.size w w' := by
  go_enter Tryz.func95, Tryz.ntmps95
  go_wp2
  refine bodyPost_ret (v := .tuple #[.agg #[.int .i64 0, .int .i64 0, .slice none 0 0], .int .i64 0, .int .i64 26]) (by simp [results, Tryz.results95, go_sem]) rfl ⟨rfl, ?_⟩
  exact (Below.refl _ w).alloc (Nat.le_refl _) _
end Go.Proofs.YtfdkmmllemkogaaGreatDoor

/-
  The walk of LightTexts.
-/
namespace Go.Proofs.YtfdkmmllemkogaaGreatDoor
open Go.RowKit
set_option linter.unusedVariables false
set_option linter.unusedSimpArgs false

theorem row3 {w : World} {B : Nat} {T : TypeId} {x y z : Value} (h : w.heap[B]? = some (.cells #[x, y, z] T (0, 0))) :
    w.cell? ⟨B, 0, none⟩ = some x ∧ w.cell? ⟨B, 1, none⟩ = some y ∧ w.cell? ⟨B, 2, none⟩ = some z :=
  ⟨by rw [cell_of_row w _ 0 _ _ (0, 0) h]; rfl, by rw [cell_of_row w _ 1 _ _ (0, 0) h]; rfl, by rw [cell_of_row w _ 2 _ _ (0, 0) h]; rfl⟩
theorem blk_on {w w' : World} {B : Nat} {o : Obj} (h : w.heap[B]? = some o) (hb : Below w.heap.size w w') : w'.heap[B]? = some o := (hb.block _ (Array.getElem?_eq_some_iff.1 h).1).trans h
/-- What a parser answers, with what its results are. -/
def PostQ (Q : Int → Int → Int → Int → List Int → Prop) (w : World) (e : Ending) (w' : World) : Prop :=
  ∃ X Y a n c idx err W H ls, e = .returned (.tuple #[.agg #[.int .i64 X, .int .i64 Y, .slice a n c], .int .i64 idx, .int .i64 err]) ∧ Q idx err W H ls ∧ ResV w' err W H ls X Y a n c ∧ Below w.heap.size w w'
/-- The text of a map, where it has no error. -/
noncomputable def printP (W H : Int) (n : Nat) (xs : List Nat) : ByteArray := if mapErr W H n xs = 0 then strB (textL W.toNat H.toNat (xs.map kOf)) else ⟨#[]⟩
theorem print_all (W H : Int) (a : Option Addr) (n c : Nat) (xs : List Nat) (w : World) (h : AnyMap w a n c xs) (ht : TabAt w) :
    Calls Tryz.prog 92 #[.agg #[.int .i64 W, .int .i64 H, .slice a n c]] w fun e w' => e = .returned (.tuple #[.string (printP W H n xs), .int .i64 (mapErr W H n xs)]) ∧ Below w.heap.size w w' := by
  unfold printP
  by_cases h0 : mapErr W H n xs = 0
  · rw [if_pos h0, h0]
    obtain ⟨b, o, rfl, hb, hr⟩ := h.rightK h0
    obtain ⟨Wn, rfl⟩ : ∃ k : Nat, W = k := ⟨W.toNat, by have := hr.wid; omega⟩
    obtain ⟨Hn, rfl⟩ : ∃ k : Nat, H = k := ⟨H.toNat, by have := hr.hei; omega⟩
    exact print_any Wn Hn b o c n xs _ w hr hb ht
  · rw [if_neg h0]
    exact print_bad W H a n c _ h0 w (fun w1 hb => checkMap_map W H a n c xs w1 (h.below hb (Nat.le_refl _)))
theorem refPrint_all (W H : Int) (a : Option Addr) (n c : Nat) (xs : List Nat) (w : World) (h : AnyMap w a n c xs) (h0 : mapErr W H n xs = 0) :
    Calls Tryz.prog 94 #[.agg #[.int .i64 W, .int .i64 H, .slice a n c]] w fun e w' => e = .returned (.string (printP W H n xs)) ∧ Below w.heap.size w w' := by
  unfold printP
  rw [if_pos h0]
  obtain ⟨b, o, rfl, hb, hr⟩ := h.rightK h0
  obtain ⟨Wn, rfl⟩ : ∃ k : Nat, W = k := ⟨W.toNat, by have := hr.wid; omega⟩
  obtain ⟨Hn, rfl⟩ : ∃ k : Nat, H = k := ⟨H.toNat, by have := hr.hei; omega⟩
  exact refPrint_any Wn Hn b o n c xs _ w hr hb
theorem parse_q (s : ByteArray) (w : World) (hs : s.size ≤ 400 ∨ s.size = 1000001) (hm : MaxAt w) : ∃ Q : Int → Int → Int → Int → List Int → Prop,
    (∀ {i e W H i' e' W' H' : Int} {ls ls' : List Int}, Q i e W H ls → Q i' e' W' H' ls' → i = i' ∧ e = e' ∧ (e = 0 → W = W' ∧ H = H' ∧ ls = ls')) ∧
    (∀ w1, Below w.heap.size w w1 → Calls Tryz.prog 93 #[.string s] w1 (PostQ Q w1)) ∧
    (∀ w1, Calls Tryz.prog 95 #[.string s] w1 (PostQ Q w1)) := by
  rcases hs with hs | hs
  · refine ⟨ParseR (linesL s), fun h h' => parseR_fun h h', fun w1 hb => ?_, fun w1 => ?_⟩
    · exact parse_any s w1 (by omega) (hm.on hb)
    · exact refParse_any s w1 (by omega)
  · refine ⟨fun i e W H ls => i = 0 ∧ e = 26, fun h h' => ⟨h.1.trans h'.1.symm, h.2.trans h'.2.symm, fun h0 => by rw [h.2] at h0; cases h0⟩, fun w1 hb => ?_, fun w1 => ?_⟩
    · exact (parse_long s w1 (by omega)).mono fun e w' ⟨he, hb⟩ => ⟨0, 0, none, 0, 0, 0, 26, 0, 0, [], he, ⟨rfl, rfl⟩, ResV.none _ _ _ _ _ (by decide), hb⟩
    · exact (refParse_long s w1 (by omega)).mono fun e w' ⟨he, hb⟩ => ⟨0, 0, none, 0, 0, 0, 26, 0, 0, [], he, ⟨rfl, rfl⟩, ResV.none _ _ _ _ _ (by decide), hb⟩

set_option maxRecDepth 100000 in
set_option maxHeartbeats 12800000 in
theorem texts_walk (w : World) (W H : Int) (a : Option Addr) (n c : Nat) (xs : List Nat) (hM : AnyMap w a n c xs) (hs : n ≤ 160 ∨ n = 4097) (s : ByteArray) (hn : s.size ≤ 400 ∨ s.size = 1000001) (ht : TabAt w) (hx : MaxAt w) :
    Calls Tryz.prog 12 #[.agg #[.int .i64 W, .int .i64 H, .slice a n c], .string s] w (TruePost w) := by
  obtain ⟨Q, hQ, kU, kV⟩ := parse_q s w hn hx
  have KU := Lib.hid kU
  have KV := Lib.hid kV
  have HQ : Hid (∀ {i e W H i' e' W' H' : Int} {ls ls' : List Int}, Q i e W H ls → Q i' e' W' H' ls' → i = i' ∧ e = e' ∧ (e = 0 → W = W' ∧ H = H' ∧ ls = ls')) := Lib.hid hQ
  have HM := Lib.hid hM
  have KW : Hid (∀ w1 : World, Below w.heap.size w w1 → Calls Tryz.prog 19 #[] w1 fun e w' => e = .returned (.bool true) ∧ Below w.heap.size w w') :=
    Lib.hid fun w1 h => (awake_any w1 (ht.on h)).mono fun e w' ⟨he, hb⟩ => ⟨he, h.trans (hb.mono h.size)⟩
  have hsb : (decide (n ≤ 160) || decide (n = 4097)) = true := by simp; exact hs
  have hn1 : n ≤ 100000 := by omega
  have KS : Hid (∀ w1 : World, Calls Tryz.prog 36 #[.agg #[.int .i64 W, .int .i64 H, .slice a n c]] w1 fun e w' => e = .returned (.bool true) ∧ Below w1.heap.size w1 w') := Lib.hid fun w1 => by
    have h := shortMap_all W H a n c w1
    rw [hsb] at h
    exact h
  obtain ⟨r, hr⟩ : ∃ r, mapErr W H n xs = r := ⟨_, rfl⟩
  obtain ⟨P, hP⟩ : ∃ P, printP W H n xs = P := ⟨_, rfl⟩
  have KO : Hid (∀ w1 : World, Below w.heap.size w w1 → Calls Tryz.prog 38 #[.agg #[.int .i64 W, .int .i64 H, .slice a n c]] w1 fun e w' =>
      ∃ g c', e = .returned (.agg #[.int .i64 W, .int .i64 H, .slice (some ⟨g, 0, none⟩) n c']) ∧ AnyMap w' (some ⟨g, 0, none⟩) n c' xs ∧ Below w1.heap.size w1 w') := Lib.hid fun w1 h =>
    (lawOwn_all W H a n c xs hn1 (hM.below h (Nat.le_refl _))).mono fun e w' h1 => h1.map hM.len hM.words
  have KP : Hid (∀ (w1 : World) (g c' : Nat), Below w.heap.size w w1 → AnyMap w1 (some ⟨g, 0, none⟩) n c' xs → Calls Tryz.prog 92 #[.agg #[.int .i64 W, .int .i64 H, .slice (some ⟨g, 0, none⟩) n c']] w1 fun e w' =>
      e = .returned (.tuple #[.string P, .int .i64 r]) ∧ Below w1.heap.size w1 w') := Lib.hid fun w1 g c' hb h => by
    have k := print_all W H (some ⟨g, 0, none⟩) n c' xs w1 h (ht.on hb)
    rw [hr, hP] at k
    exact k
  have KC : Hid (∀ w1 : World, Below w.heap.size w w1 → Calls Tryz.prog 41 #[.agg #[.int .i64 W, .int .i64 H, .slice a n c]] w1 fun e w' => e = .returned (.int .i64 r) ∧ Below w1.heap.size w1 w') := Lib.hid fun w1 h => by
    have k := refCheckMap_map W H a n c xs w1 (hM.below h (Nat.le_refl _))
    rw [hr] at k
    exact k
  have KX : Hid (r = 0 → ∀ w1 : World, Below w.heap.size w w1 → Calls Tryz.prog 94 #[.agg #[.int .i64 W, .int .i64 H, .slice a n c]] w1 fun e w' =>
      e = .returned (.string P) ∧ Below w1.heap.size w1 w') := Lib.hid fun h0 w1 h => by
    have k := refPrint_all W H a n c xs w1 (hM.below h (Nat.le_refl _)) (hr.trans h0)
    rw [hP] at k
    exact k
  have KY : Hid (r ≠ 0 → P = ⟨#[]⟩) := Lib.hid fun h => by rw [← hP]; unfold printP; rw [if_neg (by rw [hr]; exact h)]
  have hg : (¬ ((400 : Int) < (s.size : Int))) ∨ ((400 : Int) < (s.size : Int) ∧ ((s.size : Int) != 1000001) = false) := by
    rcases hn with h | h
    · exact .inl (by omega)
    · exact .inr ⟨by omega, by simp; omega⟩
  obtain ⟨W0, hW0⟩ : ∃ W0, w.alloc (.cells #[.int .i64 W, .int .i64 H, .slice a n c] 48) = W0 := ⟨_, rfl⟩
  have hB0 : Below w.heap.size w W0 := by rw [← hW0]; exact (Below.refl _ w).alloc (Nat.le_refl _) _
  have hk0 : W0.heap[w.heap.size]? = some (.cells #[.int .i64 W, .int .i64 H, .slice a n c] 48 (0, 0)) := by rw [← hW0]; exact heap_alloc_new w _
  obtain ⟨z0, z1, z2⟩ := row3 hk0
  have HK0 := Lib.hid hk0
  have HB0 := Lib.hid hB0
  clear kU kV hQ hM ht hx hsb hr hP hn hs hB0 hk0
  go_enter Tryz.func12, Tryz.ntmps12
  go_upto_region 1 with fail
  try rw [hW0]
  clear hW0
  rcases hg with g1 | ⟨g1, g2⟩
  all_goals
    go_upto_region 4 with (first
      | (go_at_call 36; with_reducible refine (KS.out _).mono ?_; rintro e w1 ⟨rfl, hb1⟩;
         have HK1 := Lib.hid (blk_on HK0.out hb1); have HB1 := Lib.hid (HB0.out.trans (hb1.mono HB0.out.size)); clear hb1;
         obtain ⟨y0, y1, y2⟩ := row3 HK1.out)
      | (go_at_call 38; with_reducible refine (KO.out _ HB1.out).mono ?_; rintro e w2 ⟨g, c', rfl, hm2, hb2⟩;
         have HK2 := Lib.hid (blk_on HK1.out hb2); have HB2 := Lib.hid (HB1.out.trans (hb2.mono HB1.out.size)); have HM2 := Lib.hid hm2; clear hb2 hm2)
      | (go_at_call 92; with_reducible refine (KP.out _ _ _ HB2.out HM2.out).mono ?_; rintro e w3 ⟨rfl, hb3⟩;
         have HK3 := Lib.hid (blk_on HK2.out hb3); have HB3 := Lib.hid (HB2.out.trans (hb3.mono HB2.out.size)); clear hb3))
    clear HK0 HB0 HK1 HB1 HK2 HB2 HM2 KS KO KP z0 z1 z2 y0 y1 y2
    go_wp2_with fail
    refine (KU.out _ HB3.out).mono ?_
    rintro e w4 ⟨X, Y, a2, n2, c2, idx, err, UW, UH, ls, rfl, hq, hres, hb4⟩
    have HK4 := Lib.hid (blk_on HK3.out hb4)
    have HB4 := Lib.hid (HB3.out.trans (hb4.mono HB3.out.size))
    have HR4 := Lib.hid hres
    have HQ4 := Lib.hid hq
    obtain ⟨y0, y1, y2⟩ := row3 HK4.out
    have l4 := (Array.getElem?_eq_some_iff.1 HK4.out).1
    clear hb4 hres hq HK3 HB3 KU
    go_upto_if 44 with (go_at_call 41; refine (KC.out _ (HB4.out.alloc HB4.out.size _)).mono ?_; rintro e w6 ⟨rfl, hb6⟩)
    have hba : Below w4.heap.size w4 (w4.alloc (.cells #[.int .i64 X, .int .i64 Y, .slice a2 n2 c2] 54)) := (Below.refl _ w4).alloc (Nat.le_refl _) _
    have HK6 := Lib.hid (blk_on (blk_on HK4.out hba) hb6)
    have HM6 := Lib.hid (blk_on (heap_alloc_new w4 _) hb6)
    have HB6 := Lib.hid ((HB4.out.alloc HB4.out.size (.cells #[.int .i64 X, .int .i64 Y, .slice a2 n2 c2] 54)).trans (hb6.mono (by have := HB4.out.size; simp; omega)))
    have HR6 := Lib.hid ((HR4.out.kept hba).kept hb6)
    obtain ⟨v0, v1, v2⟩ := row3 HK6.out
    clear hb6 hba HK4 HB4 HR4 KC y0 y1 y2
    go_cut [11] (fun s11 wc => s11 = .string P ∧ ∃ W9, W9 = wc ∧ Below w6.heap.size w6 W9)
    case first =>
      by_cases h0 : r = 0
      · have KX0 := Lib.hid (KX.out h0)
        have e0 : (r == 0) = true := by simp [h0]
        clear h0
        go_wp2_with (go_at_call 94; with_reducible refine (KX0.out _ HB6.out).mono ?_; rintro e w9 ⟨rfl, hb9⟩)
        go_meet
        exact ⟨rfl, _, rfl, hb9⟩
      · have e0 : (r == 0) = false := by simp [h0]
        have HPE := Lib.hid (KY.out h0)
        clear h0
        go_wp2_with fail
        go_meet
        exact ⟨by rw [HPE.out], _, rfl, Below.refl _ _⟩
    case rest =>
      rename_i hK
      obtain ⟨rfl, W9, rfl, hb9⟩ := hcut
      have HK9 := Lib.hid (blk_on HM6.out hb9)
      have HB9 := Lib.hid (HB6.out.trans (hb9.mono HB6.out.size))
      have HR9 := Lib.hid (HR6.out.kept hb9)
      refine hK _ _ ?_
      clear hK hb9 HK6 HM6 HB6 HR6 KX KY v0 v1 v2
      go_wp2_with fail
      refine (KV.out _).mono ?_
      rintro e w11 ⟨X', Y', a5, n5, c5, idx', err', UW', UH', ls', rfl, hq', hres', hb11⟩
      obtain ⟨rfl, rfl, heq⟩ := HQ.out HQ4.out hq'
      have hba : Below w11.heap.size w11 (w11.alloc (.cells #[.int .i64 X', .int .i64 Y', .slice a5 n5 c5] 48)) := (Below.refl _ w11).alloc (Nat.le_refl _) _
      have HK12 := Lib.hid (blk_on (blk_on HK9.out hb11) hba)
      have HN12 := Lib.hid (heap_alloc_new w11 (.cells #[.int .i64 X', .int .i64 Y', .slice a5 n5 c5] 48))
      have HB11 := Lib.hid (HB9.out.trans (hb11.mono HB9.out.size))
      have HB12 := Lib.hid (HB11.out.trans (hba.mono HB11.out.size))
      obtain ⟨W12, hW12⟩ : ∃ W12, w11.alloc (.cells #[.int .i64 X', .int .i64 Y', .slice a5 n5 c5] 48) = W12 := ⟨_, rfl⟩
      have KONE := Lib.hid (one_res err UW UH ls X Y X' Y' a2 a5 n2 c2 n5 c5 W12 (by rw [← hW12]; exact (HR9.out.kept hb11).kept hba) (fun h0 => by
        obtain ⟨e1, e2, e3⟩ := heq h0
        subst e1; subst e2; subst e3
        rw [← hW12]; exact hres'.kept hba))
      have hN12 := HN12.out
      have hK12 := HK12.out
      have hB12 := HB12.out
      rw [hW12] at hN12 hK12 hB12
      obtain ⟨b0, b1, b2⟩ := row3 hN12
      obtain ⟨d0, d1, d2⟩ := row3 hK12
      have es : (P.toList == P.toList) = true := by simp
      have er : (r == r) = true := by simp
      have ei : (idx == idx) = true := by simp
      have HBF := Lib.hid hB12
      clear hb11 hres' heq hq' hba hN12 hK12 hB12 HK9 HB9 HR9 HK12 HN12 HB11 HB12 HQ4 KV
      go_upto_region 9 with fail
      try rw [hW12]
      clear hW12
      go_wp2_with (first
        | (go_at_call 55; with_reducible refine KONE.out.mono ?_; rintro e w14 ⟨rfl, hb14⟩;
           have K14 := Lib.hid (HBF.out.trans (hb14.mono HBF.out.size)); clear hb14)
        | (go_at_call 19; with_reducible refine (KW.out _ K14.out).mono ?_; rintro e w16 ⟨rfl, hb16⟩))
      go_ret
      exact ⟨rfl, hb16⟩
end Go.Proofs.YtfdkmmllemkogaaGreatDoor

/-
  LightTexts returns true for all arguments.
-/

namespace Go.Proofs.YtfdkmmllemkogaaGreatDoor
open Go.RowKit
set_option linter.unusedVariables false
set_option maxRecDepth 100000

set_option maxHeartbeats 3200000 in
theorem texts_all (w : World) (W H : Int) (a : Option Addr) (n c : Nat) (xs : List Nat) (s : ByteArray) (ht : TabAt w) (hx : MaxAt w) (hM : AnyMap w a n c xs) (hsz : s.size ≤ 9223372036854775807) :
    Calls Tryz.prog 12 #[.agg #[.int .i64 W, .int .i64 H, .slice a n c], .string s] w (TruePost w) := by
  by_cases hs : n ≤ 160 ∨ n = 4097
  · by_cases hn : s.size ≤ 400 ∨ s.size = 1000001
    · exact texts_walk w W H a n c xs hM hs s hn ht hx
    · have KW : Hid (∀ w1 : World, Below w.heap.size w w1 → Calls Tryz.prog 19 #[] w1 fun e w' => e = .returned (.bool true) ∧ Below w.heap.size w w') :=
        Lib.hid fun w1 h => (awake_any w1 (ht.on h)).mono fun e w' ⟨he, hb⟩ => ⟨he, h.trans (hb.mono h.size)⟩
      have hsb : (decide (n ≤ 160) || decide (n = 4097)) = true := by simp; exact hs
      have KS : Hid (∀ w1 : World, Calls Tryz.prog 36 #[.agg #[.int .i64 W, .int .i64 H, .slice a n c]] w1 fun e w' => e = .returned (.bool true) ∧ Below w1.heap.size w1 w') := Lib.hid fun w1 => by
        have h := shortMap_all W H a n c w1
        rw [hsb] at h
        exact h
      have g1 : (400 : Int) < (s.size : Int) := by omega
      have g2 : ((s.size : Int) != 1000001) = true := by simp; omega
      have hB0 : Below w.heap.size w (w.alloc (.cells #[.int .i64 W, .int .i64 H, .slice a n c] 48)) := (Below.refl _ w).alloc (Nat.le_refl _) _
      have HB0 := Lib.hid hB0
      clear hB0 hsb hs hn hM ht hx
      go_enter Tryz.func12, Tryz.ntmps12
      go_wp2_with (first
        | (go_at_call 36; refine (KS.out _).mono ?_; rintro e w1 ⟨rfl, hb1⟩; have HB1 := Lib.hid (HB0.out.trans (hb1.mono HB0.out.size)); clear hb1)
        | (go_at_call 19; refine (KW.out _ HB1.out).mono ?_; rintro e w2 ⟨rfl, hb2⟩))
      go_ret
      exact ⟨rfl, hb2⟩
  · have KW : Hid (∀ w1 : World, Below w.heap.size w w1 → Calls Tryz.prog 19 #[] w1 fun e w' => e = .returned (.bool true) ∧ Below w.heap.size w w') :=
      Lib.hid fun w1 h => (awake_any w1 (ht.on h)).mono fun e w' ⟨he, hb⟩ => ⟨he, h.trans (hb.mono h.size)⟩
    have hsb : (decide (n ≤ 160) || decide (n = 4097)) = false := by simp; omega
    have KS : Hid (∀ w1 : World, Calls Tryz.prog 36 #[.agg #[.int .i64 W, .int .i64 H, .slice a n c]] w1 fun e w' => e = .returned (.bool false) ∧ Below w1.heap.size w1 w') := Lib.hid fun w1 => by
      have h := shortMap_all W H a n c w1
      rw [hsb] at h
      exact h
    have hB0 : Below w.heap.size w (w.alloc (.cells #[.int .i64 W, .int .i64 H, .slice a n c] 48)) := (Below.refl _ w).alloc (Nat.le_refl _) _
    have HB0 := Lib.hid hB0
    clear hB0 hsb hs hM ht hx
    go_enter Tryz.func12, Tryz.ntmps12
    go_wp2_with (first
      | (go_at_call 36; refine (KS.out _).mono ?_; rintro e w1 ⟨rfl, hb1⟩; have HB1 := Lib.hid (HB0.out.trans (hb1.mono HB0.out.size)); clear hb1)
      | (go_at_call 19; refine (KW.out _ HB1.out).mono ?_; rintro e w2 ⟨rfl, hb2⟩))
    go_ret
    exact ⟨rfl, hb2⟩
end Go.Proofs.YtfdkmmllemkogaaGreatDoor

/-
  What the row of a text gives: the tables by its list, the library's bound by the world's shape; a world for the witness.
-/
namespace Go.Proofs.YtfdkmmllemkogaaGreatDoor
open Go.ChangeShapes Go.WideShapes Go.ChangeAt Go.RowKit Go.Joins Go.Deep
set_option linter.unusedVariables false

def laidList7 : List (String × DataW Unit) := Rows.lightTextsRow.laid
set_option maxRecDepth 100000 in
theorem tabAt_of7 {W : World} (h : laidMetH Tryz.prog laidList7 W) : TabAt W := by
  have h2 := h.filter (fun x => x.1 == "internal/strconv.uint64pow10")
  have e : laidList7.filter (fun x => x.1 == "internal/strconv.uint64pow10") = [("internal/strconv.uint64pow10", Lib.tabData .u64 Lib.pow10Tab)] := by kernel_rfl
  rw [e] at h2
  exact Lib.tabIs_of_head (rest := []) gTab gTabType Tryz.underlying317 Tryz.underlying290 cellsU cellsTab h2

/-- A world for the witness: the settled one, the listed variables holding what the list says. -/
noncomputable def laidWorld7 (os : Os) : World := World.laidAll Tryz.prog os laidList7
theorem laid_met7 (os : Os) (args : Array Value) : laidMet Tryz.prog laidList7 ((laidWorld7 os).forCall (fun _ _ => 0) ⟨#[], args, []⟩).memory :=
  laidMet_laidAll args (by kernel_rfl) (by kernel_rfl)

theorem maxAt_of {W : World} (h : W.ShapedOpen Tryz.prog) : MaxAt W :=
  cell_of_shapedOpen_int (g := 1) (t := 3) (zero := #[.int .i64 0]) (k := .i64) h (of_decide_eq_true (by kernel_rfl)) (by kernel_rfl) rfl (by kernel_rfl) (by kernel_rfl) Tryz.underlying3
end Go.Proofs.YtfdkmmllemkogaaGreatDoor
