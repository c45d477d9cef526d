/-
  The walk of LightLosses.
-/
import Derived.Test.YtlnhgplloaiiiaaGreatDoorKGd
import Derived.Test.YtlnhgplloaiiiaaGreatDoorKBd
import Derived.Test.YtlnhgplloaiiiaaGreatDoorKBl
import Derived.OpenShut
namespace Go.Proofs.YtlnhgplloaiiiaaGreatDoor
open Go.RowKit Go.Shelf
set_option linter.unusedVariables false
set_option linter.unusedSimpArgs false

set_option maxHeartbeats 1600000 in
theorem lFirst_any (b o n c : Nat) (zs : List Int) (hz : zs.length = n) (hm : n ≤ 4611686018427387904) (w : World)
    (hc : ∀ j, j < n → w.cell? ⟨b, o + j, none⟩ = some (.int .i64 (zs[j]?.getD 0))) :
    Calls Tryz.prog 15 #[.slice (some ⟨b, o, none⟩) n c] w fun e w' => e = .returned (.int .i64 (firstNZ zs)) ∧ w = w' := by
  have K := Lib.hid (refFirst_any b o n c zs hz hm w hc)
  clear hz hm hc
  go_enter Tryz.func15, Tryz.ntmps15
  go_wp2_with (go_at_call 93; refine K.out.mono ?_; rintro e w1 ⟨rfl, rfl⟩)
  go_ret
  exact ⟨rfl, rfl⟩

set_option maxRecDepth 100000 in
set_option maxHeartbeats 1600000 in
theorem refCheckTelegrams_many (a : Option Addr) (cp : Nat) (w : World) :
    Calls Tryz.prog 80 #[.slice a 513 cp] w fun e w' => e = .returned (.int .i64 5) ∧ Below w.heap.size w w' := by
  go_enter Tryz.func80, Tryz.ntmps80
  go_wp2
  go_ret
  exact ⟨rfl, Below.refl _ _⟩

set_option maxRecDepth 100000 in
set_option maxHeartbeats 6400000 in
theorem losses_walk (w : World) (L : List Tel) (a : Option Addr) (n cp : Nat) (st : Int) (E T Q : Int) (N : Nat) (X : List Int) (hN : N ≤ 4096) (hE : E ≠ 0 → N = 0)
    (hs : (decide (n ≤ 20) || decide (n = 513)) = true) (hA : AnyTels w a n L) (ht : TabAt w)
    (k2 : ∀ (w1 : World) (a' : Option Addr) (c' : Nat), AnyTels w1 a' n L → Calls Tryz.prog 78 #[.slice a' n c', .int .i64 st] w1 fun e w' => ∃ v, e = .returned (.tuple #[v, .int .i64 E]) ∧ IntsV w' v N X ∧ Below w1.heap.size w1 w')
    (k3 : ∀ w1 : World, AnyTels w1 a n L → Calls Tryz.prog 80 #[.slice a n cp] w1 fun e w' => e = .returned (.int .i64 T) ∧ Below w1.heap.size w1 w')
    (k4 : firstNZ [T, rangeErr st 0 255] = Q)
    (k5 : Q = 0 → ∀ w1 : World, AnyTels w1 a n L → Calls Tryz.prog 81 #[.slice a n cp, .int .i64 st] w1 fun e w' => ∃ v, e = .returned (.tuple #[v, .int .i64 E]) ∧ IntsV w' v N X ∧ Below w1.heap.size w1 w')
    (k6 : Q ≠ 0 → E = Q) :
    Calls Tryz.prog 10 #[.slice a n cp, .int .i64 st] w (TruePost w) := by
  have hn : n ≤ 513 := by simp at hs; omega
  have KS : Hid (∀ w1 : World, Calls Tryz.prog 77 #[.slice a n cp] w1 fun e w' => e = .returned (.bool true) ∧ w1 = w') := Lib.hid fun w1 => by
    have h := short_any a n cp w1 (by unfold maxLen; omega)
    rwa [hs] at h
  have KT := Lib.hid (telegrams_any L a n cp hn w hA)
  have K2 := Lib.hid k2
  have K3 := Lib.hid k3
  have K4 := Lib.hid k4
  have HA := Lib.hid hA
  have HE := Lib.hid hE
  have KW : Hid (∀ w1 : World, Below w.heap.size w w1 → Calls Tryz.prog 13 #[] w1 fun e w' => e = .returned (.bool true) ∧ Below w.heap.size w w') :=
    Lib.hid fun w1 h => (awake_any w1 (ht.on h)).mono fun e w' ⟨he, hb⟩ => ⟨he, h.trans (hb.mono h.size)⟩
  by_cases hQ : Q = 0
  · have K5 := Lib.hid (k5 hQ)
    subst hQ
    have hb34d : True := trivial
    clear k2 k3 k4 k5 k6 hA hE ht hs hn
    go_enter Tryz.func10, Tryz.ntmps10
    go_wp2_with (first
      | (go_at_call 77; refine (KS.out _).mono ?_; rintro e w0 ⟨rfl, rfl⟩)
      | (go_at_call 79; refine KT.out.mono ?_; rintro e w1 ⟨a', c', rfl, hA1, hb1⟩)
      | (go_at_call 78; refine (K2.out _ _ _ hA1).mono ?_; rintro e w2 ⟨v, rfl, hv, hb2⟩;
         have hb3 := hb1.trans (hb2.mono hb1.size); clear hA1 hb1 hb2)
      | (go_at_call 80; refine (K3.out _ (HA.out.kept hb3)).mono ?_; rintro e w3 ⟨rfl, hbq⟩;
         have hv3 := hv.kept hbq; have hb33 := hb3.trans (hbq.mono hb3.size); clear hv hb3 hbq)
      | (go_at_call 17; refine (refCheckRange_any _ _ _ _).mono ?_; rintro e w9 ⟨rfl, rfl⟩)
      | ((go_at_call 15; refine (lFirst_any _ 0 2 2 [T, rangeErr st 0 255] rfl (by omega) _ ?_).mono ?_; rotate_left 1; rintro e w4 ⟨rfl, rfl⟩; rw [K4.out]; (have hb4 := hb33.alloc hb33.size (.cells #[.int .i64 T, .int .i64 (rangeErr st 0 255)] 3)); (have hb34 := (Below.refl w3.heap.size w3).alloc (Nat.le_refl _) (.cells #[.int .i64 T, .int .i64 (rangeErr st 0 255)] 3)); rotate_left 1; (intro j hj; match j, hj with | 0, _ => simp [go_sem] | 1, _ => simp [go_sem])))
      | (go_at_call 81; refine (K5.out _ (HA.out.kept hb4)).mono ?_; rintro e w5 ⟨v5, rfl, hv5, hb5⟩;
         have hb6 := hb4.trans (hb5.mono hb4.size);
         have hv6 := hv3.kept (hb34.trans (hb5.mono hb34.size)); clear hv3 hb34 hb5)
      | (go_at_call 21; refine (listed_ok _ _ _ X E (by omega) HE.out _ hv6 hv5).mono ?_; rintro e w7 ⟨rfl, hb7⟩;
         have hb8 := hb6.trans (hb7.mono hb6.size); clear hb7)
      | (go_at_call 13; refine (KW.out _ hb8).mono ?_; rintro e w10 ⟨rfl, hb10⟩))
    go_ret
    exact ⟨rfl, hb10⟩
  · obtain rfl := k6 hQ
    have e0 : (E == 0) = false := by simp [hQ]
    obtain rfl := hE hQ
    clear k2 k3 k4 k5 k6 hA hE ht hs hn hQ
    go_enter Tryz.func10, Tryz.ntmps10
    go_wp2_with (first
      | (go_at_call 77; refine (KS.out _).mono ?_; rintro e w0 ⟨rfl, rfl⟩)
      | (go_at_call 79; refine KT.out.mono ?_; rintro e w1 ⟨a', c', rfl, hA1, hb1⟩)
      | (go_at_call 78; refine (K2.out _ _ _ hA1).mono ?_; rintro e w2 ⟨v, rfl, hv, hb2⟩;
         have hb3 := hb1.trans (hb2.mono hb1.size); clear hA1 hb1 hb2)
      | (go_at_call 80; refine (K3.out _ (HA.out.kept hb3)).mono ?_; rintro e w3 ⟨rfl, hbq⟩;
         have hv3 := hv.kept hbq; have hb33 := hb3.trans (hbq.mono hb3.size); clear hv hb3 hbq)
      | (go_at_call 17; refine (refCheckRange_any _ _ _ _).mono ?_; rintro e w9 ⟨rfl, rfl⟩)
      | ((go_at_call 15; refine (lFirst_any _ 0 2 2 [T, rangeErr st 0 255] rfl (by omega) _ ?_).mono ?_; rotate_left 1; rintro e w4 ⟨rfl, rfl⟩; rw [K4.out]; (have hb4 := hb33.alloc hb33.size (.cells #[.int .i64 T, .int .i64 (rangeErr st 0 255)] 3)); (have hb34 := (Below.refl w3.heap.size w3).alloc (Nat.le_refl _) (.cells #[.int .i64 T, .int .i64 (rangeErr st 0 255)] 3)); rotate_left 1; (intro j hj; match j, hj with | 0, _ => simp [go_sem] | 1, _ => simp [go_sem])))
      | (go_at_call 21; refine (listed_ok _ _ _ X E (by omega) (fun _ => rfl) _ (hv3.kept hb34) (IntsV.nil _ _)).mono ?_; rintro e w7 ⟨rfl, hb7⟩;
         have hb8 := hb4.trans (hb7.mono hb4.size); clear hb7)
      | (go_at_call 13; refine (KW.out _ hb8).mono ?_; rintro e w10 ⟨rfl, hb10⟩))
    go_ret
    exact ⟨rfl, hb10⟩

theorem argErr_two (L : List Tel) (st : Int) : firstNZ [telsErr L, rangeErr st 0 255] = argErr L st := rfl
theorem lostN_le (L : List Tel) (st : Int) : lostN L st ≤ 4096 ∧ (lostErr L st ≠ 0 → lostN L st = 0) := by
  unfold lostN
  split
  · rename_i h
    refine ⟨?_, fun h' => absurd h h'⟩
    unfold lostErr at h
    split at h
    · rename_i h2; exact absurd h h2
    · split at h
      · cases h
      · omega
  · exact ⟨by omega, fun _ => rfl⟩

/-- LightLosses, for every list of telegrams and every station. -/
theorem losses_all (w : World) (L : List Tel) (a : Option Addr) (n cp : Nat) (st : Int) (hm : n ≤ maxLen) (hA : AnyTels w a n L) (ht : TabAt w) :
    Calls Tryz.prog 10 #[.slice a n cp, .int .i64 st] w (TruePost w) := by
  by_cases hs : (decide (n ≤ 20) || decide (n = 513)) = true
  · by_cases hn : n = 513
    · subst hn
      exact losses_walk w L a 513 cp st 5 5 5 0 [] (by omega) (fun _ => rfl) hs hA ht
        (fun w1 a' c' h1 => (lost_many a' c' st w1).mono fun e w' ⟨he, hw⟩ => ⟨_, he, IntsV.nil _ _, by subst hw; exact Below.refl _ _⟩)
        (fun w1 h1 => refCheckTelegrams_many a cp w1) rfl (fun h => absurd h (by decide)) (fun _ => rfl)
    · have hn2 : n ≤ 512 := by simp at hs; omega
      obtain ⟨h1, h2⟩ := lostN_le L st
      refine losses_walk w L a n cp st (lostErr L st) (telsErr L) (argErr L st) (lostN L st) (lostL L st) h1 h2 hs hA ht
        (fun w1 a' c' h => lost_all L a' n c' st hn2 w1 h) (fun w1 h => refCheckTelegrams_any L a n cp hn2 w1 h) rfl ?_ ?_
      · intro h0 w1 h
        have hE : lostErr L st = if 256 < (lostL L st).length then 5 else 0 := by unfold lostErr; rw [if_neg (by simp [h0])]
        refine (refLost_any L a n cp st hn2 (telsErr_good (argErr_zero h0).1) w1 h).mono ?_
        rintro e w' ⟨v, rfl, hv, hb⟩
        refine ⟨v, by rw [hE, lostOf_L], ?_, hb⟩
        unfold lostN
        rw [hE, lostOf_L]
        by_cases hl : 256 < (lostOf (countsOf L st)).length
        · rw [if_pos hl] at hv ⊢
          exact hv
        · rw [if_neg hl] at hv ⊢
          exact hv
      · intro h0
        unfold lostErr
        rw [if_pos h0]
  · have hs := Bool.eq_false_iff.2 hs
    have KS : Hid (∀ w1 : World, Calls Tryz.prog 77 #[.slice a n cp] w1 fun e w' => e = .returned (.bool false) ∧ w1 = w') := Lib.hid fun w1 => by
      have h := short_any a n cp w1 hm
      rwa [hs] at h
    have KW := Lib.hid (awake_any w ht)
    clear hs hm hA ht
    go_enter Tryz.func10, Tryz.ntmps10
    go_wp2_with (first
      | (go_at_call 77; refine (KS.out _).mono ?_; rintro e w0 ⟨rfl, rfl⟩)
      | (go_at_call 13; refine KW.out.mono ?_; rintro e w1 ⟨rfl, hb1⟩))
    go_ret
    exact ⟨rfl, hb1⟩
end Go.Proofs.YtlnhgplloaiiiaaGreatDoor

/-
  Arguments that are slices of telegrams, opened.
-/
namespace Go.Proofs.YtlnhgplloaiiiaaGreatDoor
open Go.ChangeShapes Go.WideShapes Go.ChangeAt Go.RowKit Go.Joins Go.Deep
set_option linter.unusedVariables false
set_option maxRecDepth 100000

theorem cellsVec : Tryz.prog.cellsOf 36 = 3 := by kernel_rfl
theorem cellsTel : Tryz.prog.cellsOf 107 = 6 := by kernel_rfl
theorem list6 {α : Type} {l : List α} (h : l.length = 6) : ∃ a b c d e f, l = [a, b, c, d, e, f] := by
  match l, h with
  | [a, b, c, d, e, f], _ => exact ⟨a, b, c, d, e, f, rfl⟩

theorem tel_form {H : Type} {enc : TypeId × Value → H} {W : World} {sp : Nat → Bool} {k : Nat} {cs : List Value} {x : DataW H × List MemPlace} (hl : cs.length = 6)
    (h : DataW.trod enc Tryz.prog W 0 sp true k 107 cs = some x) : ∃ t : Tel, cs = t.val := by
  obtain ⟨c0, c1, c2, c3, c4, c5, rfl⟩ := list6 hl
  have e1 : Tryz.prog.cellsOf 3 = 1 := cellsInt
  have e3 : Tryz.prog.cellsOf 36 = 3 := cellsVec
  obtain ⟨y0, y1, y2, y3, n, _, _, h0, h1, h2, h3⟩ := trod_struct4 Tryz.underlying107 h
  simp only [e1, e3] at h0 h1 h2 h3
  obtain ⟨X0, q0, _, _⟩ := DataW.trod_int Tryz.underlying3 h0
  obtain ⟨X1, q1, _, _⟩ := DataW.trod_int Tryz.underlying3 h1
  obtain ⟨X2, q2, _, _⟩ := DataW.trod_int Tryz.underlying3 h2
  obtain ⟨xs, m, _, _, _, hlen, hf⟩ := DataW.trod_struct Tryz.underlying36 h3
  match xs, hlen with
  | [z0, z1, z2], _ =>
    have g0 : DataW.trod enc Tryz.prog W 0 sp true m 3 (([c3, c4, c5].drop 0).take (Tryz.prog.cellsOf 3)) = some z0 := hf 0 _ rfl
    have g1 : DataW.trod enc Tryz.prog W 0 sp true m 3 (([c3, c4, c5].drop 1).take (Tryz.prog.cellsOf 3)) = some z1 := hf 1 _ rfl
    have g2 : DataW.trod enc Tryz.prog W 0 sp true m 3 (([c3, c4, c5].drop 2).take (Tryz.prog.cellsOf 3)) = some z2 := hf 2 _ rfl
    rw [e1] at g0 g1 g2
    obtain ⟨X3, q3, _, _⟩ := DataW.trod_int Tryz.underlying3 g0
    obtain ⟨X4, q4, _, _⟩ := DataW.trod_int Tryz.underlying3 g1
    obtain ⟨X5, q5, _, _⟩ := DataW.trod_int Tryz.underlying3 g2
    simp at q0 q1 q2 q3 q4 q5
    subst q0 q1 q2 q3 q4 q5
    exact ⟨⟨X0, X1, X2, X3, X4, X5⟩, rfl⟩

instance : Inhabited Tel := ⟨tel0⟩

theorem openTels {H : Type} {enc : TypeId × Value → H} {W : World} {b0 : Nat} {v : Value} {d : DataW H} {p : List MemPlace}
    (hv : Value.okWide Tryz.prog W .any b0 123 v) (h : DataW.Trod enc Tryz.prog W 0 (fun _ => true) true 123 v d p) :
    ∃ (a : Option Addr) (n c : Nat) (L : List Tel), v = .slice a n c ∧ n ≤ maxLen ∧ AnyTels W a n L := by
  obtain ⟨a, n, c, rfl⟩ := okWide_slice Tryz.underlying123 hv
  obtain ⟨fuel, hf⟩ := h
  rcases open_slice Tryz.underlying123 hf with ⟨hcs, _⟩ | ⟨a, n, c, m, k, D, Pl, hcs, _, hl, hm, hmm, _, hx⟩
  · simp [Value.cells] at hcs
    obtain ⟨rfl, rfl, rfl⟩ := hcs
    exact ⟨none, 0, 0, [], rfl, by unfold maxLen; omega, rfl, fun j hj => absurd hj (by omega)⟩
  · simp [Value.cells] at hcs
    obtain ⟨rfl, rfl, rfl⟩ := hcs
    have hnm : n ≤ m := by rw [hmm]; simp; exact hl
    rw [cellsTel] at hx
    obtain ⟨T, hT⟩ := choose_lt (α := Tel) (p := fun i t => ∀ j u, t.val[j]? = some u → W.cell? ((a.add (i * 6)).add j) = some u) (n := n) (fun i hi => by
      obtain ⟨cs', h1, h2⟩ := hx i (by omega)
      obtain ⟨_, hlen, hc⟩ := World.cells?_some h1
      obtain ⟨t, rfl⟩ := tel_form hlen h2
      exact ⟨t, fun j u hu => (hc j (by have := (List.getElem?_eq_some_iff.1 hu).1; omega)).trans hu⟩)
    refine ⟨_, _, _, (List.range n).map T, rfl, Nat.le_trans hl hm, by simp, fun j hj => ?_⟩
    have h0 := hT 0 (by omega) 0 _ rfl
    have hpl := plain_at (a := a) (by simpa [Addr.add] using h0)
    refine ⟨a.block, a.off, by rw [← hpl.1], hpl.2, fun i hi j u hu => ?_⟩
    have hi2 : i < n := by simpa using hi
    have e : ((List.range n).map T)[i]?.getD tel0 = T i := by rw [List.getElem?_map, List.getElem?_range hi2]; rfl
    rw [e] at hu
    have h := hT i hi2 j u hu
    rw [hpl.1] at h
    simp only [Addr.add_mid] at h
    exact h
end Go.Proofs.YtlnhgplloaiiiaaGreatDoor

/-
  LightLosses returns true for every input, and each argument reads behind the call as it read before: for every list of telegrams (of any length, nil or not, with any numbers) and every station; the package variables as its row lists them. The row's statement and its card.
-/
namespace Go.Proofs.YtlnhgplloaiiiaaGreatDoor.lightLosses
open Go.ChangeShapes Go.WideShapes Go.ChangeAt Go.RowKit Go.Joins Go.Deep
set_option linter.unusedVariables false

theorem params : Tryz.f10.params = #[123, 3] := by kernel_rfl

set_option maxRecDepth 100000 in
theorem contract (H : Type) (enc : TypeId × Value → H) (W : World) (base : Nat) (args : Array Value) (ds gs : List (DataW H)) (before : List MemPlace)
    (hval0 : ∀ (j : Nat) t v, Tryz.f10.params[j]? = some t → args[j]? = some v → Value.okWide Tryz.prog W .any base t v)
    (hW : DataW.Whole enc Tryz.prog Tryz.f10.params.toList Rows.lightLossesSpec.vars false W args.toList ds gs before) (hL : laidMetH Tryz.prog Rows.lightLossesRow.laid W) :
    Calls Tryz.prog 10 args W fun e W' => ∃ v, e = .returned v ∧ Rows.lightLossesSpec.post enc Tryz.prog Tryz.f10 false true false false W args v W' := by
  have hval := hval0
  have hW' := hW
  obtain ⟨p, q, hA0, hV, rfl, hfz, hnd⟩ := hW
  have hA : DataW.TrodAll enc Tryz.prog W 0 (fun _ => true) true Tryz.f10.params.toList args.toList ds p := hA0
  rw [params] at hA hval
  obtain ⟨v0, vs0, d0, ds0, p0, q0, hargs, rfl, rfl, h0, r0⟩ := trodAll_cons hA
  obtain ⟨v1, vs1, d1, ds1, p1, q1, rfl, rfl, rfl, h1, r1⟩ := trodAll_cons r0
  obtain ⟨rfl, rfl, rfl⟩ := trodAll_nil r1
  obtain rfl : args = #[v0, v1] := by cases args; simp_all
  obtain ⟨rfl, rfl⟩ := trodVars_none hV
  clear hA0 hval0
  simp only [List.append_nil] at hW'
  have hlt : ∀ x ∈ p0 ++ p1, x.block < W.heap.size := fun x hx => by simpa using hW'.lt x hx
  obtain ⟨a, n, c, L, rfl, hm, hA2⟩ := openTels (hval 0 123 v0 rfl rfl) h0
  obtain ⟨st, rfl⟩ := okWide_int Tryz.underlying3 (hval 1 3 v1 rfl rfl)
  refine (losses_all W L a n c st hm hA2 (tabAt_of hL)).mono fun e W' ⟨he, hb⟩ => ?_
  subst he
  refine ⟨_, rfl, _, _, _, [], p0 ++ p1, [], hW', trodAll_cons_mk (shut_bool Tryz.underlying4 _) trodAll_mk0, ?_, rfl, hb.frame _, fun h => by cases h⟩
  have h := (trodAll_cons_mk (Below.trod laidOut (by kernel_rfl) (of_decide_eq_true (by kernel_rfl)) h0 hb (fun x hx => hlt x (List.mem_append_left _ hx))) (trodAll_cons_mk (Below.trod laidOut (by kernel_rfl) (of_decide_eq_true (by kernel_rfl)) h1 hb (fun x hx => hlt x (List.mem_append_right _ hx))) trodAll_mk0))
  simp only [List.append_nil] at h
  exact h

def wArgs : Array Value := #[.slice none 0 0, .int .i64 0]
theorem reads (os : Os) {H : Type} (enc : TypeId × Value → H) : ∃ places, DataW.whole enc Tryz.prog ((laidWorld os).forCall (fun _ _ => 0) ⟨#[], wArgs, []⟩).memory Tryz.f10.params.toList Rows.lightLossesSpec.vars false wArgs.toList 8 = some ([.nil, .lit (.int .i64 0)], [], places) :=
  ⟨[], by kernel_rfl⟩

set_option maxRecDepth 100000 in
theorem lifted (os : Os) (started : os.Started) (H : Type) (enc : TypeId × Value → H) (F : Stop.Interp) :
    ReturnsInHanded {} Tryz.checked os 10 .any ((OpenSpec.ofChange Rows.lightLossesSpec).preRow enc Tryz.prog Tryz.f10 Rows.lightLossesRow.domain false Rows.lightLossesRow.laid) (((OpenSpec.ofChange Rows.lightLossesSpec).at F).post enc Tryz.prog Tryz.f10 false true false false) := by
  obtain ⟨places, hx⟩ := reads os enc
  refine returnsInHanded_of_row (C := Tryz.checked) (s := OpenSpec.ofChange Rows.lightLossesSpec) ownKnobOff started (by kernel_rfl) Tryz.func10
    (witness_row_at (enc := enc) (C := Tryz.checked) false (laidWorld os) wArgs rfl (by kernel_rfl) (by kernel_rfl) (by kernel_rfl)
      (OpenSpec.preRow_of_cond 8 hx (by kernel_rfl) (fun k hk => by cases hk) (by kernel_rfl) (laid_met os _))) ?_
  intro W base args ds gs before hval hW _ _ _ hL _ _
  exact contract H enc W base args ds gs before hval hW hL

theorem said : Rows.LightLossesSaid :=
  OpenClaim.holds_of_cond 10 Tryz.f10 rfl rfl rfl rfl rfl rfl rfl ⟨rfl, rfl, rfl, rfl, rfl⟩ rfl rfl rfl rfl rfl (by kernel_rfl) Tryz.func10 (by kernel_rfl)
    (of_decide_eq_true (by kernel_rfl)) (by unfold Func.isWrapper; first | (rw [if_pos (by decide +kernel)]; kernel_rfl) | (rw [if_neg (by decide +kernel)]; exact ⟨rfl, rfl⟩))
    (fun os started H enc _ F => by rw [OpenClaim.pre_eq_preRow]; exact lifted os started H enc F)

/-- No parameter wants a stand-in; the program's own looks are off: what the card asks. -/
theorem plain (f : FuncId) (fn : Func) (hf : Tryz.pinned.checked.prog.funcNamed "spillage/spillagelaw01.LightLosses" = some f) (hfn : Tryz.pinned.checked.prog.funcs[f]? = some fn) :
    false = Tryz.pinned.checked.prog.looks [] ∧ ∀ (j : Nat) t, fn.params[j]? = some t → Tryz.pinned.checked.prog.wantsStandIn t = false := by
  obtain rfl : f = 10 := Option.some.inj ((show Tryz.prog.funcNamed "spillage/spillagelaw01.LightLosses" = some 10 by kernel_rfl).symm.trans hf) |>.symm
  obtain rfl : fn = Tryz.f10 := (Option.some.inj (Tryz.func10.symm.trans hfn)).symm
  refine ⟨by kernel_rfl, fun j t ht => ?_⟩
  rw [params] at ht
  have hm : t = 123 ∨ t = 3 := by simpa using Array.mem_of_getElem? ht
  rcases hm with rfl | rfl
  · exact (show Tryz.prog.wantsStandIn 123 = false by kernel_rfl)
  · exact (show Tryz.prog.wantsStandIn 3 = false by kernel_rfl)

/-- ████ THE CARD ████ -/
theorem card : Rows.LightLossesCardSaid :=
  Claim7.holds_tied_plain_at .later [] _ _ _ _ said (fun _ h => by cases h) (by kernel_rfl) (fun _ h => by cases h) lightLosses_row_tie rfl ⟨rfl, rfl⟩ (by kernel_rfl) rfl plain (by kernel_rfl)
#print axioms card
end Go.Proofs.YtlnhgplloaiiiaaGreatDoor.lightLosses
