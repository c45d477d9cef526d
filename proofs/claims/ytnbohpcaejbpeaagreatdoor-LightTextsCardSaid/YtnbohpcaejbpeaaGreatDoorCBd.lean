/-
  Contracts of Own, of own and of ShortMap for every map of up to 100000 samples, nil or not.
-/
import Derived.Test.YtnbohpcaejbpeaaGreatDoorCBc
import Derived.Test.YtnbohpcaejbpeaaGreatDoorCWh
import Derived.Laws.AppendOwnNone
import Derived.Test.YtnbohpcaejbpeaaGreatDoorCZa
import Derived.Test.YtnbohpcaejbpeaaGreatDoorCWx
import Derived.BigQuiet
import Derived.Test.YtnbohpcaejbpeaaGreatDoorCZk
namespace Go.Proofs.YtnbohpcaejbpeaaGreatDoor
open Go.RowKit
set_option linter.unusedVariables false
set_option linter.unusedSimpArgs false

/-- Any map in memory: its words. -/
structure AnyMap (w : World) (a : Option Addr) (n c : Nat) (xs : List Nat) : Prop where
  len : xs.length = n
  words : ∀ j, j < n → xs[j]?.getD 0 < 2 ^ 32
  isNil : (a = none ∧ n = 0 ∧ c = 0) ∨ ∃ x, a = some x
  cells : ∀ j, j < n → ∃ b o, a = some ⟨b, o, none⟩ ∧ b < w.heap.size ∧ ∀ j, j < n → w.cell? ⟨b, o + j, none⟩ = some (.float .f32 (xs[j]?.getD 0))

theorem AnyMap.below {B : Nat} {w w' : World} {a : Option Addr} {n c : Nat} {xs : List Nat} (h : AnyMap w a n c xs) (hb : Below B w w') (hB : w.heap.size ≤ B) : AnyMap w' a n c xs :=
  ⟨h.len, h.words, h.isNil, fun j hj => by
    obtain ⟨b, o, ha, hlt, hc⟩ := h.cells j hj
    exact ⟨b, o, ha, by have := hb.size; omega, fun j hj => (hb.cell (by show b < B; omega)).trans (hc j hj)⟩⟩

/-- A right map: its integers. -/
theorem AnyMap.right {w : World} {W H : Int} {a : Option Addr} {n c : Nat} {xs : List Nat} (h : AnyMap w a n c xs) (h0 : mapErr W H n xs = 0) :
    ∃ b o ks, a = some ⟨b, o, none⟩ ∧ b < w.heap.size ∧ RightMap w W H b o n xs ks := by
  obtain ⟨w1, w2, h1, h2, hA, hS⟩ := mapErr_zero h.len h0
  have hn : 1 ≤ W * H := by
    have := Int.mul_le_mul w1 h1 (by omega) (by omega)
    omega
  have hm : W * H ≤ 4096 := by
    have := Int.mul_le_mul w2 h2 (by omega) (by omega)
    omega
  obtain ⟨b, o, ha, hb, hc⟩ := h.cells 0 (by omega)
  obtain ⟨ks, hl, hk⟩ : ∃ ks : List Int, ks.length = n ∧ ∀ j, j < n → Smp (xs[j]?.getD 0) (ks[j]?.getD 0) ∧ (ks[j]?.getD 0).natAbs ≤ 16384 := by
    have key : ∀ m, m ≤ n → ∃ ks : List Int, ks.length = m ∧ ∀ j, j < m → Smp (xs[j]?.getD 0) (ks[j]?.getD 0) ∧ (ks[j]?.getD 0).natAbs ≤ 16384 := by
      intro m
      induction m with
      | zero => intro _; exact ⟨[], rfl, fun j hj => by omega⟩
      | succ m ih =>
        intro hle
        obtain ⟨ks, hl, hk⟩ := ih (by omega)
        obtain ⟨k, hk1, hk2⟩ := hS m (by omega)
        refine ⟨ks ++ [k], by simp [hl], fun j hj => ?_⟩
        by_cases hjm : j < m
        · rw [List.getElem?_append_left (by omega)]; exact hk j hjm
        · obtain rfl : j = m := by omega
          rw [List.getElem?_append_right (by omega), hl, Nat.sub_self]
          exact ⟨hk1, hk2⟩
    exact key n (Nat.le_refl _)
  exact ⟨b, o, ks, ha, hb, ⟨⟨h.len, hl, by omega, hc, h.words, fun j hj => (hk j hj).1, fun j hj => (hk j hj).2⟩, ⟨w1, w2⟩, ⟨h1, h2⟩, hA⟩⟩

set_option maxRecDepth 100000 in
set_option maxHeartbeats 3200000 in
theorem own_some {w : World} (W H : Int) (ad : Addr) (n c : Nat) (xs : List Nat) (hm : n ≤ 100000) (hM : AnyMap w (some ad) n c xs) :
    Calls Tryz.prog 45 #[.agg #[.int .i64 W, .int .i64 H, .slice (some ad) n c]] w (OwnPost w W H n xs 41) := by
  have hx := hM.len
  obtain ⟨i0, hi, hz0, hz1, hz2⟩ := info_parts Tryz.infoF32
  have Hx := Lib.hid hx
  have HM := Lib.hid hM
  clear hx hM
  go_enter Tryz.func45, Tryz.ntmps45
  go_wp2_with (at_builtin; go_loud (refine wpList_append_own _ rfl (.tmp 3) (.tmp 5) 22 rfl (w.heap.size + 2) 41 i0 (.float .f32 0) 1 4 Tryz.underlying22 hi hz0 hz1 hz2 rfl (by decide) (.slice (some ⟨w.heap.size + 1 + 1, 0, none⟩) 0 0) 0 [] rfl ?c0 ad n c (xs.map (Value.float .f32)) rfl (by simp [Hx.out]) ?c1 ?c2 ?c3 ?c4 ?c5 ?_))
  case c0 =>
    have h := World.ownsRow_made (base := w.heap.size + 2) (e := 41) (size := 1) ((w.alloc (.cells #[.int .i64 W, .int .i64 H, .slice (some ad) n c] 24)).alloc (.cells #[.int .i64 0, .int .i64 0, .slice none 0 0] 24)) #[] 0 (by simp) (by unfold maxLen; omega) rfl
    simpa using h
  case c1 =>
    intro j u hu
    have hj : j < n := by have := (List.getElem?_eq_some_iff.1 hu).1; simp [Hx.out] at this; exact this
    obtain ⟨b, o, ha, hb, hc⟩ := HM.out.cells j hj
    cases ha
    have hadd : (⟨b, o, none⟩ : Addr).add j = ⟨b, o + j, none⟩ := by unfold Addr.add; split <;> simp_all
    have e : u = .float .f32 (xs[j]?.getD 0) := by
      have hj' : j < xs.length := by rw [Hx.out]; exact hj
      simp [List.getElem?_map, List.getElem?_eq_getElem hj'] at hu
      simp [hj', hu]
    rw [hadd, e]
    exact ((((Below.refl _ w).alloc (Nat.le_refl _) _).alloc (by simp) _).alloc (by simp; try omega) _ |>.cell (by exact hb)).trans (hc j hj)
  case c2 => intro u hu; obtain ⟨x, _, rfl⟩ := List.mem_map.1 hu; rfl
  case c3 => unfold maxLen; omega
  case c4 => omega
  case c5 => simp
  intro v' w1 hown hgrow hiff
  have hex : ∃ g cap, v' = .slice (some ⟨g, 0, none⟩) n cap ∧ w.heap.size + 2 ≤ g ∧ g < w1.heap.size := by
    have hlt := hown.lt
    obtain ⟨_, hnil | ⟨g, cap, cur, rfl, _⟩⟩ := hown
    · exact (hiff hnil.1).elim
    · have := hlt g rfl
      exact ⟨g, cap, by simp, this.1, this.2⟩
  obtain ⟨g, cap, hv, hg1, hg2⟩ := hex
  rw [hv] at hown ⊢
  have hb1 := (Below.refl (w.heap.size + 2) _).grown hgrow (by simp; try omega) (fun k hk => by cases hk; simp)
  have s0 : w1.cell? ⟨w.heap.size, 0, none⟩ = some (.int .i64 W) := by rw [hb1.cell (by simp; try omega)]; simp [go_sem]
  have s1 : w1.cell? ⟨w.heap.size, 1, none⟩ = some (.int .i64 H) := by rw [hb1.cell (by simp; try omega)]; simp [go_sem]
  have s2 : w1.cell? ⟨w.heap.size, 2, none⟩ = some (.slice (some ad) n c) := by rw [hb1.cell (by simp; try omega)]; simp [go_sem]
  have r0 : w1.cell? ⟨w.heap.size + 1, 0, none⟩ = some (.int .i64 0) := by rw [hb1.cell (by simp; try omega)]; simp [go_sem]
  have r1 : w1.cell? ⟨w.heap.size + 1, 1, none⟩ = some (.int .i64 0) := by rw [hb1.cell (by simp; try omega)]; simp [go_sem]
  have r2 : w1.cell? ⟨w.heap.size + 1, 2, none⟩ = some (.slice none 0 0) := by rw [hb1.cell (by simp; try omega)]; simp [go_sem]
  have f2 : w1.frozen? ⟨w.heap.size, 2, none⟩ = false := by rw [hb1.frozen (by simp; try omega)]; simp [go_sem]
  have q0 : w1.frozen? ⟨w.heap.size + 1, 0, none⟩ = false := by rw [hb1.frozen (by simp; try omega)]; simp [go_sem]
  have q1 : w1.frozen? ⟨w.heap.size + 1, 1, none⟩ = false := by rw [hb1.frozen (by simp; try omega)]; simp [go_sem]
  have q2 : w1.frozen? ⟨w.heap.size + 1, 2, none⟩ = false := by rw [hb1.frozen (by simp; try omega)]; simp [go_sem]
  have HB := Lib.hid hb1
  have HV := Lib.hid hv
  have Hcell := Lib.hid (fun (j : Nat) (hj : j < n) => owns_cell hown (j := j) (v := .float .f32 (xs[j]?.getD 0)) (by have h := Hx.out; simp [h, hj]))
  have HOWN := Lib.hid hown
  clear hb1 hown hgrow hv
  go_wp2
  refine bodyPost_ret (v := .agg #[.int .i64 W, .int .i64 H, .slice (some ⟨g, 0, none⟩) n cap]) (by simp [results, Tryz.results45, go_sem, r0, r1, r2]) rfl ⟨g, cap, rfl, by omega, ?_, ?_, ?_, ?_⟩
  · simp; omega
  · intro j hj
    simp [go_sem, World.cell?_setCell_other]
    exact Hcell.out j hj
  · exact (((((((Below.refl _ w).alloc (Nat.le_refl _) _).alloc (by simp) _).alloc (by simp; try omega) _).trans (HB.out.mono (by omega))).setCell (p := ⟨w.heap.size, 2, none⟩) (by simp) _).setCell (p := ⟨w.heap.size + 1, 0, none⟩) (by simp) _).setCell (p := ⟨w.heap.size + 1, 1, none⟩) (by simp) _ |>.setCell (p := ⟨w.heap.size + 1, 2, none⟩) (by simp) _
  · have h := HOWN.out
    try simp only [Nat.zero_add, List.nil_append] at h
    exact owns_base (ownsRow_setCell_below (ownsRow_setCell_below (ownsRow_setCell_below (ownsRow_setCell_below h (by dsimp only; omega) _) (by dsimp only; omega) _) (by dsimp only; omega) _) (by dsimp only; omega) _) (by omega)


set_option maxRecDepth 100000 in
set_option maxHeartbeats 3200000 in
theorem own_nil {w : World} (W H : Int) :
    Calls Tryz.prog 45 #[.agg #[.int .i64 W, .int .i64 H, .slice none 0 0]] w (OwnPost w W H 0 [] 41) := by
  obtain ⟨i0, hi, hz0, hz1, hz2⟩ := info_parts Tryz.infoF32
  go_enter Tryz.func45, Tryz.ntmps45
  go_wp2_with (at_builtin; refine wpList_append_own_none rfl (.tmp 3) (.tmp 5) 22 rfl (w.heap.size + 2) 41 i0 1 Tryz.underlying22 hi (.slice (some ⟨w.heap.size + 1 + 1, 0, none⟩) 0 0) 0 [] rfl ?c0 rfl ?_)
  case c0 =>
    have h := World.ownsRow_made (base := w.heap.size + 2) (e := 41) (size := 1) ((w.alloc (.cells #[.int .i64 W, .int .i64 H, .slice none 0 0] 24)).alloc (.cells #[.int .i64 0, .int .i64 0, .slice none 0 0] 24)) #[] 0 (by simp) (by unfold maxLen; omega) rfl
    simpa using h
  go_wp2
  refine bodyPost_ret (v := .agg #[.int .i64 W, .int .i64 H, .slice (some ⟨w.heap.size + 2, 0, none⟩) 0 0]) (by simp [results, Tryz.results45, go_sem]) rfl ⟨w.heap.size + 2, 0, rfl, by omega, ?_, fun j hj => by omega, ?_, ?_⟩
  · simp
  · exact ((((Below.refl _ w).alloc (Nat.le_refl _) _).alloc (by simp) _).alloc (by simp; try omega) _)
  · have h := World.ownsRow_made (base := w.heap.size) (e := 41) (size := 1) ((w.alloc (.cells #[.int .i64 W, .int .i64 H, .slice (some ⟨w.heap.size + 1 + 1, 0, none⟩) 0 0] 24)).alloc (.cells #[.int .i64 W, .int .i64 H, .slice (some ⟨w.heap.size + 1 + 1, 0, none⟩) 0 0] 24)) #[] 0 (by simp; omega) (by unfold maxLen; omega) rfl
    simpa using h

theorem own_all {w : World} (W H : Int) (a : Option Addr) (n c : Nat) (xs : List Nat) (hm : n ≤ 100000) (hM : AnyMap w a n c xs) :
    Calls Tryz.prog 45 #[.agg #[.int .i64 W, .int .i64 H, .slice a n c]] w (OwnPost w W H n xs 41) := by
  rcases hM.isNil with ⟨rfl, rfl, rfl⟩ | ⟨ad, rfl⟩
  · obtain rfl : xs = [] := List.length_eq_zero_iff.1 hM.len
    exact own_nil W H
  · exact own_some W H ad n c xs hm hM

theorem OwnPost.map {w w' : World} {W H : Int} {n T : Nat} {xs : List Nat} {e : Ending} (h : OwnPost w W H n xs T e w') (hx : xs.length = n) (hw : ∀ j, j < n → xs[j]?.getD 0 < 2 ^ 32) :
    ∃ g c, e = .returned (.agg #[.int .i64 W, .int .i64 H, .slice (some ⟨g, 0, none⟩) n c]) ∧ AnyMap w' (some ⟨g, 0, none⟩) n c xs ∧ Below w.heap.size w w' := by
  obtain ⟨g, c, he, _, hg, hc, hb, _⟩ := h
  exact ⟨g, c, he, ⟨hx, hw, .inr ⟨_, rfl⟩, fun j hj => ⟨g, 0, rfl, hg, fun j hj => by rw [Nat.zero_add]; exact hc j hj⟩⟩, hb⟩

set_option maxRecDepth 100000 in
set_option maxHeartbeats 3200000 in
theorem lawOwn_all {w : World} (W H : Int) (a : Option Addr) (n c : Nat) (xs : List Nat) (hm : n ≤ 100000) (hM : AnyMap w a n c xs) :
    Calls Tryz.prog 8 #[.agg #[.int .i64 W, .int .i64 H, .slice a n c]] w (OwnPost w W H n xs 41) := by
  have K : ∀ w1 : World, Below w.heap.size w w1 → Calls Tryz.prog 45 #[.agg #[.int .i64 W, .int .i64 H, .slice a n c]] w1 (OwnPost w1 W H n xs 41) := fun w1 h =>
    own_all W H a n c xs hm (hM.below h (Nat.le_refl _))
  have HK := Lib.hid K
  clear K hM
  go_enter Tryz.func8, Tryz.ntmps8
  go_wp2_with fail
  refine (HK.out _ ?_).mono ?_
  · exact ((Below.refl _ w).alloc (Nat.le_refl _) _).alloc (by simp) _
  rintro e w1 ⟨g, cap, rfl, hg1, hg2, hcells, hb1, hown1⟩
  simp at hg1
  have r0 : w1.cell? ⟨w.heap.size + 1, 0, none⟩ = some (.int .i64 0) := by rw [hb1.cell (by simp; try omega)]; simp [go_sem]
  have r1 : w1.cell? ⟨w.heap.size + 1, 1, none⟩ = some (.int .i64 0) := by rw [hb1.cell (by simp; try omega)]; simp [go_sem]
  have r2 : w1.cell? ⟨w.heap.size + 1, 2, none⟩ = some (.slice none 0 0) := by rw [hb1.cell (by simp; try omega)]; simp [go_sem]
  have q0 : w1.frozen? ⟨w.heap.size + 1, 0, none⟩ = false := by rw [hb1.frozen (by simp; try omega)]; simp [go_sem]
  have q1 : w1.frozen? ⟨w.heap.size + 1, 1, none⟩ = false := by rw [hb1.frozen (by simp; try omega)]; simp [go_sem]
  have q2 : w1.frozen? ⟨w.heap.size + 1, 2, none⟩ = false := by rw [hb1.frozen (by simp; try omega)]; simp [go_sem]
  have HB := Lib.hid hb1
  have Hcell := Lib.hid hcells
  have HOWN := Lib.hid hown1
  clear hb1 hcells hown1
  go_wp2
  refine bodyPost_ret (v := .agg #[.int .i64 W, .int .i64 H, .slice (some ⟨g, 0, none⟩) n cap]) (by simp [results, Tryz.results8, go_sem, r0, r1, r2]) rfl ⟨g, cap, rfl, by omega, ?_, ?_, ?_, ?_⟩
  · simp; omega
  · intro j hj
    simp [go_sem, World.cell?_setCell_other]
    exact Hcell.out j hj
  · exact (((((Below.refl _ w).alloc (Nat.le_refl _) _).alloc (by simp) _).trans (HB.out.mono (by simp; omega))).setCell (p := ⟨w.heap.size + 1, 0, none⟩) (by simp) _).setCell (p := ⟨w.heap.size + 1, 1, none⟩) (by simp) _ |>.setCell (p := ⟨w.heap.size + 1, 2, none⟩) (by simp) _
  · have h := HOWN.out
    try simp only [World.size_alloc] at h
    exact owns_base (ownsRow_setCell_below (ownsRow_setCell_below (ownsRow_setCell_below h (by dsimp only; omega) _) (by dsimp only; omega) _) (by dsimp only; omega) _) (by omega)

set_option maxHeartbeats 800000 in
theorem shortMap_all (W H : Int) (a : Option Addr) (n c : Nat) (w : World) :
    Calls Tryz.prog 5 #[.agg #[.int .i64 W, .int .i64 H, .slice a n c]] w fun e w' => e = .returned (.bool (decide (n ≤ 160) || decide (n = 4097))) ∧ Below w.heap.size w w' := by
  have K : ∀ w1 : World, Calls Tryz.prog 20 #[.slice a n c] w1 fun e w' => e = .returned (.bool (decide (n ≤ 160) || decide (n = 4097))) ∧ w1 = w' := by
    intro w1
    by_cases h1 : n ≤ 160
    · rw [show (decide (n ≤ 160) || decide (n = 4097)) = true by simp [h1]]
      have t1 : ((n : Int) ≤ 160) = True := by simp; omega
      go_enter Tryz.func20, Tryz.ntmps20
      go_wp2
      go_ret
      exact ⟨rfl, rfl⟩
    · by_cases h2 : n = 4097
      · subst h2
        rw [show (decide (4097 ≤ 160) || decide (4097 = 4097)) = true by simp]
        go_enter Tryz.func20, Tryz.ntmps20
        go_wp2
        go_ret
        exact ⟨rfl, rfl⟩
      · rw [show (decide (n ≤ 160) || decide (n = 4097)) = false by simp [h1, h2]]
        have t1 : ((n : Int) ≤ 160) = False := by simp; omega
        have t2 : ((n : Int) == 4097) = false := by simp; omega
        go_enter Tryz.func20, Tryz.ntmps20
        go_wp2
        go_ret
        exact ⟨rfl, rfl⟩
  have HK := Lib.hid K
  clear K
  go_enter Tryz.func5, Tryz.ntmps5
  go_wp2_with (go_at_call 20; refine (HK.out _).mono ?_; rintro e w' ⟨rfl, rfl⟩)
  go_ret
  exact ⟨rfl, (Below.refl _ w).alloc (Nat.le_refl _) _⟩
end Go.Proofs.YtnbohpcaejbpeaaGreatDoor

/-
  Contracts of At and Total for every map: the error of the map, or of the place, or the sample and the light.
-/
namespace Go.Proofs.YtnbohpcaejbpeaaGreatDoor
open Go.RowKit
open Ieee (Format single)
set_option linter.unusedVariables false
set_option linter.unusedSimpArgs false

/-- The integer of a sample's word. -/
def kOf (x : Nat) : Int :=
  match single.read x with
  | .number s m e => sgn s (m * 2 ^ (e - single.leastPlace).toNat / 2 ^ 145)
  | _ => 0

theorem smp_kOf {x : Nat} (h : smpErr x = 0) : Smp x (kOf x) ∧ (kOf x).natAbs ≤ 16384 := by
  rcases smp_class x with ⟨a, b, hd⟩ | ⟨s, hd⟩ | ⟨s, v, hn, _⟩
  · rw [smpErr_nan hd] at h; cases h
  · rw [smpErr_inf hd] at h; cases h
  · rw [smpErr_num hn] at h
    split at h
    · rename_i hh
      obtain ⟨h1, h2⟩ := hh
      have e : v = v / 2 ^ 145 * 2 ^ 145 := by
        have := Nat.div_add_mod v (2 ^ 145)
        rw [h2, Nat.add_zero, Nat.mul_comm] at this; exact this.symm
      have hq : v / 2 ^ 145 ≤ 16384 := by
        have := Nat.div_le_div_right (c := 2 ^ 145) h1
        have e2 : 1024 * 2 ^ 149 = 16384 * 2 ^ 145 := by decide +kernel
        rwa [e2, Nat.mul_div_cancel _ (Nat.two_pow_pos _)] at this
      have hk : kOf x = sgn s (v / 2 ^ 145) := by
        obtain ⟨m, i, k1, _, _, k4⟩ := hn
        unfold kOf
        rw [k1]
        dsimp only
        rw [k4]
      rw [hk]
      generalize v / 2 ^ 145 = p at e hq
      have hpa : (sgn s p).natAbs = p := by unfold sgn; cases s <;> simp
      refine ⟨⟨s, ?_, ?_, ?_⟩, by rw [hpa]; exact hq⟩
      · rw [hpa, ← e]; exact hn
      · intro hs; unfold sgn at hs; cases s
        · simp only [Bool.false_eq_true, if_false] at hs; omega
        · rfl
      · intro hs; unfold sgn at hs; cases s
        · rfl
        · simp only [if_true] at hs; omega
    · cases h

theorem mapErr_smps {W H : Int} {n : Nat} {xs : List Nat} (hx : xs.length = n) (h : mapErr W H n xs = 0) : ∀ j, j < n → smpErr (xs[j]?.getD 0) = 0 := by
  intro j hj
  unfold mapErr at h
  split at h
  · split at h
    · refine firstNZ_all h _ (List.mem_map.2 ⟨xs[j]?.getD 0, ?_, rfl⟩)
      rw [List.getElem?_eq_getElem (by omega)]
      exact List.getElem_mem _
    · cases h
  · rename_i h0; exact absurd h h0

theorem AnyMap.rightK {w : World} {W H : Int} {a : Option Addr} {n c : Nat} {xs : List Nat} (h : AnyMap w a n c xs) (h0 : mapErr W H n xs = 0) :
    ∃ b o, a = some ⟨b, o, none⟩ ∧ b < w.heap.size ∧ RightMap w W H b o n xs (xs.map kOf) := by
  obtain ⟨b, o, ks, ha, hb, hr⟩ := h.right h0
  have hk : ∀ j, j < n → (xs.map kOf)[j]?.getD 0 = kOf (xs[j]?.getD 0) := fun j hj => by
    have := hr.len
    rw [List.getElem?_map, List.getElem?_eq_getElem (by omega)]; rfl
  have hs := mapErr_smps h.len h0
  exact ⟨b, o, ha, hb, ⟨⟨hr.len, by rw [List.length_map]; exact hr.len, hr.small, hr.cells, hr.words, fun j hj => by rw [hk j hj]; exact (smp_kOf (hs j hj)).1, fun j hj => by rw [hk j hj]; exact (smp_kOf (hs j hj)).2⟩, hr.wid, hr.hei, hr.area⟩⟩

/-- CheckMap, in the words of AnyMap. -/
theorem checkMap_map (W H : Int) (a : Option Addr) (n c : Nat) (xs : List Nat) (w : World) (h : AnyMap w a n c xs) :
    Calls Tryz.prog 39 #[.agg #[.int .i64 W, .int .i64 H, .slice a n c]] w fun e w' => e = .returned (.int .i64 (mapErr W H n xs)) ∧ Below w.heap.size w w' :=
  checkMap_all W H a n c xs h.len w h.words h.cells
theorem refCheckMap_map (W H : Int) (a : Option Addr) (n c : Nat) (xs : List Nat) (w : World) (h : AnyMap w a n c xs) :
    Calls Tryz.prog 10 #[.agg #[.int .i64 W, .int .i64 H, .slice a n c]] w fun e w' => e = .returned (.int .i64 (mapErr W H n xs)) ∧ Below w.heap.size w w' :=
  refCheckMap_all W H a n c xs h.len w h.cells

/-! ### At -/

def inPlace (W H X Y : Int) : Prop := 0 ≤ X ∧ X < W ∧ 0 ≤ Y ∧ Y < H
instance (W H X Y : Int) : Decidable (inPlace W H X Y) := by unfold inPlace; infer_instance
def atErr (W H X Y : Int) (n : Nat) (xs : List Nat) : Int := if mapErr W H n xs = 0 then if inPlace W H X Y then 0 else 10 else mapErr W H n xs
def atK (W X Y : Int) (xs : List Nat) : Int := kOf (xs[(Y * W + X).toNat]?.getD 0)

set_option maxRecDepth 100000 in
set_option maxHeartbeats 3200000 in
theorem at_bad (W H : Int) (a : Option Addr) (n c : Nat) (xs : List Nat) (X Y r : Int) (hr0 : r ≠ 0) (w : World)
    (hC : ∀ w1 : World, Below w.heap.size w w1 → Calls Tryz.prog 39 #[.agg #[.int .i64 W, .int .i64 H, .slice a n c]] w1 fun e w' => e = .returned (.int .i64 r) ∧ Below w1.heap.size w1 w') :
    Calls Tryz.prog 21 #[.agg #[.int .i64 W, .int .i64 H, .slice a n c], .agg #[.int .i64 X, .int .i64 Y]] w fun e w' =>
      e = .returned (.tuple #[.float .f32 0, .int .i64 r]) ∧ Below w.heap.size w w' := by
  have e0 : (r != 0) = true := by simp [hr0]
  have HC := Lib.hid hC
  clear hr0 hC
  have hB0 : ∀ o1 o2, Below w.heap.size w ((w.alloc o1).alloc o2) := fun o1 o2 => ((Below.refl _ w).alloc (Nat.le_refl _) _).alloc (by simp) _
  have HB0 := Lib.hid hB0
  clear hB0
  go_enter Tryz.func21, Tryz.ntmps21
  go_wp2_with (go_at_call 39; refine (HC.out _ (HB0.out _ _)).mono ?_; rintro e w1 ⟨rfl, hb1⟩)
  go_ret2
  exact ⟨rfl, (HB0.out _ _).trans (hb1.mono (by simp; omega))⟩

set_option maxRecDepth 100000 in
set_option maxHeartbeats 3200000 in
theorem total_bad (W H : Int) (a : Option Addr) (n c : Nat) (r : Int) (hr0 : r ≠ 0) (w : World)
    (hC : ∀ w1 : World, Below w.heap.size w w1 → Calls Tryz.prog 39 #[.agg #[.int .i64 W, .int .i64 H, .slice a n c]] w1 fun e w' => e = .returned (.int .i64 r) ∧ Below w1.heap.size w1 w') :
    Calls Tryz.prog 23 #[.agg #[.int .i64 W, .int .i64 H, .slice a n c]] w fun e w' =>
      e = .returned (.tuple #[.int .i64 0, .int .i64 r]) ∧ Below w.heap.size w w' := by
  have e0 : (r != 0) = true := by simp [hr0]
  have HC := Lib.hid hC
  clear hr0 hC
  have hB0 : ∀ o1, Below w.heap.size w (w.alloc o1) := fun o1 => (Below.refl _ w).alloc (Nat.le_refl _) _
  have HB0 := Lib.hid hB0
  clear hB0
  go_enter Tryz.func23, Tryz.ntmps23
  go_wp2_with (go_at_call 39; refine (HC.out _ (HB0.out _)).mono ?_; rintro e w1 ⟨rfl, hb1⟩)
  go_ret2
  exact ⟨rfl, (HB0.out _).trans (hb1.mono (by simp))⟩

set_option maxRecDepth 100000 in
set_option maxHeartbeats 3200000 in
theorem at_out (W H : Nat) (b o n c : Nat) (xs : List Nat) (ks : List Int) (w : World) (hA : RightMap w W H b o n xs ks) (hb : b < w.heap.size) (X Y : Int) (hin : insideB W H (X, Y) = false) :
    Calls Tryz.prog 21 #[.agg #[.int .i64 W, .int .i64 H, .slice (some ⟨b, o, none⟩) n c], .agg #[.int .i64 X, .int .i64 Y]] w fun e w' =>
      e = .returned (.tuple #[.float .f32 0, .int .i64 10]) ∧ Below w.heap.size w w' := by
  obtain ⟨W0, hW0⟩ : ∃ W0, (w.alloc (.cells #[.int .i64 W, .int .i64 H, .slice (some ⟨b, o, none⟩) n c] 30)).alloc (.cells #[.int .i64 X, .int .i64 Y] 56) = W0 := ⟨_, rfl⟩
  have hB0 : Below w.heap.size w W0 := by rw [← hW0]; exact ((Below.refl _ w).alloc (Nat.le_refl _) _).alloc (by simp) _
  have hS0 : W0.heap.size = w.heap.size + 2 := by rw [← hW0]; simp
  have a0 : W0.cell? ⟨w.heap.size, 0, none⟩ = some (.int .i64 W) := by rw [← hW0]; simp [go_sem]
  have a1 : W0.cell? ⟨w.heap.size, 1, none⟩ = some (.int .i64 H) := by rw [← hW0]; simp [go_sem]
  have a2 : W0.cell? ⟨w.heap.size, 2, none⟩ = some (.slice (some ⟨b, o, none⟩) n c) := by rw [← hW0]; simp [go_sem]
  have p0 : W0.cell? ⟨w.heap.size + 1, 0, none⟩ = some (.int .i64 X) := by rw [← hW0]; simp [go_sem]
  have p1 : W0.cell? ⟨w.heap.size + 1, 1, none⟩ = some (.int .i64 Y) := by rw [← hW0]; simp [go_sem]
  have K1 := Lib.hid (checkMap_any W H b o n c xs ks W0 (hA.below hB0 hb) (by omega))
  have K2 : Hid (∀ w1 : World, Below W0.heap.size W0 w1 → Calls Tryz.prog 43 #[.agg #[.int .i64 W, .int .i64 H, .slice (some ⟨b, o, none⟩) n c]] w1 fun e w' =>
      ∃ g, e = .returned (.agg #[.int .i64 W, .int .i64 H, .slice (some ⟨g, 0, none⟩) n n]) ∧ w1.heap.size ≤ g ∧ RowAt w' g n ks ∧ Below w1.heap.size w1 w') := Lib.hid (fun w1 h => by
    have h1 := h.size
    have h2 := hB0.trans (h.mono (by omega))
    exact grid_row W H b o n c xs ks w1 (hA.below h2 hb).toWords (by omega))
  have HB0 := Lib.hid hB0
  have HS0 := Lib.hid hS0
  clear hA hB0
  go_enter Tryz.func21, Tryz.ntmps21
  go_upto_region 1 with fail
  try rw [hW0]
  clear hW0
  go_wp2_with (first
    | ((go_at_call 39; refine K1.out.mono ?_; rintro e w1 ⟨rfl, hb1⟩
        have hs1 := hb1.size
        have a0' := (hb1.cell (p := ⟨w.heap.size, 0, none⟩) (by show w.heap.size < _; omega)).trans a0
        have a1' := (hb1.cell (p := ⟨w.heap.size, 1, none⟩) (by show w.heap.size < _; omega)).trans a1
        have a2' := (hb1.cell (p := ⟨w.heap.size, 2, none⟩) (by show w.heap.size < _; omega)).trans a2
        have K3 := Lib.hid (K2.out w1 hb1)))
    | ((go_at_call 43; refine K3.out.mono ?_; rintro e w2 ⟨ga, rfl, hga, hRA, hb2⟩
        have hs2 := hb2.size
        obtain ⟨W3, hW3⟩ : ∃ W3, w2.alloc (.cells #[.int .i64 W, .int .i64 H, .slice (some ⟨ga, 0, none⟩) n n] 102) = W3 := ⟨_, rfl⟩
        have hB23 : Below w2.heap.size w2 W3 := by rw [← hW3]; exact (Below.refl _ _).alloc (Nat.le_refl _) _
        have hS3 : W3.heap.size = w2.heap.size + 1 := by rw [← hW3]; simp
        have hB3 : Below W0.heap.size W0 W3 := (hb1.trans (hb2.mono hs1)).trans (hB23.mono (by omega))
        have g0 : W3.cell? ⟨w2.heap.size, 0, none⟩ = some (.int .i64 W) := by rw [← hW3]; simp [go_sem]
        have g1 : W3.cell? ⟨w2.heap.size, 1, none⟩ = some (.int .i64 H) := by rw [← hW3]; simp [go_sem]
        have g2 : W3.cell? ⟨w2.heap.size, 2, none⟩ = some (.slice (some ⟨ga, 0, none⟩) n n) := by rw [← hW3]; simp [go_sem]
        have p0' := (hB3.cell (p := ⟨w.heap.size + 1, 0, none⟩) (by show w.heap.size + 1 < _; omega)).trans p0
        have p1' := (hB3.cell (p := ⟨w.heap.size + 1, 1, none⟩) (by show w.heap.size + 1 < _; omega)).trans p1
        have HB3 := Lib.hid hB3
        clear hRA hB23 hb2 hB3 a0 a1 a2 a0' a1' a2' hb1))
    | ((go_at_call 72; refine (has_any W H X Y _ _ _ W3).mono ?_; rintro e w4 ⟨rfl, hb4⟩
        have HB4 := Lib.hid (HB3.out.trans (hb4.mono (by omega)))
        clear hb4)))
  go_ret2
  exact ⟨rfl, HB0.out.trans (HB4.out.mono (by have := HS0.out; omega))⟩

theorem lightAt_all (W H : Int) (a : Option Addr) (n c : Nat) (xs : List Nat) (X Y : Int) (w : World) (hM : AnyMap w a n c xs) :
    Calls Tryz.prog 21 #[.agg #[.int .i64 W, .int .i64 H, .slice a n c], .agg #[.int .i64 X, .int .i64 Y]] w fun e w' =>
      e = .returned (.tuple #[.float .f32 (if atErr W H X Y n xs = 0 then smpOf (atK W X Y xs) else 0), .int .i64 (atErr W H X Y n xs)]) ∧ Below w.heap.size w w' := by
  by_cases h0 : mapErr W H n xs = 0
  · obtain ⟨b, o, rfl, hb, hR⟩ := hM.rightK h0
    obtain ⟨Wn, rfl⟩ := Int.eq_ofNat_of_zero_le (show 0 ≤ W by have := hR.wid; omega)
    obtain ⟨Hn, rfl⟩ := Int.eq_ofNat_of_zero_le (show 0 ≤ H by have := hR.hei; omega)
    unfold atErr
    rw [if_pos h0]
    by_cases hi : inPlace Wn Hn X Y
    · rw [if_pos hi, if_pos rfl]
      obtain ⟨i1, i2, i3, i4⟩ := hi
      obtain ⟨Xn, rfl⟩ := Int.eq_ofNat_of_zero_le i1
      obtain ⟨Yn, rfl⟩ := Int.eq_ofNat_of_zero_le i3
      have h := lightAt_any Wn Hn b o n c xs (xs.map kOf) w hR hb Xn Yn (by omega) (by omega)
      have e : (xs.map kOf)[Yn * Wn + Xn]?.getD 0 = atK Wn Xn Yn xs := by
        have hN : Wn * Hn = n := by have := hR.area; exact_mod_cast this
        have hlt : Yn * Wn + Xn < n := idx_lt (p := (Xn, Yn)) (by omega) (by omega) hN
        have hl := hM.len
        unfold atK
        have e1 : ((Yn : Int) * (Wn : Int) + (Xn : Int)).toNat = Yn * Wn + Xn := by
          have e2 : (Yn : Int) * (Wn : Int) = ((Yn * Wn : Nat) : Int) := by push_cast; rfl
          rw [e2]; omega
        rw [e1, List.getElem?_map, List.getElem?_eq_getElem (by omega)]; rfl
      rw [e] at h
      exact h
    · rw [if_neg hi, if_neg (by decide)]
      refine at_out Wn Hn b o n c xs (xs.map kOf) w hR hb X Y ?_
      unfold inPlace at hi
      simp [insideB]
      omega
  · unfold atErr
    rw [if_neg h0, if_neg h0]
    exact at_bad W H a n c xs X Y _ h0 w fun w1 h1 => checkMap_map W H a n c xs w1 (hM.below h1 (Nat.le_refl _))

theorem lightTotal_all (W H : Int) (a : Option Addr) (n c : Nat) (xs : List Nat) (w : World) (hM : AnyMap w a n c xs) :
    Calls Tryz.prog 23 #[.agg #[.int .i64 W, .int .i64 H, .slice a n c]] w fun e w' =>
      e = .returned (.tuple #[.int .i64 (if mapErr W H n xs = 0 then (xs.map kOf).sum else 0), .int .i64 (mapErr W H n xs)]) ∧ Below w.heap.size w w' := by
  by_cases h0 : mapErr W H n xs = 0
  · obtain ⟨b, o, rfl, hb, hR⟩ := hM.rightK h0
    rw [if_pos h0, h0]
    exact total_any W H b o n c xs (xs.map kOf) w hR hb
  · rw [if_neg h0]
    exact total_bad W H a n c _ h0 w fun w1 h1 => checkMap_map W H a n c xs w1 (hM.below h1 (Nat.le_refl _))
end Go.Proofs.YtnbohpcaejbpeaaGreatDoor

/-
  Contracts of the reference's Total and Level of a right map, and of number.
-/
namespace Go.Proofs.YtnbohpcaejbpeaaGreatDoor
open Go.RowKit
set_option linter.unusedVariables false
set_option linter.unusedSimpArgs false

set_option maxRecDepth 100000 in
set_option maxHeartbeats 3200000 in
theorem refLevel_any (W H : Nat) (b o n c : Nat) (xs : List Nat) (ks : List Int) (w : World) (hw : RightMap w W H b o n xs ks) (hb : b < w.heap.size) (X Y : Nat) (hX : X < W) (hY : Y < H) :
    Calls Tryz.prog 57 #[.agg #[.int .i64 W, .int .i64 H, .slice (some ⟨b, o, none⟩) n c], .int .i64 X, .int .i64 Y] w fun e w' => e = .returned (.int .i64 (ks[Y * W + X]?.getD 0)) ∧ Below w.heap.size w w' := by
  have hW := hw.wid
  have hH := hw.hei
  have hN : W * H = n := by have := hw.area; exact_mod_cast this
  have hlt : Y * W + X < n := idx_lt (p := (X, Y)) hX hY hN
  have hsm := hw.small
  have hcell := hw.cells _ hlt
  have K := Lib.hid (hw.smps _ hlt)
  have K2 := Lib.hid (Nat.lt_of_le_of_lt (hw.sizes _ hlt) (show 16384 < 2 ^ 40 by decide))
  have m1 : Y * W ≤ 64 * 64 := Nat.mul_le_mul (by omega) (by omega)
  have e2 : (Y : Int) * (W : Int) = ((Y * W : Nat) : Int) := by push_cast; rfl
  have w2 : IntKind.wrap .i64 (((Y * W : Nat) : Int)) = ((Y * W : Nat) : Int) := IntWalk.i64_in _ (by omega)
  have e1 : (((Y * W : Nat) : Int) + (X : Int)) = ((Y * W + X : Nat) : Int) := by push_cast; rfl
  clear hw
  have t1 : ((X : Int) < 0) = False := by simp
  have t2 : ((W : Int) ≤ (X : Int)) = False := by simp; omega
  have t3 : ((Y : Int) < 0) = False := by simp
  have t4 : ((H : Int) ≤ (Y : Int)) = False := by simp; omega
  generalize hp : Y * W + X = P at *
  have w1 : IntKind.wrap .i64 (P : Int) = (P : Int) := IntWalk.i64_in _ (by omega)
  generalize hq : Y * W = Q at *
  go_enter Tryz.func57, Tryz.ntmps57
  go_wp2_with (go_at_call 115; refine (sixteenths_any _ _ K.out K2.out _).mono ?_; rintro e w' ⟨rfl, rfl⟩)
  go_ret
  exact ⟨rfl, (Below.refl _ w).alloc (Nat.le_refl _) _⟩

end Go.Proofs.YtnbohpcaejbpeaaGreatDoor

/-
  Contracts of Peak, of the reference for a right map and of the program for every map.
-/
namespace Go.Proofs.YtnbohpcaejbpeaaGreatDoor
open Go.RowKit
set_option linter.unusedVariables false
set_option linter.unusedSimpArgs false

/-- The first index of the greatest integer among the first m. -/
def pkTo (ks : List Int) : Nat → Nat
  | 0 => 0
  | m + 1 => if ks[pkTo ks m]?.getD 0 < ks[m]?.getD 0 then m else pkTo ks m

theorem pkTo_lt (ks : List Int) : ∀ m, 1 ≤ m → pkTo ks m < m
  | 0, h => by omega
  | m + 1, _ => by
    unfold pkTo
    split
    · omega
    · rcases Nat.eq_zero_or_pos m with rfl | hm
      · simp [pkTo]
      · have := pkTo_lt ks m hm; omega

theorem peakTo_pk (W : Nat) (ks : List Int) (hW : 0 < W) : ∀ m, peakTo W ks (placesTo W m) = (pkTo ks m % W, pkTo ks m / W)
  | 0 => by simp [placesTo, peakTo, pkTo]
  | m + 1 => by
    have e : placesTo W (m + 1) = placesTo W m ++ [(m % W, m / W)] := by simp [placesTo, List.range_succ]
    have hi : ∀ j : Nat, j / W * W + j % W = j := fun j => by rw [Nat.mul_comm]; exact Nat.div_add_mod j W
    rw [e, peakTo_snoc, peakTo_pk W ks hW m]
    unfold peak1
    dsimp only
    rw [hi, hi, pkTo]
    split <;> rfl

theorem order_gt {x y : Nat} {k l : Int} (hx : Smp x k) (hy : Smp y l) : (Ieee.single.order x y == some .gt) = decide (l < k) := by
  rw [hx.order hy]
  by_cases h : l < k
  · rw [cmp_gt_of h, decide_eq_true h]; rfl
  · rw [decide_eq_false h]
    have : compare k l ≠ .gt := by
      show compareOfLessAndEq _ _ ≠ _
      unfold compareOfLessAndEq
      split
      · simp
      · split
        · simp
        · omega
    cases hc : compare k l <;> simp_all

theorem results_tmp_row {P : Program} {fn : Func} {s p : Tmp} {ty : TypeId} (h : fn.results = #[.tmp s, .cell p ty]) (tmps : Array Value) (w : World) (g : Nat) (t : TypeId) (cs : Array Value) (fr : Nat × Nat) (d : TypeDesc)
    (hp : tmps.getD p undef = .pointer (some ⟨g, 0, none⟩)) (hg : w.heap[g]? = some (.cells cs t fr))
    (hu : P.underlying ty = some d) (hd : (match d with | .struct _ | .array _ _ => true | _ => false) = true) (hi : (P.info? ty).map (·.size) = some cs.size) :
    (results fn tmps).run P w = .ok (.tuple #[tmps.getD s undef, .agg cs]) w := by
  have hp' : tmps[p]?.getD undef = .pointer (some ⟨g, 0, none⟩) := by simpa using hp
  simp [results, h, hp', asAddr, Sem.run_bind, Result.andThen, run_loadVar_row w g t ty cs fr d hg hu hd hi]

set_option maxRecDepth 100000 in
set_option maxHeartbeats 3200000 in
theorem peak_bad (W H : Int) (a : Option Addr) (n c : Nat) (r : Int) (hr0 : r ≠ 0) (w : World)
    (hC : ∀ w1 : World, Below w.heap.size w w1 → Calls Tryz.prog 39 #[.agg #[.int .i64 W, .int .i64 H, .slice a n c]] w1 fun e w' => e = .returned (.int .i64 r) ∧ Below w1.heap.size w1 w') :
    Calls Tryz.prog 24 #[.agg #[.int .i64 W, .int .i64 H, .slice a n c]] w fun e w' =>
      e = .returned (.tuple #[.float .f32 0, .agg #[.int .i64 0, .int .i64 0], .int .i64 r]) ∧ Below w.heap.size w w' := by
  have e0 : (r != 0) = true := by simp [hr0]
  obtain ⟨W0, hW0⟩ : ∃ W0, (w.alloc (.cells #[.int .i64 W, .int .i64 H, .slice a n c] 30)).alloc (.cells #[.int .i64 0, .int .i64 0] 56) = W0 := ⟨_, rfl⟩
  have hB0 : Below w.heap.size w W0 := by rw [← hW0]; exact ((Below.refl _ w).alloc (Nat.le_refl _) _).alloc (by simp) _
  have hS0 : W0.heap.size = w.heap.size + 2 := by rw [← hW0]; simp
  have a0 : W0.cell? ⟨w.heap.size, 0, none⟩ = some (.int .i64 W) := by rw [← hW0]; simp [go_sem]
  have a1 : W0.cell? ⟨w.heap.size, 1, none⟩ = some (.int .i64 H) := by rw [← hW0]; simp [go_sem]
  have a2 : W0.cell? ⟨w.heap.size, 2, none⟩ = some (.slice a n c) := by rw [← hW0]; simp [go_sem]
  have bP0 : W0.heap[w.heap.size + 1]? = some (.cells #[.int .i64 0, .int .i64 0] 56 (0, 0)) := by rw [← hW0]; exact blk_alloc_new1 _ _ _
  have HC := Lib.hid (hC W0 hB0)
  have HB0 := Lib.hid hB0
  have HBP := Lib.hid bP0
  clear hr0 hC hB0 bP0
  go_enter Tryz.func24, Tryz.ntmps24
  go_upto_region 1 with fail
  try rw [hW0]
  clear hW0
  go_wp2_with (first
    | ((go_at_call 39; refine HC.out.mono ?_; rintro e w1 ⟨rfl, hb1⟩
        have hs1 := hb1.size
        have bP := (hb1.block (w.heap.size + 1) (by omega)).trans HBP.out
        have q0 : w1.frozen? ⟨w.heap.size + 1, 0, none⟩ = false := by simp [World.frozen?, bP]
        have q1 : w1.frozen? ⟨w.heap.size + 1, 1, none⟩ = false := by simp [World.frozen?, bP]
        have p0 : w1.cell? ⟨w.heap.size + 1, 0, none⟩ = some (.int .i64 0) := by rw [cell_of_row w1 _ 0 _ _ (0, 0) bP]; rfl
        have p1 : w1.cell? ⟨w.heap.size + 1, 1, none⟩ = some (.int .i64 0) := by rw [cell_of_row w1 _ 1 _ _ (0, 0) bP]; rfl
        have HBPW := Lib.hid bP
        have HB1 := Lib.hid hb1
        clear bP hb1)))
  obtain ⟨WF, hWF⟩ : ∃ WF, ((w1.setCell ⟨w.heap.size + 1, 0, none⟩ (.int .i64 0)).setCell ⟨w.heap.size + 1, 1, none⟩ (.int .i64 0)) = WF := ⟨_, rfl⟩
  have rF : WF.heap[w.heap.size + 1]? = some (.cells #[.int .i64 0, .int .i64 0] 56 (0, 0)) := by rw [← hWF]; exact blk_set2 HBPW.out _ _
  have bF : Below w.heap.size w WF := by
    rw [← hWF]
    exact ((HB0.out.trans (HB1.out.mono (by omega))).setCell (p := ⟨w.heap.size + 1, 0, none⟩) (by show w.heap.size ≤ w.heap.size + 1; omega) _).setCell (p := ⟨w.heap.size + 1, 1, none⟩) (by show w.heap.size ≤ w.heap.size + 1; omega) _
  rw [hWF]
  exact bodyPost_ret (v := .tuple #[.float .f32 0, .agg #[.int .i64 0, .int .i64 0], .int .i64 r]) (results_tmp_row_tmp Tryz.results24 _ _ (w.heap.size + 1) 56 _ (0, 0) _ rfl rF Tryz.underlying56 rfl (by kernel_rfl)) rfl ⟨rfl, bF⟩
end Go.Proofs.YtnbohpcaejbpeaaGreatDoor

/-
  What Flipped and Turned answer for a map with an error; two maps without anything are the same.
-/
namespace Go.Proofs.YtnbohpcaejbpeaaGreatDoor
open Go.RowKit
set_option linter.unusedVariables false
set_option linter.unusedSimpArgs false


set_option maxRecDepth 100000 in
set_option maxHeartbeats 3200000 in
theorem flipped_bad (W H : Int) (a : Option Addr) (n c : Nat) (r : Int) (hr0 : r ≠ 0) (w : World)
    (hC : ∀ w1 : World, Below w.heap.size w w1 → Calls Tryz.prog 39 #[.agg #[.int .i64 W, .int .i64 H, .slice a n c]] w1 fun e w' => e = .returned (.int .i64 r) ∧ Below w1.heap.size w1 w') :
    Calls Tryz.prog 27 #[.agg #[.int .i64 W, .int .i64 H, .slice a n c]] w fun e w' =>
      e = .returned (.tuple #[.agg #[.int .i64 0, .int .i64 0, .slice none 0 0], .int .i64 r]) ∧ Below w.heap.size w w' := by
  have e0 : (r != 0) = true := by simp [hr0]
  obtain ⟨W0, hW0⟩ : ∃ W0, (w.alloc (.cells #[.int .i64 W, .int .i64 H, .slice a n c] 30)).alloc (.cells #[.int .i64 0, .int .i64 0, .slice none 0 0] 30) = W0 := ⟨_, rfl⟩
  have hB0 : Below w.heap.size w W0 := by rw [← hW0]; exact ((Below.refl _ w).alloc (Nat.le_refl _) _).alloc (by simp) _
  have hS0 : W0.heap.size = w.heap.size + 2 := by rw [← hW0]; simp
  have a0 : W0.cell? ⟨w.heap.size, 0, none⟩ = some (.int .i64 W) := by rw [← hW0]; simp [go_sem]
  have a1 : W0.cell? ⟨w.heap.size, 1, none⟩ = some (.int .i64 H) := by rw [← hW0]; simp [go_sem]
  have a2 : W0.cell? ⟨w.heap.size, 2, none⟩ = some (.slice a n c) := by rw [← hW0]; simp [go_sem]
  have bP0 : W0.heap[w.heap.size + 1]? = some (.cells #[.int .i64 0, .int .i64 0, .slice none 0 0] 30 (0, 0)) := by rw [← hW0]; exact blk_alloc_new1 _ _ _
  have HC := Lib.hid (hC W0 hB0)
  have HB0 := Lib.hid hB0
  have HBP := Lib.hid bP0
  clear hr0 hC hB0 bP0
  go_enter Tryz.func27, Tryz.ntmps27
  go_upto_region 1 with fail
  try rw [hW0]
  clear hW0
  go_wp2_with (first
    | ((go_at_call 39; refine HC.out.mono ?_; rintro e w1 ⟨rfl, hb1⟩
        have hs1 := hb1.size
        have bP := (hb1.block (w.heap.size + 1) (by omega)).trans HBP.out
        have q0 : w1.frozen? ⟨w.heap.size + 1, 0, none⟩ = false := by simp [World.frozen?, bP]
        have q1 : w1.frozen? ⟨w.heap.size + 1, 1, none⟩ = false := by simp [World.frozen?, bP]
        have q2 : w1.frozen? ⟨w.heap.size + 1, 2, none⟩ = false := by simp [World.frozen?, bP]
        have p0 : w1.cell? ⟨w.heap.size + 1, 0, none⟩ = some (.int .i64 0) := by rw [cell_of_row w1 _ 0 _ _ (0, 0) bP]; rfl
        have p1 : w1.cell? ⟨w.heap.size + 1, 1, none⟩ = some (.int .i64 0) := by rw [cell_of_row w1 _ 1 _ _ (0, 0) bP]; rfl
        have p2 : w1.cell? ⟨w.heap.size + 1, 2, none⟩ = some (.slice none 0 0) := by rw [cell_of_row w1 _ 2 _ _ (0, 0) bP]; rfl
        have HBPW := Lib.hid bP
        have HB1 := Lib.hid hb1
        clear bP hb1)))
  obtain ⟨WF, hWF⟩ : ∃ WF, (((w1.setCell ⟨w.heap.size + 1, 0, none⟩ (.int .i64 0)).setCell ⟨w.heap.size + 1, 1, none⟩ (.int .i64 0)).setCell ⟨w.heap.size + 1, 2, none⟩ (.slice none 0 0)) = WF := ⟨_, rfl⟩
  have rF : WF.heap[w.heap.size + 1]? = some (.cells #[.int .i64 0, .int .i64 0, .slice none 0 0] 30 (0, 0)) := by rw [← hWF]; exact blk_set3 HBPW.out _ _ _
  have bF : Below w.heap.size w WF := by
    rw [← hWF]
    exact (((HB0.out.trans (HB1.out.mono (by omega))).setCell (p := ⟨w.heap.size + 1, 0, none⟩) (by show w.heap.size ≤ w.heap.size + 1; omega) _).setCell (p := ⟨w.heap.size + 1, 1, none⟩) (by show w.heap.size ≤ w.heap.size + 1; omega) _).setCell (p := ⟨w.heap.size + 1, 2, none⟩) (by show w.heap.size ≤ w.heap.size + 1; omega) _
  rw [hWF]
  exact bodyPost_ret (v := .tuple #[.agg #[.int .i64 0, .int .i64 0, .slice none 0 0], .int .i64 r]) (results_row_tmp Tryz.results27 _ _ (w.heap.size + 1) 30 _ (0, 0) _ rfl rF Tryz.underlying30 rfl (by kernel_rfl)) rfl ⟨rfl, bF⟩

set_option maxRecDepth 100000 in
set_option maxHeartbeats 3200000 in
theorem turned_bad (W H : Int) (a : Option Addr) (n c : Nat) (r : Int) (hr0 : r ≠ 0) (w : World)
    (hC : ∀ w1 : World, Below w.heap.size w w1 → Calls Tryz.prog 39 #[.agg #[.int .i64 W, .int .i64 H, .slice a n c]] w1 fun e w' => e = .returned (.int .i64 r) ∧ Below w1.heap.size w1 w') :
    Calls Tryz.prog 28 #[.agg #[.int .i64 W, .int .i64 H, .slice a n c]] w fun e w' =>
      e = .returned (.tuple #[.agg #[.int .i64 0, .int .i64 0, .slice none 0 0], .int .i64 r]) ∧ Below w.heap.size w w' := by
  have e0 : (r != 0) = true := by simp [hr0]
  obtain ⟨W0, hW0⟩ : ∃ W0, (w.alloc (.cells #[.int .i64 W, .int .i64 H, .slice a n c] 30)).alloc (.cells #[.int .i64 0, .int .i64 0, .slice none 0 0] 30) = W0 := ⟨_, rfl⟩
  have hB0 : Below w.heap.size w W0 := by rw [← hW0]; exact ((Below.refl _ w).alloc (Nat.le_refl _) _).alloc (by simp) _
  have hS0 : W0.heap.size = w.heap.size + 2 := by rw [← hW0]; simp
  have a0 : W0.cell? ⟨w.heap.size, 0, none⟩ = some (.int .i64 W) := by rw [← hW0]; simp [go_sem]
  have a1 : W0.cell? ⟨w.heap.size, 1, none⟩ = some (.int .i64 H) := by rw [← hW0]; simp [go_sem]
  have a2 : W0.cell? ⟨w.heap.size, 2, none⟩ = some (.slice a n c) := by rw [← hW0]; simp [go_sem]
  have bP0 : W0.heap[w.heap.size + 1]? = some (.cells #[.int .i64 0, .int .i64 0, .slice none 0 0] 30 (0, 0)) := by rw [← hW0]; exact blk_alloc_new1 _ _ _
  have HC := Lib.hid (hC W0 hB0)
  have HB0 := Lib.hid hB0
  have HBP := Lib.hid bP0
  clear hr0 hC hB0 bP0
  go_enter Tryz.func28, Tryz.ntmps28
  go_upto_region 1 with fail
  try rw [hW0]
  clear hW0
  go_wp2_with (first
    | ((go_at_call 39; refine HC.out.mono ?_; rintro e w1 ⟨rfl, hb1⟩
        have hs1 := hb1.size
        have bP := (hb1.block (w.heap.size + 1) (by omega)).trans HBP.out
        have q0 : w1.frozen? ⟨w.heap.size + 1, 0, none⟩ = false := by simp [World.frozen?, bP]
        have q1 : w1.frozen? ⟨w.heap.size + 1, 1, none⟩ = false := by simp [World.frozen?, bP]
        have q2 : w1.frozen? ⟨w.heap.size + 1, 2, none⟩ = false := by simp [World.frozen?, bP]
        have p0 : w1.cell? ⟨w.heap.size + 1, 0, none⟩ = some (.int .i64 0) := by rw [cell_of_row w1 _ 0 _ _ (0, 0) bP]; rfl
        have p1 : w1.cell? ⟨w.heap.size + 1, 1, none⟩ = some (.int .i64 0) := by rw [cell_of_row w1 _ 1 _ _ (0, 0) bP]; rfl
        have p2 : w1.cell? ⟨w.heap.size + 1, 2, none⟩ = some (.slice none 0 0) := by rw [cell_of_row w1 _ 2 _ _ (0, 0) bP]; rfl
        have HBPW := Lib.hid bP
        have HB1 := Lib.hid hb1
        clear bP hb1)))
  obtain ⟨WF, hWF⟩ : ∃ WF, (((w1.setCell ⟨w.heap.size + 1, 0, none⟩ (.int .i64 0)).setCell ⟨w.heap.size + 1, 1, none⟩ (.int .i64 0)).setCell ⟨w.heap.size + 1, 2, none⟩ (.slice none 0 0)) = WF := ⟨_, rfl⟩
  have rF : WF.heap[w.heap.size + 1]? = some (.cells #[.int .i64 0, .int .i64 0, .slice none 0 0] 30 (0, 0)) := by rw [← hWF]; exact blk_set3 HBPW.out _ _ _
  have bF : Below w.heap.size w WF := by
    rw [← hWF]
    exact (((HB0.out.trans (HB1.out.mono (by omega))).setCell (p := ⟨w.heap.size + 1, 0, none⟩) (by show w.heap.size ≤ w.heap.size + 1; omega) _).setCell (p := ⟨w.heap.size + 1, 1, none⟩) (by show w.heap.size ≤ w.heap.size + 1; omega) _).setCell (p := ⟨w.heap.size + 1, 2, none⟩) (by show w.heap.size ≤ w.heap.size + 1; omega) _
  rw [hWF]
  exact bodyPost_ret (v := .tuple #[.agg #[.int .i64 0, .int .i64 0, .slice none 0 0], .int .i64 r]) (results_row_tmp Tryz.results28 _ _ (w.heap.size + 1) 30 _ (0, 0) _ rfl rF Tryz.underlying30 rfl (by kernel_rfl)) rfl ⟨rfl, bF⟩
end Go.Proofs.YtnbohpcaejbpeaaGreatDoor
