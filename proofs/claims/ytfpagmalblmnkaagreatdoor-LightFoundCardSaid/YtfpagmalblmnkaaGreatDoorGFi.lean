/-
  Draw with an error; lists of integers in memory; listed() of the law's package.
-/
import Derived.Test.YtfpagmalblmnkaaGreatDoorGGd
import Derived.Test.YtfpagmalblmnkaaGreatDoorGFd
import Derived.Test.YtfpagmalblmnkaaGreatDoorGWx
import Derived.Test.YtfpagmalblmnkaaGreatDoorGGb
import Derived.Test.YtfpagmalblmnkaaGreatDoorGXg
namespace Go.Proofs.YtfpagmalblmnkaaGreatDoor
open Go.RowKit
set_option linter.unusedVariables false
set_option linter.unusedSimpArgs false

/-- A slice, nil or not, of the integers. -/
def IntsV (w : World) (v : Value) (n : Nat) (zs : List Int) : Prop :=
  ∃ a c, v = .slice a n c ∧ ∀ j, j < n → ∃ b o, a = some ⟨b, o, none⟩ ∧ b < w.heap.size ∧ w.cell? ⟨b, o + j, none⟩ = some (.int .i64 (zs[j]?.getD 0))
theorem IntsV.kept {w w' : World} {v : Value} {n : Nat} {zs : List Int} (h : IntsV w v n zs) (hb : Below w.heap.size w w') : IntsV w' v n zs := by
  obtain ⟨a, c, rfl, hc⟩ := h
  refine ⟨a, c, rfl, fun j hj => ?_⟩
  obtain ⟨b, o, rfl, h1, h2⟩ := hc j hj
  exact ⟨b, o, rfl, Nat.lt_of_lt_of_le h1 hb.size, (hb.cell (p := ⟨b, o + j, none⟩) h1).trans h2⟩
theorem IntsV.nil (w : World) (zs : List Int) : IntsV w (.slice none 0 0) 0 zs := ⟨none, 0, rfl, fun j hj => absurd hj (by omega)⟩
theorem IntsV.of_row {w : World} {B : Nat} {v : Value} {n : Nat} {zs : List Int} (h : w.ownsRow B 3 1 v n (zs.map (Value.int .i64))) : IntsV w v n zs := by
  have hl : zs.length = n := by have := h.1; simpa using this
  rcases h.2 with ⟨rfl, rfl⟩ | ⟨g, cap, cur, rfl, hb, hg, _⟩
  · exact IntsV.nil w zs
  · refine ⟨_, _, rfl, fun j hj => ⟨g, 0, rfl, lt_of_blk hg, ?_⟩⟩
    rw [Nat.zero_add]
    exact owns_cell h (by rw [List.getElem?_map, List.getElem?_eq_getElem (by omega)]; rfl)

def drawErr (key n : Int) : Int := firstNZ [rangeErr key 1 2147483646, rangeErr n 0 256]

set_option maxRecDepth 100000 in
set_option maxHeartbeats 6400000 in
theorem draw_bad (key n : Int) (h : drawErr key n ≠ 0) (w : World) :
    Calls Tryz.prog 63 #[.int .i64 key, .int .i64 n] w fun e w' => e = .returned (.tuple #[.slice none 0 0, .int .i64 (drawErr key n)]) ∧ Below w.heap.size w w' := by
  have HB : Hid (Below w.heap.size w (w.alloc (.cells #[.int .i64 (rangeErr key 1 2147483646), .int .i64 (rangeErr n 0 256)] 27))) := Lib.hid ((Below.refl _ w).alloc (Nat.le_refl _) _)
  obtain ⟨r, hr⟩ : ∃ r : Int, drawErr key n = r := ⟨_, rfl⟩
  rw [hr] at h ⊢
  have e0 : (r != 0) = true := by simp [h]
  have HR : Hid (firstNZ [rangeErr key 1 2147483646, rangeErr n 0 256] = r) := Lib.hid hr
  clear h hr
  go_enter Tryz.func63, Tryz.ntmps63
  go_wp2_with (first
    | (go_at_call_of 89 (Value.int .i64 key); refine (checkRange_any key 1 2147483646 _).mono ?_; rintro e w9 ⟨rfl, rfl⟩)
    | (go_at_call_of 89 (Value.int .i64 n); refine (checkRange_any n 0 256 _).mono ?_; rintro e w9 ⟨rfl, rfl⟩)
    | ((go_at_call 41; refine (first_any _ 0 2 2 [rangeErr key 1 2147483646, rangeErr n 0 256] rfl (by omega) _ ?_).mono ?_; rotate_left 1; rintro e w' ⟨rfl, rfl⟩; rw [HR.out]; rotate_left 1; (intro j hj; match j, hj with | 0, _ => simp [go_sem] | 1, _ => simp [go_sem]))))
  go_ret2
  exact ⟨rfl, HB.out⟩

/-- How many elements Draw returns. -/
def drawN (key n : Int) : Nat := if drawErr key n = 0 then n.toNat else 0
theorem drawErr_zero {key n : Int} (h : drawErr key n = 0) : (1 ≤ key ∧ key ≤ 2147483646) ∧ 0 ≤ n ∧ n ≤ 256 := by
  obtain ⟨h1, h2⟩ := firstNZ_two h
  exact ⟨rangeErr_zero h1, rangeErr_zero h2⟩

theorem draw_all (key n : Int) (w : World) :
    Calls Tryz.prog 63 #[.int .i64 key, .int .i64 n] w fun e w' => ∃ v, e = .returned (.tuple #[v, .int .i64 (drawErr key n)]) ∧ IntsV w' v (drawN key n) (drawL key n.toNat) ∧ Below w.heap.size w w' := by
  by_cases h : drawErr key n = 0
  · obtain ⟨hk, hn⟩ := drawErr_zero h
    obtain ⟨m, rfl⟩ := Int.eq_ofNat_of_zero_le hn.1
    refine (draw_any key m hk (by omega) w).mono ?_
    rintro e w' ⟨v, rfl, ho, hb⟩
    refine ⟨v, by rw [h], ?_, hb⟩
    unfold drawN
    rw [if_pos h]
    exact IntsV.of_row ho
  · refine (draw_bad key n h w).mono ?_
    rintro e w' ⟨rfl, hb⟩
    refine ⟨_, rfl, ?_, hb⟩
    unfold drawN
    rw [if_neg h]
    exact IntsV.nil w' _

end Go.Proofs.YtfpagmalblmnkaaGreatDoor

/-
  Contract of Lost for any telegrams and any station.
-/
namespace Go.Proofs.YtfpagmalblmnkaaGreatDoor
open Go.RowKit
set_option linter.unusedVariables false
set_option linter.unusedSimpArgs false

theorem counts_bd (L : List Tel) (st : Int) (h : ∀ t ∈ L, t.Good) (j : Nat) (hj : j < (countsOf L st).length) : 0 ≤ (countsOf L st)[j]?.getD 0 ∧ (countsOf L st)[j]?.getD 0 ≤ 65535 := by
  have hm : (countsOf L st)[j]?.getD 0 ∈ countsOf L st := by
    rw [List.getElem?_eq_getElem hj]; exact List.getElem_mem hj
  generalize (countsOf L st)[j]?.getD 0 = x at hm
  unfold countsOf at hm
  obtain ⟨t, ht, rfl⟩ := List.mem_map.1 hm
  exact (h t (List.mem_filter.1 ht).1).ct
theorem firstNZ_append (a b : List Int) : firstNZ (a ++ b) = if firstNZ a = 0 then firstNZ b else firstNZ a := by
  induction a with
  | nil => simp [firstNZ]
  | cons x r ih =>
    rw [List.cons_append, firstNZ, firstNZ]
    by_cases h : x = 0
    · simp [h, ih]
    · simp [h]
theorem firstNZ_mem {l : List Int} (h : firstNZ l = 0) : ∀ x ∈ l, x = 0 := by
  induction l with
  | nil => simp
  | cons x r ih =>
    rw [firstNZ] at h
    by_cases h0 : x = 0
    · simp only [h0, ne_eq, not_true, if_false] at h
      intro y hy
      rcases List.mem_cons.1 hy with rfl | hy
      · exact h0
      · exact ih h y hy
    · simp [h0] at h
theorem telsErr_good {L : List Tel} (h : telsErr L = 0) : ∀ t ∈ L, t.Good := fun t ht => by
  have h1 := firstNZ_mem h t.err (List.mem_map.2 ⟨t, ht, rfl⟩)
  rcases t.err_or with ⟨_, hg⟩ | h3
  · exact hg
  · rw [h3] at h1; cases h1

/-- The counters that are lost, and the error. -/
def lostL (L : List Tel) (st : Int) : List Int := cycTo (countsOf L st) ((countsOf L st).length - 1)
noncomputable def argErr (L : List Tel) (st : Int) : Int := firstNZ [telsErr L, rangeErr st 0 255]
noncomputable def lostErr (L : List Tel) (st : Int) : Int := if argErr L st ≠ 0 then argErr L st else if 256 < (lostL L st).length then 5 else 0
noncomputable def lostN (L : List Tel) (st : Int) : Nat := if lostErr L st = 0 then (lostL L st).length else 0
theorem argErr_app (L : List Tel) (st : Int) : firstNZ (L.map Tel.err ++ [rangeErr st 0 255]) = argErr L st := by
  unfold argErr telsErr
  rw [firstNZ_append]
  by_cases h : firstNZ (L.map Tel.err) = 0
  · rw [if_pos h, h]; simp [firstNZ]
  · rw [if_neg h]
    rw [firstNZ, if_pos h]
theorem argErr_zero {L : List Tel} {st : Int} (h : argErr L st = 0) : telsErr L = 0 ∧ 0 ≤ st ∧ st ≤ 255 := by
  obtain ⟨h1, h2⟩ := firstNZ_two h
  exact ⟨h1, rangeErr_zero h2⟩
theorem nil_slice {w : World} {B T sz : Nat} {v : Value} {xs : List Value} (h : w.ownsRow B T sz v 0 xs) : ∃ a c, v = .slice a 0 c := by
  rcases h.2 with ⟨rfl, _⟩ | ⟨g, cap, cur, rfl, _⟩
  · exact ⟨_, _, rfl⟩
  · exact ⟨_, _, rfl⟩

/-- missing at a slice that owns counters, or at none. -/
theorem missing_row (xs : List Int) (n : Nat) (hl : xs.length = n) (hA : ∀ j, j < n → 0 ≤ xs[j]?.getD 0 ∧ xs[j]?.getD 0 ≤ 65535) (hm : n ≤ 512) (w : World) (B : Nat) (v : Value) (h : w.ownsRow B 3 1 v n (xs.map (Value.int .i64))) :
    Calls Tryz.prog 102 #[v, .int .i64 257] w fun e w' =>
      ∃ v', e = .returned v' ∧ w'.ownsRow w.heap.size 3 1 v' ((cycTo xs (n - 1)).take 257).length (((cycTo xs (n - 1)).take 257).map (Value.int .i64)) ∧ Below w.heap.size w w' := by
  by_cases hn : 1 ≤ n
  · obtain ⟨g, c, rfl, hg, _⟩ := owns_some h hn
    exact missing_all xs n g c hA hn hm w hg (fun j hj => owns_cell h (by
      rw [List.getElem?_map, List.getElem?_eq_getElem (by rw [hl]; exact hj)]; rfl))
  · obtain rfl : n = 0 := by omega
    obtain ⟨ao, c, rfl⟩ := nil_slice h
    exact (missing_none ao c w).mono fun e w' ⟨he, hw⟩ => ⟨_, he, by subst hw; exact World.ownsRow_nil _ _ _ _, by subst hw; exact Below.refl _ _⟩

set_option maxRecDepth 100000 in
set_option maxHeartbeats 3200000 in
theorem checkList_tels (L : List Tel) (a : Option Addr) (n cp : Nat) (hm : n ≤ 512) (w : World) (hA : AnyTels w a n L) :
    Calls Tryz.prog 101 #[.slice a n cp, .int .i64 512, .func (.func 96) #[] #[]] w fun e w' =>
      e = .returned (.int .i64 (telsErr L)) ∧ Below w.heap.size w w' := by
  have K1 := Lib.hid (mapped_tels L a n cp hm w hA)
  have HN := Lib.hid hA.1.symm
  have i1 : ((n : Int) ≤ 512) := by omega
  clear hA
  go_enter Tryz.func101, Tryz.ntmps101
  go_wp2_with (first
    | (go_at_call 149; refine K1.out.mono ?_; rintro e w1 ⟨rfl, hown1, hb1⟩
       have HZ : Hid (∀ j, j < n → w1.cell? ⟨w.heap.size, 0 + j, none⟩ = some (.int .i64 ((L.map Tel.err)[j]?.getD 0))) := Lib.hid fun j hj => by
         rw [Nat.zero_add]
         refine owns_cell hown1 ?_
         first
           | (rw [List.getElem?_map, List.getElem?_eq_getElem (by have := HN.out; simp; omega)]; rfl)
           | (rw [List.getElem?_map, List.getElem?_map, List.getElem?_eq_getElem (by have := HN.out; omega)]; rfl)
       have HB := Lib.hid hb1
       clear hown1 hb1)
    | (go_at_call 41; refine (first_any _ 0 _ _ (L.map Tel.err) (by have := HN.out; simp; omega) (by omega) _ HZ.out).mono ?_; rintro e w' ⟨rfl, rfl⟩))
  go_ret
  exact ⟨rfl, HB.out⟩

set_option maxRecDepth 100000 in
set_option maxHeartbeats 3200000 in
theorem checkList_many (a : Option Addr) (cp : Nat) (w : World) :
    Calls Tryz.prog 101 #[.slice a 513 cp, .int .i64 512, .func (.func 96) #[] #[]] w fun e w' => e = .returned (.int .i64 5) ∧ w = w' := by
  go_enter Tryz.func101, Tryz.ntmps101
  go_wp2
  go_ret
  exact ⟨rfl, rfl⟩
theorem pair_at (w : World) (x y : Int) (T : TypeId) : ∀ j, j < 2 → (w.alloc (.cells #[.int .i64 x, .int .i64 y] T)).cell? ⟨w.heap.size, 0 + j, none⟩ = some (.int .i64 (([x, y] : List Int)[j]?.getD 0)) := fun j hj => by
  match j, hj with
  | 0, _ => simp [go_sem]
  | 1, _ => simp [go_sem]

set_option maxRecDepth 100000 in
set_option maxHeartbeats 3200000 in
theorem lost_many (a : Option Addr) (cp : Nat) (st : Int) (w : World) :
    Calls Tryz.prog 36 #[.slice a 513 cp, .int .i64 st] w fun e w' => e = .returned (.tuple #[.slice none 0 0, .int .i64 5]) ∧ Below w.heap.size w w' := by
  have hf : firstNZ [5, rangeErr st 0 255] = 5 := by simp [firstNZ]
  go_enter Tryz.func36, Tryz.ntmps36
  go_wp2_with (first
    | (go_at_call 101; refine (checkList_many _ _ _).mono ?_; rintro e w1 ⟨rfl, rfl⟩)
    | (go_at_call 89; refine (checkRange_any _ _ _ _).mono ?_; rintro e w' ⟨rfl, rfl⟩)
    | (go_at_call 41; refine (first_any _ 0 2 2 [5, rangeErr st 0 255] rfl (by decide) _ (pair_at _ _ _ _)).mono ?_; rintro e w' ⟨rfl, rfl⟩; rw [hf]))
  go_ret2
  exact ⟨rfl, (Below.refl _ _).alloc (Nat.le_refl _) _⟩

set_option maxRecDepth 100000 in
set_option maxHeartbeats 3200000 in
theorem lost_bad (L : List Tel) (a : Option Addr) (n cp : Nat) (st : Int) (hm : n ≤ 512) (w : World) (hA : AnyTels w a n L) (h0 : argErr L st ≠ 0) :
    Calls Tryz.prog 36 #[.slice a n cp, .int .i64 st] w fun e w' => e = .returned (.tuple #[.slice none 0 0, .int .i64 (argErr L st)]) ∧ Below w.heap.size w w' := by
  have K1 := Lib.hid (checkList_tels L a n cp hm w hA)
  obtain ⟨r, hr⟩ : ∃ r, argErr L st = r := ⟨_, rfl⟩
  have HR : Hid (firstNZ [telsErr L, rangeErr st 0 255] = r) := Lib.hid hr
  rw [hr] at h0 ⊢
  have e0 : (r != 0) = true := by simp [h0]
  clear hA hr h0
  go_enter Tryz.func36, Tryz.ntmps36
  go_wp2_with (first
    | (go_at_call 101; refine K1.out.mono ?_; rintro e w1 ⟨rfl, hb1⟩)
    | (go_at_call 89; refine (checkRange_any _ _ _ _).mono ?_; rintro e w' ⟨rfl, rfl⟩)
    | (go_at_call 41; refine (first_any _ 0 2 2 [telsErr L, rangeErr st 0 255] rfl (by decide) _ (pair_at _ _ _ _)).mono ?_; rintro e w' ⟨rfl, rfl⟩; rw [HR.out]))
  go_ret2
  exact ⟨rfl, hb1.alloc hb1.size _⟩

set_option maxRecDepth 100000 in
set_option maxHeartbeats 6400000 in
theorem lost_good (L : List Tel) (a : Option Addr) (n cp : Nat) (st : Int) (hm : n ≤ 512) (w : World) (hA : AnyTels w a n L) (h0 : argErr L st = 0) :
    Calls Tryz.prog 36 #[.slice a n cp, .int .i64 st] w fun e w' => ∃ v, e = .returned (.tuple #[v, .int .i64 (lostErr L st)]) ∧ IntsV w' v (lostN L st) (lostL L st) ∧ Below w.heap.size w w' := by
  obtain ⟨hg, hst⟩ := argErr_zero h0
  have hgood := telsErr_good hg
  have K1 := Lib.hid (checkList_tels L a n cp hm w hA)
  have K2 := Lib.hid (fun (w' : World) (h2 : AnyTels w' a n L) => countersOf_all L a n cp st hm w' h2)
  have hcl := counts_len L st
  have hln := hA.1
  have K3 := Lib.hid (fun (w' : World) (B : Nat) (v : Value) h => missing_row (countsOf L st) _ rfl (counts_bd L st hgood) (by omega) w' B v h)
  have HA := Lib.hid hA
  have HR : Hid (firstNZ [telsErr L, rangeErr st 0 255] = 0) := Lib.hid h0
  have hE : lostErr L st = if 256 < (lostL L st).length then 5 else 0 := by unfold lostErr; rw [if_neg (by simp [h0])]
  have K4 : Hid (∀ (w' : World) (B : Nat) (v : Value), w'.ownsRow B 3 1 v (countsOf L st).length ((countsOf L st).map (Value.int .i64)) → Calls Tryz.prog 102 #[v, .int .i64 257] w' fun e w'' =>
      ∃ v', e = .returned v' ∧ w''.ownsRow w'.heap.size 3 1 v' ((lostL L st).take 257).length (((lostL L st).take 257).map (Value.int .i64)) ∧ Below w'.heap.size w' w'') := K3
  unfold lostN
  rw [hE]
  obtain ⟨R, hR⟩ : ∃ R, lostL L st = R := ⟨_, rfl⟩
  rw [hR] at K4 ⊢
  clear hA hR K3 hg hst hgood hcl hln hE h0
  by_cases hlen : 256 < R.length
  · rw [if_pos hlen]
    have hT : (R.take 257).length = 257 := by rw [List.length_take]; omega
    rw [hT] at K4
    clear hT hlen
    go_enter Tryz.func36, Tryz.ntmps36
    go_wp2_with (first
      | (go_at_call 101; refine K1.out.mono ?_; rintro e w1 ⟨rfl, hb1⟩)
      | (go_at_call 89; refine (checkRange_any _ _ _ _).mono ?_; rintro e w' ⟨rfl, rfl⟩)
      | (go_at_call 41; refine (first_any _ 0 2 2 [telsErr L, rangeErr st 0 255] rfl (by decide) _ (pair_at _ _ _ _)).mono ?_; rintro e w' ⟨rfl, rfl⟩; rw [HR.out]
         have hb3 : Below w.heap.size w (w1.alloc (.cells #[.int .i64 (telsErr L), .int .i64 (rangeErr st 0 255)] 27)) := hb1.alloc hb1.size _
         have hw3 := hb3.size
         have hc3 := HA.out.kept hb3
         have K5 := Lib.hid (K2.out _ hc3)
         clear hc3)
      | (go_at_call 103; refine K5.out.mono ?_; rintro e w4 ⟨v4, rfl, hown4, hb4⟩
         have K6 := Lib.hid (K4.out w4 _ _ hown4)
         have hb5 : Below w.heap.size w w4 := hb3.trans (hb4.mono hw3))
      | (go_at_call 102; refine K6.out.mono ?_; rintro e w6 ⟨v6, rfl, hown6, hb6⟩
         obtain ⟨ao, c6, rfl⟩ := owns_slice hown6
         have hb7 : Below w.heap.size w w6 := hb5.trans (hb6.mono hb5.size)))
    go_ret2
    exact ⟨_, rfl, IntsV.nil _ _, hb7⟩
  · rw [if_neg hlen]
    have hT : R.take 257 = R := List.take_of_length_le (by omega)
    rw [hT] at K4
    have i2 : ¬ ((256 : Int) < (R.length : Int)) := by omega
    obtain ⟨ℓ, hℓ⟩ : ∃ ℓ, R.length = ℓ := ⟨_, rfl⟩
    rw [hℓ] at K4 i2 ⊢
    clear hT hlen hℓ
    go_enter Tryz.func36, Tryz.ntmps36
    go_wp2_with (first
      | (go_at_call 101; refine K1.out.mono ?_; rintro e w1 ⟨rfl, hb1⟩)
      | (go_at_call 89; refine (checkRange_any _ _ _ _).mono ?_; rintro e w' ⟨rfl, rfl⟩)
      | (go_at_call 41; refine (first_any _ 0 2 2 [telsErr L, rangeErr st 0 255] rfl (by decide) _ (pair_at _ _ _ _)).mono ?_; rintro e w' ⟨rfl, rfl⟩; rw [HR.out]
         have hb3 : Below w.heap.size w (w1.alloc (.cells #[.int .i64 (telsErr L), .int .i64 (rangeErr st 0 255)] 27)) := hb1.alloc hb1.size _
         have hw3 := hb3.size
         have hc3 := HA.out.kept hb3
         have K5 := Lib.hid (K2.out _ hc3)
         clear hc3)
      | (go_at_call 103; refine K5.out.mono ?_; rintro e w4 ⟨v4, rfl, hown4, hb4⟩
         have K6 := Lib.hid (K4.out w4 _ _ hown4)
         have hb5 : Below w.heap.size w w4 := hb3.trans (hb4.mono hw3))
      | (go_at_call 102; refine K6.out.mono ?_; rintro e w6 ⟨v6, rfl, hown6, hb6⟩
         obtain ⟨ao, c6, rfl⟩ := owns_slice hown6
         have hb7 : Below w.heap.size w w6 := hb5.trans (hb6.mono hb5.size)))
    go_ret2
    exact ⟨_, rfl, IntsV.of_row hown6, hb7⟩

theorem lost_all (L : List Tel) (a : Option Addr) (n cp : Nat) (st : Int) (hm : n ≤ 512) (w : World) (hA : AnyTels w a n L) :
    Calls Tryz.prog 36 #[.slice a n cp, .int .i64 st] w fun e w' => ∃ v, e = .returned (.tuple #[v, .int .i64 (lostErr L st)]) ∧ IntsV w' v (lostN L st) (lostL L st) ∧ Below w.heap.size w w' := by
  by_cases h0 : argErr L st = 0
  · exact lost_good L a n cp st hm w hA h0
  · have hE : lostErr L st = argErr L st := by unfold lostErr; rw [if_pos h0]
    refine (lost_bad L a n cp st hm w hA h0).mono ?_
    rintro e w' ⟨rfl, hb⟩
    refine ⟨_, by rw [hE], ?_, hb⟩
    unfold lostN
    rw [hE, if_neg h0]
    exact IntsV.nil _ _
end Go.Proofs.YtfpagmalblmnkaaGreatDoor

/-
  Contract of Extended over a row of spans that the call owns.
-/
namespace Go.Proofs.YtfpagmalblmnkaaGreatDoor
open Go.RowKit
set_option linter.unusedVariables false
set_option linter.unusedSimpArgs false

/-- Spans behind an index more. -/
def extL (l : List (Int × Int)) (at' : Int) : List (Int × Int) :=
  if l.length ≠ 0 ∧ (l[l.length - 1]?.getD (0, 0)).2 = at' then l.set (l.length - 1) ((l[l.length - 1]?.getD (0, 0)).1, at' + 1) else l ++ [(at', at' + 1)]
theorem extL_len (l : List (Int × Int)) (a : Int) : (extL l a).length ≤ l.length + 1 := by
  unfold extL; split <;> simp
theorem flat_len2 (l : List (Int × Int)) : (l.flatMap qval).length = l.length * 2 := by
  induction l with
  | nil => rfl
  | cons p r ih => rw [List.flatMap_cons, List.length_append, ih]; simp [qval]; omega
theorem flat_at2 : ∀ (l : List (Int × Int)) (k : Nat), k < l.length → (l.flatMap qval)[k * 2]? = some (.int .i64 (l[k]?.getD (0, 0)).1) ∧ (l.flatMap qval)[k * 2 + 1]? = some (.int .i64 (l[k]?.getD (0, 0)).2)
  | [], _, h => by simp at h
  | q :: l, 0, _ => by simp [qval]
  | q :: l, k + 1, h => by
    have ih := flat_at2 l k (by simpa using h)
    have e1 : (k + 1) * 2 = k * 2 + 1 + 1 := by omega
    rw [e1]
    simp only [List.flatMap_cons, qval, List.cons_append, List.nil_append, List.getElem?_cons_succ]
    exact ih
theorem flat_set2 : ∀ (l : List (Int × Int)) (k : Nat) (b : Int), k < l.length → (l.flatMap qval).set (k * 2 + 1) (.int .i64 b) = (l.set k ((l[k]?.getD (0, 0)).1, b)).flatMap qval
  | [], _, _, h => by simp at h
  | q :: l, 0, b, _ => by simp [qval]
  | q :: l, k + 1, b, h => by
    have ih := flat_set2 l k b (by simpa using h)
    have e1 : (k + 1) * 2 + 1 = (k * 2 + 1) + 1 + 1 := by omega
    rw [e1]
    simp only [List.flatMap_cons, qval, List.cons_append, List.nil_append, List.set_cons_succ, List.getElem?_cons_succ, List.set_cons_succ]
    rw [ih]
theorem grownBy_trans {a b c : World} {row : Option Nat} (h : a.grownBy b row) (k : b.grownBy c row) : a.grownBy c row :=
  ⟨k.os.trans h.os, k.tape.trans h.tape, k.output.trans h.output, Nat.le_trans h.size k.size, fun i hi hne => (k.block i (Nat.lt_of_lt_of_le hi h.size) hne).trans (h.block i hi hne)⟩
theorem own_ne {w : World} {B B' e1 e2 s1 s2 n1 n2 : Nat} {v1 v2 : Value} {x1 x2 : List Value} (h1 : w.ownsRow B e1 s1 v1 n1 x1) (h2 : w.ownsRow B' e2 s2 v2 n2 x2) (hne : e1 ≠ e2) : v1.ownBlock = none ∨ v1.ownBlock ≠ v2.ownBlock := by
  rcases h1.2 with ⟨rfl, _⟩ | ⟨g, cap, cur, rfl, _, hg, _⟩
  · exact .inl rfl
  · rcases h2.2 with ⟨rfl, _⟩ | ⟨g', cap', cur', rfl, _, hg', _⟩
    · exact .inr (by simp [Value.ownBlock])
    · refine .inr fun e => ?_
      simp [Value.ownBlock] at e
      subst e
      rw [hg] at hg'
      simp at hg'
      exact hne hg'.2
theorem Tryz.infoSpan : (Tryz.prog.info? 90).map (fun i => (i.zero, i.size, i.bytes)) = some (some (.agg #[.int .i64 0, .int .i64 0]), 2, 16) := by kernel_rfl
theorem cells_newQ (w : World) (T : TypeId) (a b : Value) : ∀ j u, [a, b][j]? = some u → (w.alloc (.cells #[a, b] T)).cell? ((⟨w.heap.size, 0, none⟩ : Addr).add j) = some u := fun j u h => by
  rw [Addr.add_mid, cell_of_row _ w.heap.size (0 + j) _ _ (0, 0) (heap_alloc_new w _)]
  simpa using h

set_option maxRecDepth 100000 in
set_option maxHeartbeats 3200000 in
theorem extended_any (l : List (Int × Int)) (a : Nat) (B : Nat) (v : Value) (w : World) (hB : B ≤ w.heap.size) (hm : l.length ≤ 13000) (ha : a ≤ 13000) (ho : w.ownsRow B 90 2 v l.length (l.flatMap qval)) :
    Calls Tryz.prog 100 #[v, .int .i64 a] w fun e w' => ∃ v', e = .returned v' ∧ w'.ownsRow B 90 2 v' (extL l a).length ((extL l a).flatMap qval) ∧ w.grownBy w' v.ownBlock := by
  obtain ⟨i0, hi, hz0, hz1, hz2⟩ := info_parts Tryz.infoSpan
  by_cases h : l.length ≠ 0 ∧ (l[l.length - 1]?.getD (0, 0)).2 = a
  · have hX : extL l a = l.set (l.length - 1) ((l[l.length - 1]?.getD (0, 0)).1, (a : Int) + 1) := by unfold extL; rw [if_pos h]
    obtain ⟨g, c, rfl, hgl, hgB⟩ := owns_some ho (by omega)
    obtain ⟨m, hm'⟩ : ∃ m, l.length = m + 1 := ⟨l.length - 1, by omega⟩
    have hc1 := (flat_at2 l m (by omega)).2
    have hs := flat_set2 l m ((a : Int) + 1) (by omega)
    have e2 : (l[m]?.getD (0, 0)).2 = a := by have := h.2; rwa [hm', Nat.add_sub_cancel] at this
    rw [e2] at hc1
    have c1 : w.cell? ⟨g, m * 2 + 1, none⟩ = some (.int .i64 a) := by
      have h := ho.cells (g := g) rfl (m * 2 + 1) _ hc1
      rwa [Addr.add_mid, Nat.zero_add] at h
    have f1 := ho.frozenAt (m * 2 + 1)
    have hst := ho.stored (m * 2 + 1) (.int .i64 ((a : Int) + 1))
    rw [hs] at hst
    rw [hX, hm', Nat.add_sub_cancel, List.length_set]
    rw [hm'] at hst ⊢
    have HST := Lib.hid hst
    have HGR : Hid (w.grownBy (w.setCell ⟨g, m * 2 + 1, none⟩ (.int .i64 ((a : Int) + 1))) (some g)) := Lib.hid (OnlyBlk.set w g (m * 2 + 1) _).1
    have k0 : (0 : Int) ≤ (m : Int) := by omega
    have k1 : (m : Int) < (m : Int) + 1 := by omega
    have k2 : ((a : Int) == a) = true := by simp
    have k3 : (m : Int) ≤ 13000 := by omega
    have k4 : (a : Int) ≤ 13000 := by omega
    clear h hX ho hc1 hs e2 hst hm' hm
    go_enter Tryz.func100, Tryz.ntmps100
    go_wp2
    go_ret
    exact ⟨_, rfl, HST.out.1, HGR.out⟩
  · have hX : extL l a = l ++ [((a : Int), (a : Int) + 1)] := by unfold extL; rw [if_neg h]
    have hF : (extL l a).flatMap qval = l.flatMap qval ++ [.int .i64 (a : Int), .int .i64 ((a : Int) + 1)] := by rw [hX]; simp [qval]
    have hL : (extL l a).length = l.length + 1 := by rw [hX]; simp
    rw [hF, hL]
    have k4 : (a : Int) ≤ 13000 := by omega
    have hgr : w.grownBy (w.alloc (.cells #[.int .i64 (a : Int), .int .i64 ((a : Int) + 1)] 90)) v.ownBlock := World.grownBy_alloc _ _ _
    have HGR := Lib.hid hgr
    clear hX hF hL hgr
    by_cases h0 : l.length = 0
    · obtain ⟨F, hFl⟩ : ∃ F, l.flatMap qval = F := ⟨_, rfl⟩
      rw [hFl, h0] at ho
      rw [hFl, h0]
      obtain ⟨aa, c, rfl⟩ := nil_slice ho
      clear h h0 hm hFl
      go_enter Tryz.func100, Tryz.ntmps100
      go_wp2_with (at_builtin; refine wpList_append_own _ rfl (.tmp 29) (.tmp 34) 85 rfl B 90 i0 (.agg #[.int .i64 0, .int .i64 0]) 2 16 Tryz.underlying85 hi hz0 hz1 hz2 rfl (by decide) _ 0 _ rfl (ho.alloc _) ⟨w.heap.size, 0, none⟩ 1 1 [.int .i64 (a : Int), .int .i64 ((a : Int) + 1)] rfl rfl (cells_newQ _ _ _ _) (by intro u hu; simp at hu; rcases hu with rfl | rfl <;> rfl) (by unfold maxLen; omega) (by omega) (by simp; omega) ?_; intro v' w1 hown1 hgrow1 _)
      go_ret
      exact ⟨_, rfl, hown1, grownBy_trans HGR.out hgrow1⟩
    · obtain ⟨g, c, rfl, hgl, hgB⟩ := owns_some ho (by omega)
      obtain ⟨m, hm'⟩ : ∃ m, l.length = m + 1 := ⟨l.length - 1, by omega⟩
      have hc1 := (flat_at2 l m (by omega)).2
      obtain ⟨x, hx⟩ : ∃ x, (l[m]?.getD (0, 0)).2 = x := ⟨_, rfl⟩
      have e2 : x ≠ a := fun e => h ⟨h0, by rw [hm', Nat.add_sub_cancel, hx]; exact e⟩
      rw [hx] at hc1
      have c1 : w.cell? ⟨g, m * 2 + 1, none⟩ = some (.int .i64 x) := by
        have h := ho.cells (g := g) rfl (m * 2 + 1) _ hc1
        rwa [Addr.add_mid, Nat.zero_add] at h
      obtain ⟨F, hFl⟩ : ∃ F, l.flatMap qval = F := ⟨_, rfl⟩
      rw [hFl, hm'] at ho
      rw [hFl, hm']
      have k0 : (0 : Int) ≤ (m : Int) := by omega
      have k1 : (m : Int) < (m : Int) + 1 := by omega
      have k2 : (x == (a : Int)) = false := by simp [e2]
      have k3 : (m : Int) ≤ 13000 := by omega
      have k5 : m ≤ 13000 := by omega
      have HO := Lib.hid ho
      clear h h0 hm hFl hm' hc1 hx e2 ho
      go_enter Tryz.func100, Tryz.ntmps100
      go_wp2_with (at_builtin; refine wpList_append_own _ rfl (.tmp 29) (.tmp 34) 85 rfl B 90 i0 (.agg #[.int .i64 0, .int .i64 0]) 2 16 Tryz.underlying85 hi hz0 hz1 hz2 rfl (by decide) _ (m + 1) _ rfl (HO.out.alloc _) ⟨w.heap.size, 0, none⟩ 1 1 [.int .i64 (a : Int), .int .i64 ((a : Int) + 1)] rfl rfl (cells_newQ _ _ _ _) (by intro u hu; simp at hu; rcases hu with rfl | rfl <;> rfl) (by unfold maxLen; omega) (by omega) (by simp; omega) ?_; intro v' w1 hown1 hgrow1 _)
      go_ret
      exact ⟨_, rfl, hown1, grownBy_trans HGR.out hgrow1⟩
end Go.Proofs.YtfpagmalblmnkaaGreatDoor

/-
  Contract of Received for any stream.
-/
namespace Go.Proofs.YtfpagmalblmnkaaGreatDoor
open Go.RowKit
set_option linter.unusedVariables false
set_option linter.unusedSimpArgs false

/-- What is received, and skipped, from a place on. -/
noncomputable def rcv (S : List Int) (n : Nat) : Nat → Nat → List Tel → List (Int × Int) → List Tel × List (Int × Int)
  | 0, _, ts, sp => (ts, sp)
  | f + 1, k, ts, sp => if k < n then (if okAt S n k = true then rcv S n f (k + 24) (ts ++ [telAt S n k]) sp else rcv S n f (k + 1) ts (extL sp k)) else (ts, sp)
theorem rcv_fuel (S : List Int) (n : Nat) : ∀ (f g k : Nat) (ts : List Tel) (sp : List (Int × Int)), n ≤ k + f → n ≤ k + g → rcv S n f k ts sp = rcv S n g k ts sp
  | 0, 0, _, _, _, _, _ => rfl
  | 0, g + 1, k, ts, sp, h, _ => by rw [rcv, rcv, if_neg (by omega)]
  | f + 1, 0, k, ts, sp, _, h => by rw [rcv, rcv, if_neg (by omega)]
  | f + 1, g + 1, k, ts, sp, hf, hg => by
    rw [rcv, rcv]
    by_cases h : k < n
    · rw [if_pos h, if_pos h]
      by_cases ho : okAt S n k = true
      · rw [if_pos ho, if_pos ho, rcv_fuel S n f g (k + 24) _ _ (by omega) (by omega)]
      · rw [if_neg ho, if_neg ho, rcv_fuel S n f g (k + 1) _ _ (by omega) (by omega)]
    · rw [if_neg h, if_neg h]
theorem rcv_hit {S : List Int} {n k : Nat} {ts : List Tel} {sp : List (Int × Int)} (h : k < n) (ho : okAt S n k = true) : rcv S n n k ts sp = rcv S n n (k + 24) (ts ++ [telAt S n k]) sp := by
  obtain ⟨m, rfl⟩ : ∃ m, n = m + 1 := ⟨n - 1, by omega⟩
  rw [rcv, if_pos h, if_pos ho]
  exact rcv_fuel _ _ _ _ _ _ _ (by omega) (by omega)
theorem rcv_miss {S : List Int} {n k : Nat} {ts : List Tel} {sp : List (Int × Int)} (h : k < n) (ho : okAt S n k = false) : rcv S n n k ts sp = rcv S n n (k + 1) ts (extL sp k) := by
  obtain ⟨m, rfl⟩ : ∃ m, n = m + 1 := ⟨n - 1, by omega⟩
  rw [rcv, if_pos h, if_neg (by simp [ho])]
  exact rcv_fuel _ _ _ _ _ _ _ (by omega) (by omega)
theorem rcv_end {S : List Int} {n k : Nat} {ts : List Tel} {sp : List (Int × Int)} (h : n ≤ k) : rcv S n n k ts sp = (ts, sp) := by
  cases n with
  | zero => rfl
  | succ m => rw [rcv, if_neg (by omega)]
noncomputable def rcvL (S : List Int) (n : Nat) : List Tel := (rcv S n n 0 [] []).1
noncomputable def rcvP (S : List Int) (n : Nat) : List (Int × Int) := (rcv S n n 0 [] []).2
theorem flat_snoc (ts : List Tel) (t : Tel) : (ts ++ [t]).flatMap Tel.val = ts.flatMap Tel.val ++ t.val := by simp

set_option maxRecDepth 100000 in
set_option maxHeartbeats 6400000 in
theorem received_all (S : List Int) (a : Option Addr) (n cp : Nat) (hm : n ≤ 12288) (hcp : n ≤ cp) (hcq : cp ≤ 9223372036854775807) (w : World) (hA : AnyBytes w a n S) :
    Calls Tryz.prog 34 #[.slice a n cp] w fun e w' =>
      ∃ v1 v2, e = .returned (.tuple #[v1, v2, .int .i64 0]) ∧ w'.ownsRow w.heap.size 79 6 v1 (rcvL S n).length ((rcvL S n).flatMap Tel.val) ∧ w'.ownsRow w.heap.size 90 2 v2 (rcvP S n).length ((rcvP S n).flatMap qval) ∧ Below w.heap.size w w' := by
  obtain ⟨i0, hi, hz0, hz1, hz2⟩ := info_parts Tryz.infoTel
  have HA := Lib.hid hA
  have i1 : ((n : Int) ≤ 12288) := by omega
  clear hA
  go_enter Tryz.func34, Tryz.ntmps34
  go_wp2
  go_loopw [5, 6, 7] (fun out sk i wr => ∃ (k : Nat) (ts : List Tel) (sp : List (Int × Int)), i = .int .i64 k ∧ k ≤ n + 23 ∧ ts.length ≤ k ∧ sp.length ≤ k ∧ Hid (rcv S n n k ts sp = rcv S n n 0 [] []) ∧
      wr.ownsRow w.heap.size 79 6 out ts.length (ts.flatMap Tel.val) ∧ wr.ownsRow w.heap.size 90 2 sk sp.length (sp.flatMap qval) ∧ Below w.heap.size w wr)
    (fun _ _ i _ => n - (intOf i).toNat)
  case atStart => exact ⟨0, [], [], rfl, by omega, by simp, by simp, Lib.hid rfl, World.ownsRow_nil _ _ _ _, World.ownsRow_nil _ _ _ _, Below.refl _ _⟩
  case round =>
    obtain ⟨k, ts, sp, rfl, hk, hts, hsp, hr, hown, hsk, hnx⟩ := hrel
    have hsz : w.heap.size ≤ wr.heap.size := hnx.size
    by_cases hlt : k < n
    · have h4 : (k : Int) < (n : Int) := by omega
      obtain ⟨b, q, rfl, hb, hc⟩ := HA.out.2 k hlt
      have hS := HA.out.1
      have hc2 : wr.rangeAt b q (S.map (Value.int .u8)) := fun i v hv => by rw [hnx.cell (by exact hb)]; exact hc i v hv
      have K := Lib.hid (telegramAt_all S b q n cp k hS (by omega) hm hcp hcq wr (by omega) hc2)
      obtain ⟨t, ht⟩ : ∃ t, telAt S n k = t := ⟨_, rfl⟩
      rw [ht] at K
      unfold Tel.agg at K
      have h5 : k ≤ 12311 := by omega
      have h6 : (k : Int) ≤ 12311 := by omega
      by_cases ho : okAt S n k = true
      · have hstep := rcv_hit (ts := ts) (sp := sp) hlt ho
        rw [ht] at hstep
        rw [ho] at K
        have HST : Hid (rcv S n n (k + 24) (ts ++ [t]) sp = rcv S n n 0 [] []) := Lib.hid (hstep.symm.trans hr.out)
        have HFL := Lib.hid (flat_snoc ts t)
        obtain ⟨F, hF⟩ : ∃ F, ts.flatMap Tel.val = F := ⟨_, rfl⟩
        obtain ⟨G, hG⟩ : ∃ G, sp.flatMap qval = G := ⟨_, rfl⟩
        obtain ⟨m1, hm1⟩ : ∃ m, ts.length = m := ⟨_, rfl⟩
        obtain ⟨m2, hm2⟩ : ∃ m, sp.length = m := ⟨_, rfl⟩
        rw [hF] at HFL
        rw [hF, hm1] at hown
        rw [hG, hm2] at hsk
        rw [hm1] at hts
        rw [hm2] at hsp
        have HM := Lib.hid (And.intro hm1 (And.intro hm2 hG))
        have HSK := Lib.hid hsk
        have HOWN := Lib.hid hown
        have HNX := Lib.hid hnx
        clear ho ht hstep hr hc hc2 hS hF hG hm1 hm2 hsk hown hnx HA
        go_wp2_with (first
          | (go_at_call 99; refine K.out.mono ?_; rintro e w2 ⟨rfl, hb2⟩
             have hown2 := owns_kept HOWN.out hb2 (Nat.le_refl _)
             have hsk2 := owns_kept HSK.out hb2 (Nat.le_refl _)
             have HSK2 := Lib.hid hsk2
             have hs2 := hb2.size
             clear hsk2)
          | (at_builtin; refine wpList_append_own _ rfl (.tmp 24) (.tmp 26) 73 rfl w.heap.size 79 i0 (.agg #[.int .i64 0, .int .i64 0, .int .i64 0, .int .i64 0, .int .i64 0, .int .i64 0]) 6 48 Tryz.underlying73 hi hz0 hz1 hz2 rfl (by decide) _ m1 _ rfl ((hown2.alloc _).alloc _) ⟨w2.heap.size + 1, 0, none⟩ 1 1 t.val rfl rfl (cells_new6' _ _ _ _ _ _ _ _ _) (by intro u hu; simp [Tel.val] at hu; rcases hu with rfl | rfl | rfl | rfl | rfl | rfl <;> rfl) (by unfold maxLen; omega) (by omega) (by simp; omega) ?_; intro v' w3 hown3 hgrow3 _))
        have hlt' := hown2.lt
        have hB2 : Below w.heap.size w w2 := HNX.out.trans (hb2.mono hsz)
        have hskE := ((HSK2.out.alloc (.cells #[.int .i64 t.s, .int .i64 t.c, .int .i64 t.o, .int .i64 t.x, .int .i64 t.y, .int .i64 t.z] 79)).alloc (.cells #[.int .i64 t.s, .int .i64 t.c, .int .i64 t.o, .int .i64 t.x, .int .i64 t.y, .int .i64 t.z] 79)).kept hgrow3 (own_ne HSK2.out hown2 (by decide))
        go_roundw
        case rel => exact ⟨k + 24, ts ++ [t], sp, by go_num, by omega, by rw [List.length_append, HM.out.1]; simp; omega, by rw [HM.out.2.1]; omega, HST, by rw [List.length_append, HM.out.1, HFL.out]; exact hown3, by rw [HM.out.2.1, HM.out.2.2]; exact hskE, ((hB2.alloc (by omega) _).alloc (by simp; omega) _).grown hgrow3 (by simp; omega) (fun j hj => (hlt' j hj).1)⟩
        case measure => simp [intOf]; omega
      · have ho := Bool.eq_false_iff.2 ho
        have hstep := rcv_miss (ts := ts) (sp := sp) hlt ho
        rw [ho] at K
        have HST : Hid (rcv S n n (k + 1) ts (extL sp k) = rcv S n n 0 [] []) := Lib.hid (hstep.symm.trans hr.out)
        have hxl := extL_len sp k
        have KE := Lib.hid (fun (w1 : World) (h1 : w.heap.size ≤ w1.heap.size) h2 => extended_any sp k w.heap.size u6 w1 h1 (by omega) (by omega) h2)
        obtain ⟨F, hF⟩ : ∃ F, ts.flatMap Tel.val = F := ⟨_, rfl⟩
        obtain ⟨m1, hm1⟩ : ∃ m, ts.length = m := ⟨_, rfl⟩
        obtain ⟨X, hX⟩ : ∃ X, extL sp k = X := ⟨_, rfl⟩
        rw [hX] at HST KE hxl
        rw [hF, hm1] at hown
        rw [hm1] at hts
        have HM := Lib.hid (And.intro hm1 hF)
        have HSK := Lib.hid hsk
        have HOWN := Lib.hid hown
        have HNX := Lib.hid hnx
        clear ho ht hstep hr hc hc2 hS hF hm1 hX hsk hown hnx HA
        go_wp2_with (first
          | (go_at_call 99; refine K.out.mono ?_; rintro e w2 ⟨rfl, hb2⟩
             have hown2 := owns_kept HOWN.out hb2 (Nat.le_refl _)
             have hsk2 := owns_kept HSK.out hb2 (Nat.le_refl _)
             have HOWN2 := Lib.hid hown2
             have hs2 := hb2.size
             clear hown2)
          | (go_at_call 100; refine (KE.out _ (by simp; omega) (hsk2.alloc _)).mono ?_; rintro e w3 ⟨v', rfl, hown3, hgrow3⟩))
        have hlt' := hsk2.lt
        have hB2 : Below w.heap.size w w2 := HNX.out.trans (hb2.mono hsz)
        have hoE := (HOWN2.out.alloc (.cells #[.int .i64 t.s, .int .i64 t.c, .int .i64 t.o, .int .i64 t.x, .int .i64 t.y, .int .i64 t.z] 79)).kept hgrow3 (own_ne HOWN2.out hsk2 (by decide))
        go_roundw
        case rel => exact ⟨k + 1, ts, X, by go_num, by omega, by rw [HM.out.1]; omega, by omega, HST, by rw [HM.out.1, HM.out.2]; exact hoE, hown3, (hB2.alloc (by omega) _).grown hgrow3 (by simp; omega) (fun j hj => (hlt' j hj).1)⟩
        case measure => simp [intOf]; omega
    · have h4 : ¬ ((k : Int) < (n : Int)) := by omega
      have he := rcv_end (S := S) (ts := ts) (sp := sp) (show n ≤ k by omega)
      have e1 : rcvL S n = ts := by unfold rcvL; rw [← hr.out, he]
      have e2 : rcvP S n = sp := by unfold rcvP; rw [← hr.out, he]
      rw [← e1] at hown
      rw [← e2] at hsk
      have HO := Lib.hid hown
      have HK := Lib.hid hsk
      have HX := Lib.hid hnx
      clear he e1 e2 hown hsk hnx hr
      go_wp2
      refine bodyPost_ret (v := .tuple #[u5, u6, .int .i64 0]) (by simp [results, Tryz.results34, go_sem]) rfl ⟨_, _, rfl, HO.out, HK.out, HX.out⟩

set_option maxRecDepth 100000 in
theorem received_long (a : Option Addr) (n cp : Nat) (hm : 12288 < n) (hl : n ≤ 100000) (w : World) :
    Calls Tryz.prog 34 #[.slice a n cp] w fun e w' => e = .returned (.tuple #[.slice none 0 0, .slice none 0 0, .int .i64 26]) ∧ w = w' := by
  have i1 : (12288 : Int) < (n : Int) := by omega
  have i2 : (n : Int) ≤ 100000 := by omega
  go_enter Tryz.func34, Tryz.ntmps34
  go_wp2
  refine bodyPost_ret (v := .tuple #[.slice none 0 0, .slice none 0 0, .int .i64 26]) (by simp [results, Tryz.results34, go_sem]) rfl ⟨rfl, rfl⟩
end Go.Proofs.YtfpagmalblmnkaaGreatDoor

/-
  LightFound, plain mathematics: a frame of which one byte is changed is none; what is received of frames behind bytes that are no marks; the counter that is lost.
-/
namespace Go.Proofs.YtfpagmalblmnkaaGreatDoor
open Go.RowKit
set_option linter.unusedVariables false
set_option linter.unusedSimpArgs false

/-! ### The checksum tells one changed byte -/
def chkFrom (x : Int) (l : List Int) : Int := l.foldl (fun x b => (277 * x + b) % 16777199) x
theorem chkFrom_bd (l : List Int) : ∀ x : Int, 0 ≤ x ∧ x ≤ 16777198 → 0 ≤ chkFrom x l ∧ chkFrom x l ≤ 16777198 := by
  unfold chkFrom
  induction l with
  | nil => intro x h; exact h
  | cons b l ih => intro x h; refine ih _ ?_; dsimp only; omega
theorem chkFrom_inj : ∀ (l : List Int) (x y : Int), 0 ≤ x ∧ x ≤ 16777198 → 0 ≤ y ∧ y ≤ 16777198 → chkFrom x l = chkFrom y l → x = y
  | [], x, y, _, _, h => h
  | b :: l, x, y, hx, hy, h => by
    have h1 := chkFrom_inj l ((277 * x + b) % 16777199) ((277 * y + b) % 16777199) (by omega) (by omega) h
    omega
theorem chk_one (l1 l2 : List Int) {b b' : Int} (hb : 0 ≤ b ∧ b ≤ 255) (hb' : 0 ≤ b' ∧ b' ≤ 255) (h : chkOf (l1 ++ b :: l2) = chkOf (l1 ++ b' :: l2)) : b = b' := by
  have e : ∀ c : Int, chkOf (l1 ++ c :: l2) = chkFrom ((277 * chkFrom 1 l1 + c) % 16777199) l2 := fun c => by
    unfold chkOf chkFrom; rw [List.foldl_append]; rfl
  rw [e, e] at h
  have h1 := chkFrom_inj l2 _ _ (by omega) (by omega) h
  omega

/-! ### Frames by their bytes -/
def headB (p : List Int) : List Int := 77 :: (p ++ [255 - p[0]?.getD 0, 255 - p[1]?.getD 0, 255 - p[2]?.getD 0])
def frameB (p : List Int) : List Int := headB p ++ [byt (chkOf (headB p)) 3, byt (chkOf (headB p)) 2, byt (chkOf (headB p)) 1, byt (chkOf (headB p)) 0]
def bytesT (s c o x y z : Int) : List Int :=
  [s, byt c 1, byt c 0, o, byt (x + 1048576) 3, byt (x + 1048576) 2, byt (x + 1048576) 1, byt (x + 1048576) 0, byt (y + 1048576) 3, byt (y + 1048576) 2, byt (y + 1048576) 1, byt (y + 1048576) 0,
   byt (z + 1048576) 3, byt (z + 1048576) 2, byt (z + 1048576) 1, byt (z + 1048576) 0]
theorem frame_bytes (s c o x y z : Int) : frame s c o x y z = frameB (bytesT s c o x y z) := rfl
theorem headB_len {p : List Int} (h : p.length = 16) : (headB p).length = 20 := by simp [headB, h]
theorem frameB_len {p : List Int} (h : p.length = 16) : (frameB p).length = 24 := by simp [frameB, headB_len h]
theorem frameB_head {p : List Int} (h : p.length = 16) {j : Nat} (hj : j < 20) : (frameB p)[j]? = (headB p)[j]? := by
  unfold frameB; rw [List.getElem?_append_left (by rw [headB_len h]; exact hj)]
theorem headB_body {p : List Int} (h : p.length = 16) {j : Nat} (hj : j < 16) : (headB p)[j + 1]? = p[j]? := by
  unfold headB; rw [List.getElem?_cons_succ, List.getElem?_append_left (by omega)]
theorem headB_rep {p : List Int} (h : p.length = 16) {j : Nat} (hj : j < 3) : (headB p)[j + 17]? = some (255 - p[j]?.getD 0) := by
  unfold headB
  rw [List.getElem?_cons_succ, List.getElem?_append_right (by omega), h]
  match j, hj with
  | 0, _ => rfl
  | 1, _ => rfl
  | 2, _ => rfl
theorem frameB_chk {p : List Int} (h : p.length = 16) {j : Nat} (hj : j < 4) : (frameB p)[j + 20]? = some (byt (chkOf (headB p)) (3 - j)) := by
  unfold frameB
  rw [List.getElem?_append_right (by rw [headB_len h]; omega), headB_len h]
  match j, hj with
  | 0, _ => rfl
  | 1, _ => rfl
  | 2, _ => rfl
  | 3, _ => rfl
theorem byt4_inj {v u : Int} (hv : 0 ≤ v ∧ v ≤ 4294967295) (hu : 0 ≤ u ∧ u ≤ 4294967295) (h : ∀ k, k < 4 → byt v k = byt u k) : v = u := by
  have e1 := num4 v hv.1 hv.2
  have e2 := num4 u hu.1 hu.2
  rw [h 0 (by omega), h 1 (by omega), h 2 (by omega), h 3 (by omega)] at e1
  rw [← e1, e2]
theorem split_at {l : List Int} {k : Nat} {u : Int} (h : l[k]? = some u) : l = l.take k ++ u :: l.drop (k + 1) := by
  obtain ⟨hlt, rfl⟩ := List.getElem?_eq_some_iff.1 h
  rw [List.getElem_cons_drop hlt, List.take_append_drop]
theorem drop_add {α : Type} (A B : List α) (i : Nat) : (A ++ B).drop (A.length + i) = B.drop i := by
  rw [List.drop_append, List.drop_eq_nil_of_le (by omega), List.nil_append, Nat.add_sub_cancel_left]
/-- Two frames that agree but at one place are one. -/
theorem frameB_one {p q : List Int} (hp : p.length = 16) (hq : q.length = 16) (bp : ∀ v ∈ p, 0 ≤ v ∧ v ≤ 255) (bq : ∀ v ∈ q, 0 ≤ v ∧ v ≤ 255) (k : Nat) (h : ∀ j, j ≠ k → (frameB p)[j]? = (frameB q)[j]?) : p = q := by
  have hb : ∀ j, j < 16 → j + 1 ≠ k → p[j]? = q[j]? := fun j hj hk => by
    have h1 := h (j + 1) hk
    rwa [frameB_head hp (by omega), frameB_head hq (by omega), headB_body hp hj, headB_body hq hj] at h1
  suffices hk : ∀ j, j < 16 → j + 1 = k → p[j]? = q[j]? by
    refine List.ext_getElem? fun j => ?_
    by_cases hj : j < 16
    · by_cases e : j + 1 = k
      · exact hk j hj e
      · exact hb j hj e
    · rw [List.getElem?_eq_none (by omega), List.getElem?_eq_none (by omega)]
  intro j hj e
  obtain ⟨u, g1⟩ : ∃ u, p[j]? = some u := ⟨_, List.getElem?_eq_getElem (by omega)⟩
  obtain ⟨v, g2⟩ : ∃ v, q[j]? = some v := ⟨_, List.getElem?_eq_getElem (by omega)⟩
  have mu := bp u (List.mem_of_getElem? g1)
  have mv := bq v (List.mem_of_getElem? g2)
  by_cases h3 : j < 3
  · have h1 := h (j + 17) (by omega)
    rw [frameB_head hp (by omega), frameB_head hq (by omega), headB_rep hp h3, headB_rep hq h3, g1, g2] at h1
    simp only [Option.getD_some, Option.some.injEq] at h1
    rw [g1, g2]
    congr 1
    omega
  · have hc : chkOf (headB p) = chkOf (headB q) := by
      have b1 := chk_bd (headB p)
      have b2 := chk_bd (headB q)
      refine byt4_inj (by omega) (by omega) fun i hi => ?_
      have h1 := h (3 - i + 20) (by omega)
      rw [frameB_chk hp (by omega), frameB_chk hq (by omega)] at h1
      rw [show 3 - (3 - i) = i by omega] at h1
      exact Option.some.inj h1
    have ha : ∀ i, i ≠ k → (headB p)[i]? = (headB q)[i]? := fun i hi => by
      by_cases h20 : i < 20
      · have h1 := h i hi
        rwa [frameB_head hp h20, frameB_head hq h20] at h1
      · rw [List.getElem?_eq_none (by rw [headB_len hp]; omega), List.getElem?_eq_none (by rw [headB_len hq]; omega)]
    have k1 : (headB p)[k]? = some u := by rw [← e, headB_body hp hj, g1]
    have k2 : (headB q)[k]? = some v := by rw [← e, headB_body hq hj, g2]
    have s1 := split_at k1
    have s2 := split_at k2
    have t1 : (headB p).take k = (headB q).take k := List.ext_getElem? fun i => by
      rw [List.getElem?_take, List.getElem?_take]
      by_cases hi : i < k
      · rw [if_pos hi, if_pos hi, ha i (by omega)]
      · rw [if_neg hi, if_neg hi]
    have t2 : (headB p).drop (k + 1) = (headB q).drop (k + 1) := List.ext_getElem? fun i => by
      rw [List.getElem?_drop, List.getElem?_drop, ha _ (by omega)]
    rw [s1, s2, t1, t2] at hc
    rw [g1, g2, chk_one _ _ mu mv hc]

/-! ### Decoding frames -/
def Tel.frame (t : Tel) : List Int := Go.Proofs.YtfpagmalblmnkaaGreatDoor.frame t.s t.c t.o t.x t.y t.z
def Tel.bts (t : Tel) : List Int := bytesT t.s t.c t.o t.x t.y t.z
theorem Tel.frame_b (t : Tel) : t.frame = frameB t.bts := rfl
theorem bytesT_in {s c o x y z : Int} (h : FitT s c o x y z) : ∀ v ∈ bytesT s c o x y z, 0 ≤ v ∧ v ≤ 255 := by
  have h1 := h.st
  have h2 := h.od
  intro v hv
  simp only [bytesT, List.mem_cons, List.not_mem_nil, or_false] at hv
  rcases hv with rfl | rfl | rfl | rfl | rfl | rfl | rfl | rfl | rfl | rfl | rfl | rfl | rfl | rfl | rfl | rfl <;> first | exact h1 | exact h2 | exact byt_bd _ _
theorem frame24 (t : Tel) (h : t.Good) : Bytes24 t.frame := ⟨rfl, frame_in h⟩
theorem telOf_frame (t : Tel) (h : t.Good) : telOf t.frame = t := by
  have h2 := num2 t.c h.ct.1 h.ct.2
  have h3 := num4 (t.x + 1048576) (by have := h.vx; omega) (by have := h.vx; omega)
  have h4 := num4 (t.y + 1048576) (by have := h.vy; omega) (by have := h.vy; omega)
  have h5 := num4 (t.z + 1048576) (by have := h.vz; omega) (by have := h.vz; omega)
  show (⟨t.s, numOf [byt t.c 1, byt t.c 0], t.o, numOf [byt (t.x + 1048576) 3, byt (t.x + 1048576) 2, byt (t.x + 1048576) 1, byt (t.x + 1048576) 0] - 1048576, numOf [byt (t.y + 1048576) 3, byt (t.y + 1048576) 2, byt (t.y + 1048576) 1, byt (t.y + 1048576) 0] - 1048576, numOf [byt (t.z + 1048576) 3, byt (t.z + 1048576) 2, byt (t.z + 1048576) 1, byt (t.z + 1048576) 0] - 1048576⟩ : Tel) = t
  rw [h2, h3, h4, h5]
  cases t
  simp
theorem decErr_frame (t : Tel) (h : t.Good) : decErr t.frame = 0 := by
  unfold decErr
  rw [if_neg (by simp [byteAt, Tel.frame, Go.Proofs.YtfpagmalblmnkaaGreatDoor.frame, frame20]), telOf_frame t h, if_neg (by simp [Tel.tail]; rfl)]
  exact telErr_good h
theorem decTel_frame (t : Tel) (h : t.Good) : decTel t.frame = t := by
  unfold decTel; rw [if_pos (decErr_frame t h), telOf_frame t h]
/-- Bytes that are decoded are the frame of their telegram. -/
theorem decErr_zero {F : List Int} (h : Bytes24 F) (h0 : decErr F = 0) : F = frameB (telOf F).bts ∧ FitT (telOf F).s (telOf F).c (telOf F).o (telOf F).x (telOf F).y (telOf F).z := by
  unfold decErr at h0
  split at h0
  · cases h0
  · rename_i hm
    split at h0
    · cases h0
    · rename_i ht
      obtain ⟨e1, e2, e3⟩ := raw_telOf F h (Classical.not_not.1 hm)
      have e4 : F.drop 17 = (telOf F).tail := Classical.not_not.1 ht
      rw [e4] at e1
      exact ⟨e1, e3⟩
/-- A frame of which one byte is changed is not decoded. -/
theorem decErr_broken (t : Tel) (h : t.Good) (hf : FitT t.s t.c t.o t.x t.y t.z) (k : Nat) (v : Int) (hv : 0 ≤ v ∧ v ≤ 255) (hk : k < 24) (hne : v ≠ t.frame[k]?.getD 0) : decErr (t.frame.set k v) ≠ 0 := fun h0 => by
  have hb : Bytes24 (t.frame.set k v) := ⟨by rw [List.length_set]; rfl, fun u hu => by
    rcases List.mem_or_eq_of_mem_set hu with h1 | h1
    · exact (frame24 t h).2 u h1
    · rw [h1]; exact hv⟩
  obtain ⟨e1, e2⟩ := decErr_zero hb h0
  have e3 := frameB_one (p := t.bts) (q := (telOf (t.frame.set k v)).bts) rfl rfl (bytesT_in hf) (bytesT_in e2) k (fun j hj => by
    rw [← e1, ← Tel.frame_b, List.getElem?_set_ne (fun e => hj e.symm)])
  rw [← e3, ← Tel.frame_b] at e1
  have e4 : (t.frame.set k v)[k]?.getD 0 = v := by rw [List.getElem?_set_self (by show k < 24; exact hk)]; rfl
  rw [e1] at e4
  exact hne e4.symm

/-! ### What is received -/
def joined (ts : List Tel) : List Int := ts.flatMap Tel.frame
theorem joined_len (ts : List Tel) : (joined ts).length = 24 * ts.length := by
  induction ts with
  | nil => rfl
  | cons t ts ih =>
    have e : joined (t :: ts) = t.frame ++ joined ts := rfl
    rw [e, List.length_append, ih, List.length_cons, show t.frame.length = 24 from rfl]; omega
theorem joined_at (ts : List Tel) (i : Nat) (hi : i < ts.length) : ((joined ts).drop (24 * i)).take 24 = (ts[i]'hi).frame := by
  induction ts generalizing i with
  | nil => simp at hi
  | cons t ts ih =>
    have e : joined (t :: ts) = t.frame ++ joined ts := rfl
    have hl : t.frame.length = 24 := rfl
    cases i with
    | zero => rw [e, Nat.mul_zero, List.drop_zero, List.take_append_of_le_length (by omega), List.take_of_length_le (by omega)]; rfl
    | succ i =>
      rw [e, show 24 * (i + 1) = t.frame.length + 24 * i by omega, drop_add]
      exact ih i (by simpa using hi)
/-- The span of what stands ahead. -/
def ahead1 (k : Nat) : List (Int × Int) := if k = 0 then [] else [(0, (k : Int))]
theorem ext_ahead (k : Nat) : extL (ahead1 k) k = ahead1 (k + 1) := by
  by_cases h : k = 0
  · subst h; rfl
  · unfold ahead1
    rw [if_neg h, if_neg (by omega)]
    simp [extL]
theorem rcv_ahead {B : List Int} {ts : List Tel} {n : Nat} (hB : ∀ v ∈ B, v ≠ 77) (hn : (B ++ joined ts).length = n) : ∀ k, k ≤ B.length → rcv (B ++ joined ts) n n 0 [] [] = rcv (B ++ joined ts) n n k [] (ahead1 k)
  | 0, _ => rfl
  | k + 1, h => by
    rw [rcv_ahead hB hn k (by omega)]
    have hl : k < n := by rw [← hn, List.length_append]; omega
    have ho : okAt (B ++ joined ts) n k = false := by
      unfold okAt
      split
      · have h1 : byteAt (streamAt (B ++ joined ts) k) 0 ≠ 77 := by
          unfold byteAt streamAt
          rw [List.getElem?_take, if_pos (by omega), List.getElem?_drop, List.getElem?_append_left (by omega), List.getElem?_eq_getElem (by omega)]
          exact hB _ (List.getElem_mem _)
        have h2 : decErr (streamAt (B ++ joined ts) k) = 1 := by unfold decErr; rw [if_pos h1]
        rw [h2]; rfl
      · rfl
    rw [rcv_miss hl ho, ext_ahead]
theorem rcv_frames {B : List Int} {ts : List Tel} {n : Nat} (hg : ∀ t ∈ ts, t.Good) (hn : (B ++ joined ts).length = n) (sp : List (Int × Int)) : ∀ i, i ≤ ts.length → rcv (B ++ joined ts) n n B.length [] sp = rcv (B ++ joined ts) n n (B.length + 24 * i) (ts.take i) sp
  | 0, _ => by simp
  | i + 1, h => by
    rw [rcv_frames hg hn sp i (by omega)]
    have hj := joined_len ts
    have hl : B.length + 24 * i + 24 ≤ n := by rw [← hn, List.length_append, hj]; omega
    have e : streamAt (B ++ joined ts) (B.length + 24 * i) = (ts[i]'(by omega)).frame := by
      unfold streamAt
      rw [drop_add]
      exact joined_at ts i (by omega)
    have hgi := hg _ (List.getElem_mem (show i < ts.length by omega))
    have ho : okAt (B ++ joined ts) n (B.length + 24 * i) = true := by
      unfold okAt; rw [if_pos hl, e, decErr_frame _ hgi]; rfl
    have ht : telAt (B ++ joined ts) n (B.length + 24 * i) = ts[i]'(by omega) := by
      unfold telAt; rw [if_pos hl, e, decTel_frame _ hgi]
    rw [rcv_hit (by omega) ho, ht, show B.length + 24 * i + 24 = B.length + 24 * (i + 1) by omega, List.take_add_one, List.getElem?_eq_getElem (by omega)]
    rfl
/-- Frames behind bytes that are no marks are received; these are skipped. -/
theorem rcv_found {B : List Int} {ts : List Tel} {n : Nat} (hB : ∀ v ∈ B, v ≠ 77) (hg : ∀ t ∈ ts, t.Good) (hn : (B ++ joined ts).length = n) : rcvL (B ++ joined ts) n = ts ∧ rcvP (B ++ joined ts) n = ahead1 B.length := by
  have h : rcv (B ++ joined ts) n n 0 [] [] = (ts, ahead1 B.length) := by
    rw [rcv_ahead hB hn B.length (Nat.le_refl _), rcv_frames hg hn _ ts.length (Nat.le_refl _), rcv_end (by rw [← hn, List.length_append, joined_len]; omega), List.take_length]
  exact ⟨by unfold rcvL; rw [h], by unfold rcvP; rw [h]⟩

/-! ### The counter that is lost -/
def ctr (i : Nat) : Int := ((65530 : Int) + (i : Int)) % 65536
def keptI (m k : Nat) : List Nat := (List.range m).filter fun j => decide (j ≠ k)
theorem keptI_succ (m k : Nat) : keptI (m + 1) k = keptI m k ++ (if m ≠ k then [m] else []) := by
  unfold keptI
  rw [List.range_succ, List.filter_append]
  congr 1
  by_cases h : m = k
  · simp [h]
  · simp [h]
def gapOf (m k : Nat) : List Int := if 0 < k ∧ k + 1 < m then [ctr k] else []
theorem lost_gap : ∀ m, m < 9 → ∀ k, k < m → cycTo ((keptI m k).map ctr) (((keptI m k).map ctr).length - 1) = gapOf m k ∧ (keptI m k).length = m - 1 := by decide +kernel
end Go.Proofs.YtfpagmalblmnkaaGreatDoor

/-
  Contract of power: the powers of -i.
-/
namespace Go.Proofs.YtfpagmalblmnkaaGreatDoor
open Go.RowKit
set_option linter.unusedVariables false
set_option linter.unusedSimpArgs false

theorem store_complex (P : Program) (w : World) (a : Addr) (m : Mode) (k : FloatKind) (x y : Nat) : (store a (.complex k x y) m).run P w = stored P w a (.complex k x y) m := run_store P w a _ m rfl

/-- The powers of -i, by the exponent modulo 4. -/
def powL : List Value := [.complex .f32 1065353216 0, .complex .f32 0 3212836864, .complex .f32 3212836864 0, .complex .f32 0 1065353216]
theorem powL_at (k : Nat) (hk : k < 4) : ∃ x y, powL[k]? = some (.complex .f32 x y) := by
  match k, hk with
  | 0, _ => exact ⟨_, _, rfl⟩
  | 1, _ => exact ⟨_, _, rfl⟩
  | 2, _ => exact ⟨_, _, rfl⟩
  | 3, _ => exact ⟨_, _, rfl⟩

attribute [local go_sem] store_complex
set_option maxRecDepth 100000 in
set_option maxHeartbeats 3200000 in
theorem power_any (n k : Nat) (v : Value) (hk : n % 4 = k) (hv : powL[k]? = some v) (w : World) :
    Calls Tryz.prog 44 #[.int .i64 n] w fun e w' => e = .returned v ∧ Below w.heap.size w w' := by
  have hk4 : k < 4 := by omega
  have hm : ((n : Int)).tmod 4 = (k : Int) := by rw [Int.tmod_eq_emod_of_nonneg (by omega)]; omega
  obtain ⟨W1, hW1⟩ : ∃ W1, w.alloc (.cells #[.complex .f32 1065353216 0, .complex .f32 0 3212836864, .complex .f32 3212836864 0, .complex .f32 0 1065353216] 26) = W1 := ⟨_, rfl⟩
  have hB : Below w.heap.size w W1 := by rw [← hW1]; exact (Below.refl _ w).alloc (Nat.le_refl _) _
  have hc : W1.cell? ⟨w.heap.size, k, none⟩ = some v := by
    rw [← hW1, cell_of_row _ _ k _ _ (0, 0) (blk_alloc_new _ _)]
    simpa [powL] using hv
  have HB := Lib.hid hB
  go_enter Tryz.func44, Tryz.ntmps44
  go_upto_region 2 with fail
  clear hW1
  go_wp2_with fail
  go_ret
  exact ⟨rfl, HB.out⟩
end Go.Proofs.YtfpagmalblmnkaaGreatDoor
