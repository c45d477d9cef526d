/-
  Contract of Lost for telegrams whose numbers are in their ranges and a station whose counters ascend.
-/
import Derived.Test.YtnlbgikhkpalcaaCWy
namespace Go.Proofs.Ytnlbgikhkpalcaa
open Go.RowKit
set_option linter.unusedVariables false

theorem owns_some {w : World} {B T sz n : Nat} {v : Value} {xs : List Value} (h : w.ownsRow B T sz v n xs) (hn : 1 ≤ n) : ∃ g c, v = .slice (some ⟨g, 0, none⟩) n c ∧ g < w.heap.size ∧ B ≤ g := by
  rcases h.2 with ⟨_, h0⟩ | ⟨g, cap, cur, h, h2, h3, _⟩
  · omega
  · exact ⟨g, cap, h, (Array.getElem?_eq_some_iff.1 h3).1, h2⟩


/-- missing at a slice that owns ascending counters, or at none. -/
theorem missing_own (xs : List Int) (n : Nat) (hA : Asc xs n) (hm : n ≤ 512) (w : World) (B : Nat) (v : Value) (h : w.ownsRow B 3 1 v n (xs.map (Value.int .i64))) :
    Calls Try.prog 29 #[v, .int .i64 257] w fun e w' =>
      ∃ v', e = .returned v' ∧ w'.ownsRow w.heap.size 3 1 v' (gapsTo xs (n - 1)).length ((gapsTo xs (n - 1)).map (Value.int .i64)) ∧ Below w.heap.size w w' := by
  by_cases hn : 1 ≤ n
  · obtain ⟨g, c, rfl, hg, _⟩ := owns_some h hn
    exact missing_any xs n g c hA hn hm w hg (fun j hj => owns_cell h (by
      rw [List.getElem?_map, List.getElem?_eq_getElem (by rw [hA.len]; exact hj)]; rfl))
  · obtain rfl : n = 0 := by omega
    have hx : xs = [] := List.length_eq_zero_iff.1 hA.len
    subst hx
    obtain ⟨ao, c, rfl⟩ := owns_slice h
    exact (missing_none ao c w).mono fun e w' ⟨he, hw⟩ => ⟨_, he, by subst hw; exact World.ownsRow_nil _ _ _ _, by subst hw; exact Below.refl _ _⟩

set_option maxRecDepth 100000 in
set_option maxHeartbeats 3200000 in
theorem lost_any (L : List Tel) (hg : ∀ t ∈ L, t.Good) (b q n cp : Nat) (st : Int) (hs : 0 ≤ st ∧ st ≤ 255) (hn : n = L.length) (hm : n ≤ 512) (w : World) (hb : b < w.heap.size) (hc : TelsAt w b q L)
    (hA : Asc (countsOf L st) (countsOf L st).length) (hlen : (gapsTo (countsOf L st) ((countsOf L st).length - 1)).length ≤ 256) :
    Calls Try.prog 11 #[.slice (some ⟨b, q, none⟩) n cp, .int .i64 st] w fun e w' =>
      ∃ v, e = .returned (.tuple #[v, .int .i64 0]) ∧ w'.ownsRow w.heap.size 3 1 v (gapsTo (countsOf L st) ((countsOf L st).length - 1)).length ((gapsTo (countsOf L st) ((countsOf L st).length - 1)).map (Value.int .i64)) ∧ Below w.heap.size w w' := by
  obtain ⟨i0, hi, hz0, hz1, hz2⟩ := info_parts Try.info37_check
  have K1 := Lib.hid (mapped_tel L hg b q n cp hn hm w hb hc)
  have K2 := Lib.hid (fun (w' : World) (h1 : b < w'.heap.size) (h2 : TelsAt w' b q L) => countersOf_any L b q n cp st hn hm w' h1 h2)
  have hcl := counts_len L st
  have K3 := Lib.hid (fun (w' : World) (B : Nat) (v : Value) h => missing_own (countsOf L st) _ hA (by omega) w' B v h)
  have HC := Lib.hid hc
  have hst : rangeErr st 0 255 = 0 := rangeErr_in hs.1 hs.2
  have i1 : ((n : Int) ≤ 512) := by omega
  obtain ⟨R, hR⟩ : ∃ R, gapsTo (countsOf L st) ((countsOf L st).length - 1) = R := ⟨_, rfl⟩
  rw [hR] at K3 hlen ⊢
  have i2 : ((R.length : Int) ≤ 256) := by omega
  clear hg hc hA hn hR hcl hs
  go_enter Try.func11, Try.ntmps11
  go_wp2_with (first
    | (go_at_call 27; refine K1.out.mono ?_; rintro e w1 ⟨rfl, hown1, hb1⟩)
    | (go_at_call 28; refine (checkRange_any _ _ _ _).mono ?_; rintro e w' ⟨rfl, rfl⟩)
    | (at_builtin; refine wpList_append_own _ rfl (.tmp 12) (.tmp 15) 70 rfl w.heap.size 37 i0 (.int .i64 0) 1 8 Try.underlying70 hi hz0 hz1 hz2 rfl (by decide) _ n _ rfl (hown1.alloc _) ⟨w1.heap.size, 0, none⟩ 1 1 [.int .i64 0] rfl rfl (cell_one_new _ _ _) (by intro u hu; simp at hu; subst hu; rfl) (by unfold maxLen; omega) (by omega) (by have := hb1.size; simp; omega) ?_; intro v' w3 hown3 hgrow3 _
       obtain ⟨g, c', rfl, hgl, _⟩ := owns_some hown3 (by omega)
       have hb3 : Below w.heap.size w w3 := (hb1.alloc hb1.size _).grown hgrow3 (by have := hb1.size; simp; omega) (fun j hj => by cases hj; exact Nat.le_refl _)
       have hz : ∀ j, j < n + 1 → w3.cell? ⟨g, 0 + j, none⟩ = some (.int .i64 0) := fun j hj => by
         rw [Nat.zero_add]
         refine owns_cell hown3 ?_
         rw [← List.replicate_succ']; simp [hj]
       have HZ := Lib.hid hz
       have hw3 := hb3.size
       have hc3 := HC.out.kept hb3 hb
       have K4 := Lib.hid (K2.out w3 (by omega) hc3)
       clear hz hc3 hown3 hgrow3 hown1 hb1)
    | (go_at_call 26; refine (first_zeros _ 0 _ _ (by omega) _ HZ.out).mono ?_; rintro e w' ⟨rfl, rfl⟩)
    | (go_at_call 30; refine K4.out.mono ?_; rintro e w4 ⟨v4, rfl, hown4, hb4⟩
       have K5 := Lib.hid (K3.out w4 _ _ hown4)
       have hb5 : Below w.heap.size w w4 := hb3.trans (hb4.mono hw3))
    | (go_at_call 29; refine K5.out.mono ?_; rintro e w6 ⟨v6, rfl, hown6, hb6⟩
       obtain ⟨ao, c6, rfl⟩ := owns_slice hown6
       have hb7 : Below w.heap.size w w6 := hb5.trans (hb6.mono hb5.size)))
  go_ret2
  exact ⟨_, rfl, owns_base hown6 hb5.size, hb7⟩
end Go.Proofs.Ytnlbgikhkpalcaa
