/-
  LightWaves: what Four answers, for any four words of float32.
-/
import Derived.Test.YtfdkmmllemkogaaGreatDoorOPm
namespace Go.Proofs.YtfdkmmllemkogaaGreatDoor
open Go.RowKit Ieee
set_option linter.unusedVariables false

theorem smp_eq {a : Nat} {k : Int} (h : Smp a k) (hk : k.natAbs < 2 ^ 24) : FloatKind.f32.format.order a (smpOf k) = some .eq := by
  have e : single.order a (smpOf k) = some (compare k k) := h.order (smpOf_smp k hk)
  have c : compare k k = .eq := by
    show compareOfLessAndEq _ _ = _
    unfold compareOfLessAndEq; rw [if_neg (by omega), if_pos rfl]
  rw [c] at e
  exact e
theorem zero_eq : FloatKind.f32.format.order 0 0 = some .eq := by
  have h := smp_eq (smpOf_smp 0 (by decide)) (by decide)
  rwa [show smpOf 0 = 0 from by decide +kernel] at h
theorem vals4 {L : List Value} (h : L.length = 4) {a b c d : Value} (h0 : L[0]? = some a) (h1 : L[1]? = some b) (h2 : L[2]? = some c) (h3 : L[3]? = some d) : L = [a, b, c, d] := by
  match L, h with
  | [_, _, _, _], _ =>
    cases h0; cases h1; cases h2; cases h3
    rfl

theorem fourC_all (x0 x1 x2 x3 : Nat) (HX : ∀ j, j < 4 → ([x0, x1, x2, x3] : List Nat)[j]?.getD 0 < 2 ^ 32) :
    ∃ c0 c1 c2 c3 c4 c5 c6 c7 : Nat, FourC x0 x1 x2 x3 c0 c1 c2 c3 c4 c5 c6 c7 (firstNZ (([x0, x1, x2, x3] : List Nat).map smpErr)) := by
  by_cases h : firstNZ (([x0, x1, x2, x3] : List Nat).map smpErr) = 0
  · have hz := firstNZ_all h
    obtain ⟨ks, hks⟩ : ∃ ks : List Int, [kOf x0, kOf x1, kOf x2, kOf x3] = ks := ⟨_, rfl⟩
    have hS : ∀ j, j < 4 → Smp (([x0, x1, x2, x3] : List Nat)[j]?.getD 0) (ks[j]?.getD 0) ∧ (ks[j]?.getD 0).natAbs ≤ 16384 := by
      subst hks
      intro j hj
      match j, hj with
      | 0, _ => exact smp_kOf (hz _ (by simp))
      | 1, _ => exact smp_kOf (hz _ (by simp))
      | 2, _ => exact smp_kOf (hz _ (by simp))
      | 3, _ => exact smp_kOf (hz _ (by simp))
    have hl : ks.length = 4 := by rw [← hks]; rfl
    have hs := fun k => acc_small (fun j hj => (hS j hj).2) k 4 (by omega)
    refine ⟨smpOf (accR ks 0 4), smpOf (accI ks 0 4), smpOf (accR ks 1 4), smpOf (accI ks 1 4), smpOf (accR ks 2 4), smpOf (accI ks 2 4), smpOf (accR ks 3 4), smpOf (accI ks 3 4), ?_⟩
    rw [h]
    refine ⟨fun w1 => ?_, .inl ⟨rfl, fun w1 => refFour_any x0 x1 x2 x3 ks hS w1⟩⟩
    refine (four_any x0 x1 x2 x3 ks hl (fun j hj => ⟨HX j hj, hS j hj⟩) w1).mono ?_
    rintro e w' ⟨L, rfl, ⟨hL, hp⟩, hb⟩
    obtain ⟨a0, b0, g0, A0, B0, -⟩ := hp 0 (by omega)
    obtain ⟨a1, b1, g1, A1, B1, -⟩ := hp 1 (by omega)
    obtain ⟨a2, b2, g2, A2, B2, -⟩ := hp 2 (by omega)
    obtain ⟨a3, b3, g3, A3, B3, -⟩ := hp 3 (by omega)
    have eL := vals4 hL g0 g1 g2 g3
    subst eL
    refine ⟨a0, b0, a1, b1, a2, b2, a3, b3, rfl, ⟨smp_eq A0 ?_, smp_eq B0 ?_, smp_eq A1 ?_, smp_eq B1 ?_, smp_eq A2 ?_, smp_eq B2 ?_, smp_eq A3 ?_, smp_eq B3 ?_⟩, hb⟩
    · have := (hs 0).1; omega
    · have := (hs 0).2; omega
    · have := (hs 1).1; omega
    · have := (hs 1).2; omega
    · have := (hs 2).1; omega
    · have := (hs 2).2; omega
    · have := (hs 3).1; omega
    · have := (hs 3).2; omega
  · exact ⟨0, 0, 0, 0, 0, 0, 0, 0, fun w1 => (four_bad x0 x1 x2 x3 HX _ rfl h w1).mono fun e w' hh => ⟨0, 0, 0, 0, 0, 0, 0, 0, hh.1, ⟨zero_eq, zero_eq, zero_eq, zero_eq, zero_eq, zero_eq, zero_eq, zero_eq⟩, hh.2⟩, .inr ⟨h, rfl, rfl, rfl, rfl, rfl, rfl, rfl, rfl⟩⟩
end Go.Proofs.YtfdkmmllemkogaaGreatDoor
