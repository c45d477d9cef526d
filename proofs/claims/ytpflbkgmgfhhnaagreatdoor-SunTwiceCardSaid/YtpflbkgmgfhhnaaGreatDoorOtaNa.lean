/-
  Contracts of passes and Meets, for turns: whether the way between two turns meets a cone.
-/
import Derived.Test.YtpflbkgmgfhhnaaGreatDoorRows
import Derived.WalkKit
import Derived.WalkSpells
import Derived.WalkLawsBesides
import Derived.Lib.Hide
import Derived.BigQuiet
import Derived.Deep.QuietTactic
import Derived.Laws.FloatArith
import Derived.Laws.BitsAllLaws
import Derived.Deep.CutBlock
import Derived.Deep.DeepCutAuto
import Derived.Deep.RegionHeld3
import Derived.StillTailTactics
import Derived.LoopTactic
import Derived.Handy
import Derived.Laws.StructEq
import Derived.RangeFuncNested
import Derived.RangeFuncBound
import Derived.RangeFuncCalls
import Derived.RangeFuncLeaves
import Derived.RangeFuncBox
import Derived.Shelf.Abstract
import Derived.Shelf.RegionOpen
import Derived.OwnWalkIn
import Derived.TacticsInMore
import Derived.LoopNIn
import Derived.LoopIn
import Derived.Maps.AppendAt
import Derived.Test.YtpflbkgmgfhhnaaGreatDoorProg
import Derived.Deep.RegionWith
import Derived.Stop.BytesEq
import Derived.Deep.MidRow
import Derived.Laws.CopyRow
import Derived.WalkMore
import Derived.Deep.DrawnRows
import Derived.Deep.RegionLaw
import Derived.Orders
import Derived.RegionTactic
import Derived.StillTail
import Derived.Test.YtpflbkgmgfhhnaaGreatDoorOtaWa
import Derived.Test.YtpflbkgmgfhhnaaGreatDoorOtaXc
import Derived.Test.YtpflbkgmgfhhnaaGreatDoorOtaXe
import Derived.Test.YtpflbkgmgfhhnaaGreatDoorOtaIb
import Derived.Test.YtpflbkgmgfhhnaaGreatDoorOtaId
import Derived.Test.YtpflbkgmgfhhnaaGreatDoorOtaIi
import Derived.Test.YtpflbkgmgfhhnaaGreatDoorOtaIq
import Derived.Test.YtpflbkgmgfhhnaaGreatDoorOtaIr
import Derived.Test.YtpflbkgmgfhhnaaGreatDoorOtaIs
import Derived.Test.YtpflbkgmgfhhnaaGreatDoorOtaFc
import Derived.Test.YtpflbkgmgfhhnaaGreatDoorOtaIg
import Derived.Laws.RangeString
import Derived.Laws.RangeAny
import Derived.Test.YtpflbkgmgfhhnaaGreatDoorOtaFlo
import Derived.Test.YtpflbkgmgfhhnaaGreatDoorOtaIl
import Derived.Test.YtpflbkgmgfhhnaaGreatDoorOtaNc
import Derived.Test.YtpflbkgmgfhhnaaGreatDoorOtaNu
import Derived.Test.YtpflbkgmgfhhnaaGreatDoorOtaNv
namespace Go.Proofs.YtpflbkgmgfhhnaaGreatDoor
open Go.RowKit
set_option linter.unusedVariables false
set_option linter.unusedSimpArgs false

def Turn3 (x y z : Int) : Prop := (-256 ≤ x ∧ x ≤ 256) ∧ (-256 ≤ y ∧ y ≤ 256) ∧ (-256 ≤ z ∧ z ≤ 256)
theorem dot_turn {x y z a b c : Int} (h : Turn3 x y z) (k : Turn3 a b c) : -196608 ≤ dot3 x y z a b c ∧ dot3 x y z a b c ≤ 196608 := by
  obtain ⟨h1, h2, h3⟩ := h
  obtain ⟨k1, k2, k3⟩ := k
  have := dot_abs h1 h2 h3 k1 k2 k3
  unfold dot3
  omega
theorem dot_turnC {x y z a b c : Int} (h : Turn3 x y z) (k : Turn3 a b c) (w : World) :
    Calls Tryz.prog 65 #[.agg #[.int .i64 x, .int .i64 y, .int .i64 z], .agg #[.int .i64 a, .int .i64 b, .int .i64 c]] w fun r w' => r = .returned (.int .i64 (dot3 x y z a b c)) ∧ Below w.heap.size w w' := by
  obtain ⟨h1, h2, h3⟩ := h
  obtain ⟨k1, k2, k3⟩ := k
  exact dot_any x y z a b c (fit_abs h1 k1 (by omega)) (fit_abs h2 k2 (by omega)) (fit_abs h3 k3 (by omega)) w

def wayX (ap aq pq qq : Int) : Int := ap * qq - aq * pq
/-- Whether the projection of the axis lies between two turns and is inside of the cone. -/
def passB (x y z num den a b c d e f : Int) : Bool :=
  decide (0 < wayX (dot3 x y z a b c) (dot3 x y z d e f) (dot3 a b c d e f) (dot3 d e f d e f) ∧ 0 < wayX (dot3 x y z d e f) (dot3 x y z a b c) (dot3 a b c d e f) (dot3 a b c a b c) ∧
    num * (dot3 a b c a b c * dot3 d e f d e f - dot3 a b c d e f * dot3 a b c d e f) * dot3 x y z x y z ≤
      (wayX (dot3 x y z a b c) (dot3 x y z d e f) (dot3 a b c d e f) (dot3 d e f d e f) * dot3 x y z a b c + wayX (dot3 x y z d e f) (dot3 x y z a b c) (dot3 a b c d e f) (dot3 a b c a b c) * dot3 x y z d e f) * den)

set_option maxHeartbeats 1600000 in
theorem passes_any (x y z num den a b c d e f : Int) (hx : Turn3 x y z) (ha : Turn3 a b c) (hd : Turn3 d e f) (hs : Share num den) (w : World) :
    Calls Tryz.prog 40 #[.agg #[.int .i64 x, .int .i64 y, .int .i64 z, .int .i64 num, .int .i64 den], .agg #[.int .i64 a, .int .i64 b, .int .i64 c], .agg #[.int .i64 d, .int .i64 e, .int .i64 f]] w fun r w' => r = .returned (.bool (passB x y z num den a b c d e f)) ∧ Below w.heap.size w w' := by
  obtain ⟨⟨s1, s2⟩, s3, s4⟩ := hs
  have Kpp := fun w1 => dot_turnC ha ha w1
  have Kpq := fun w1 => dot_turnC ha hd w1
  have Kqq := fun w1 => dot_turnC hd hd w1
  have Kap := fun w1 => dot_turnC hx ha w1
  have Kaq := fun w1 => dot_turnC hx hd w1
  have Kaa := fun w1 => dot_turnC hx hx w1
  have bpp := dot_turn ha ha
  have bpq := dot_turn ha hd
  have bqq := dot_turn hd hd
  have bap := dot_turn hx ha
  have baq := dot_turn hx hd
  have baa := dot_turn hx hx
  have hv : passB x y z num den a b c d e f = passB x y z num den a b c d e f := rfl
  conv at hv => rhs; unfold passB
  clear hx ha hd
  revert Kpp Kpq Kqq Kap Kaq Kaa bpp bpq bqq bap baq baa hv
  generalize dot3 a b c a b c = pp
  generalize dot3 a b c d e f = pq
  generalize dot3 d e f d e f = qq
  generalize dot3 x y z a b c = ap
  generalize dot3 x y z d e f = aq
  generalize dot3 x y z x y z = aa
  intro Kpp Kpq Kqq Kap Kaq Kaa bpp bpq bqq bap baq baa hv
  have m1 := mul_abs bap bqq
  have m2 := mul_abs baq bpq
  have m3 := mul_abs baq bpp
  have m4 := mul_abs bap bpq
  have bX : -77309411328 ≤ wayX ap aq pq qq ∧ wayX ap aq pq qq ≤ 77309411328 := by unfold wayX; omega
  have bY : -77309411328 ≤ wayX aq ap pq pp ∧ wayX aq ap pq pp ≤ 77309411328 := by unfold wayX; omega
  have i : ∀ {n : Int}, -9000000000000000000 ≤ n → n ≤ 9000000000000000000 → IntKind.i64.wrap n = n := fun h k => IntWalk.i64_in _ ⟨by omega, by omega⟩
  have w1 : IntKind.i64.wrap (ap * qq) = ap * qq := i (by omega) (by omega)
  have w2 : IntKind.i64.wrap (aq * pq) = aq * pq := i (by omega) (by omega)
  have w3 : IntKind.i64.wrap (ap * qq - aq * pq) = wayX ap aq pq qq := i (by omega) (by omega)
  have w4 : IntKind.i64.wrap (aq * pp) = aq * pp := i (by omega) (by omega)
  have w5 : IntKind.i64.wrap (ap * pq) = ap * pq := i (by omega) (by omega)
  have w6 : IntKind.i64.wrap (aq * pp - ap * pq) = wayX aq ap pq pp := i (by omega) (by omega)
  by_cases hX : 0 < wayX ap aq pq qq
  · by_cases hY : 0 < wayX aq ap pq pp
    · have m5 := mul_abs bpp bqq
      have m6 := mul_abs bpq bpq
      have bD : -77309411328 ≤ pp * qq - pq * pq ∧ pp * qq - pq * pq ≤ 77309411328 := by omega
      generalize wayX ap aq pq qq = X at *
      generalize wayX aq ap pq pp = Y at *
      have m7 := mul_abs bX bap
      have m8 := mul_abs bY baq
      have v1 : IntKind.i64.wrap (pp * qq) = pp * qq := i (by omega) (by omega)
      have v2 : IntKind.i64.wrap (pq * pq) = pq * pq := i (by omega) (by omega)
      have v3 : IntKind.i64.wrap (pp * qq - pq * pq) = pp * qq - pq * pq := i (by omega) (by omega)
      have v4 : IntKind.i64.wrap (X * ap) = X * ap := i (by omega) (by omega)
      have v5 : IntKind.i64.wrap (Y * aq) = Y * aq := i (by omega) (by omega)
      have v6 : IntKind.i64.wrap (X * ap + Y * aq) = X * ap + Y * aq := i (by omega) (by omega)
      have bT : -30500000000000000 ≤ X * ap + Y * aq ∧ X * ap + Y * aq ≤ 30500000000000000 := by omega
      have m9 := mul_abs bT (show -100 ≤ den ∧ den ≤ 100 by omega)
      have m10 := mul_abs (show -100 ≤ num ∧ num ≤ 100 by omega) bD
      have m11 := mul_abs m10 baa
      have u1 : IntKind.i64.wrap ((X * ap + Y * aq) * den) = (X * ap + Y * aq) * den := i (by omega) (by omega)
      have u2 : IntKind.i64.wrap (num * (pp * qq - pq * pq)) = num * (pp * qq - pq * pq) := i (by omega) (by omega)
      have u3 : IntKind.i64.wrap (num * (pp * qq - pq * pq) * aa) = num * (pp * qq - pq * pq) * aa := i (by omega) (by omega)
      have ev : passB x y z num den a b c d e f = decide (num * (pp * qq - pq * pq) * aa ≤ (X * ap + Y * aq) * den) := by
        rw [hv]
        exact decide_eq_decide.2 ⟨fun h => h.2.2, fun h => ⟨hX, hY, h⟩⟩
      rw [ev]
      exact passes_yes x y z num den a b c d e f pp pq qq ap aq aa _ _ X _ _ Y w Kpp Kpq Kqq Kap Kaq Kaa w1 w2 w3 w4 w5 w6 _ _ _ _ _ _ _ _ _ v1 v2 v3 v4 v5 v6 u1 u2 u3 hX hY
    · have ev : passB x y z num den a b c d e f = false := by rw [hv]; exact decide_eq_false fun h => hY h.2.1
      rw [ev]
      exact passes_no2 x y z num den a b c d e f pp pq qq ap aq aa _ _ _ _ _ _ w Kpp Kpq Kqq Kap Kaq w1 w2 w3 w4 w5 w6 hX (Int.not_lt.1 hY)
  · have ev : passB x y z num den a b c d e f = false := by rw [hv]; exact decide_eq_false fun h => hX h.1
    rw [ev]
    exact passes_no1 x y z num den a b c d e f pp pq qq ap aq aa _ _ _ _ _ _ w Kpp Kpq Kqq Kap Kaq w1 w2 w3 w4 w5 w6 (Int.not_lt.1 hX)

theorem firstNZ_zero {l : List Int} (h : firstNZ l = 0) : ∀ x ∈ l, x = 0 := by
  induction l with
  | nil => intro x hx; cases hx
  | cons a r ih =>
    intro x hx
    by_cases ha : a = 0
    · subst ha
      rcases List.mem_cons.1 hx with rfl | hx
      · rfl
      · exact ih (by simpa [firstNZ] using h) x hx
    · exfalso; simp [firstNZ, ha] at h

theorem meets_valid {x y z num den a b c d e f : Int} (h : meetsErr x y z num den a b c d e f = 0) :
    (Share num den ∧ rayErr x y z = 0 ∧ rayErr a b c = 0 ∧ rayErr d e f = 0) ∧ Turn3 x y z ∧ Turn3 a b c ∧ Turn3 d e f := by
  have h := firstNZ_zero h
  have h1 := cone_ok (h _ (.head _))
  exact ⟨⟨h1.2, h1.1, h _ (by simp), h _ (by simp)⟩, vec_ok (h _ (by simp)), vec_ok (h _ (by simp)), vec_ok (h _ (by simp))⟩

theorem opp_ray {x y z a b c : Int} (he : rayErr x y z = 0) (hf : rayErr a b c = 0) (w : World) :
    Calls Tryz.prog 39 #[.agg #[.int .i64 x, .int .i64 y, .int .i64 z], .agg #[.int .i64 a, .int .i64 b, .int .i64 c]] w fun r w' => r = .returned (.bool (oppB x y z a b c)) ∧ Below w.heap.size w w' := by
  obtain ⟨e1, h1, h2, h3⟩ := ray_ok he
  obtain ⟨e2, k1, k2, k3⟩ := ray_ok hf
  exact isOpposite_any x y z a b c ⟨fit_abs h1 (show (-1 : Int) ≤ 1 ∧ (1 : Int) ≤ 1 by decide) (by omega), fit_abs h2 (show (-1 : Int) ≤ 1 ∧ (1 : Int) ≤ 1 by decide) (by omega), fit_abs h3 (show (-1 : Int) ≤ 1 ∧ (1 : Int) ≤ 1 by decide) (by omega)⟩
    ⟨fit_abs k1 (show (-1 : Int) ≤ 1 ∧ (1 : Int) ≤ 1 by decide) (by omega), fit_abs k2 (show (-1 : Int) ≤ 1 ∧ (1 : Int) ≤ 1 by decide) (by omega), fit_abs k3 (show (-1 : Int) ≤ 1 ∧ (1 : Int) ≤ 1 by decide) (by omega)⟩ (dir_ok e1).1 (dir_ok e2).1 w

/-- Whether the way between two turns meets a cone. -/
def meetB (x y z num den a b c d e f : Int) : Bool := insB x y z num den a b c || (insB x y z num den d e f || passB x y z num den a b c d e f)

theorem turn_ray {x y z : Int} (h : Turn3 x y z) : Ray3 x y z := by
  obtain ⟨⟨h1, h2⟩, ⟨h3, h4⟩, h5, h6⟩ := h
  exact ⟨⟨by omega, by omega⟩, ⟨by omega, by omega⟩, by omega, by omega⟩

set_option maxHeartbeats 1600000 in
theorem meets_ok (x y z num den a b c d e f : Int) (hb : meetsErr x y z num den a b c d e f = 0) (ho : oppB a b c d e f = false) (w : World) :
    Calls Tryz.prog 8 #[.agg #[.int .i64 x, .int .i64 y, .int .i64 z, .int .i64 num, .int .i64 den], .agg #[.int .i64 a, .int .i64 b, .int .i64 c], .agg #[.int .i64 d, .int .i64 e, .int .i64 f]] w fun r w' => r = .returned (.tuple #[.bool (meetB x y z num den a b c d e f), .int .i64 0]) ∧ Below w.heap.size w w' := by
  obtain ⟨⟨hs, h1, h2, h3⟩, t1, t2, t3⟩ := meets_valid hb
  have KO := fun w1 => opp_ray h2 h3 w1
  rw [ho] at KO
  have K1 := fun w1 => contains_any x y z num den a b c (turn_ray t1) (turn_ray t2) hs w1
  have K2 := fun w1 => contains_any x y z num den d e f (turn_ray t1) (turn_ray t3) hs w1
  have K9 := fun w1 => passes_any x y z num den a b c d e f t1 t2 t3 hs w1
  unfold meetB
  cases i1 : insB x y z num den a b c with
  | true => rw [i1] at K1; exact meets_in1 x y z num den a b c d e f hb w KO K1
  | false =>
    rw [i1] at K1
    cases i2 : insB x y z num den d e f with
    | true => rw [i2] at K2; exact meets_in2 x y z num den a b c d e f hb w KO K1 K2
    | false => rw [i2] at K2; exact meets_pass x y z num den a b c d e f hb _ w KO K1 K2 K9
end Go.Proofs.YtpflbkgmgfhhnaaGreatDoor

/-
  Contracts of Reflected and Normal, for rays, with their mathematics.
-/
namespace Go.Proofs.YtpflbkgmgfhhnaaGreatDoor
open Go.RowKit
set_option linter.unusedVariables false
set_option linter.unusedSimpArgs false

theorem reflected_fits {x y z a b c : Int} (he : rayErr x y z = 0) (hf : rayErr a b c = 0) :
    (Mid (rflP x a (dot3 x y z a b c) (dot3 a b c a b c)) ∧ Mid (rflP y b (dot3 x y z a b c) (dot3 a b c a b c)) ∧ Mid (rflP z c (dot3 x y z a b c) (dot3 a b c a b c))) ∧
    ¬ (rflP x a (dot3 x y z a b c) (dot3 a b c a b c) = 0 ∧ rflP y b (dot3 x y z a b c) (dot3 a b c a b c) = 0 ∧ rflP z c (dot3 x y z a b c) (dot3 a b c a b c) = 0) := by
  obtain ⟨e1, hx, hy, hz⟩ := ray_ok he
  obtain ⟨e2, ha, hb, hc⟩ := ray_ok hf
  have hd := dot_ray hx hy hz ha hb hc
  have hn := dot_ray ha hb hc ha hb hc
  exact ⟨⟨(rfl_mid hx ha hd hn).2.2.2, (rfl_mid hy hb hd hn).2.2.2, (rfl_mid hz hc hd hn).2.2.2⟩, rfl_nz (dir_ok e1).1 (dir_ok e2).1⟩

theorem reflected_ok (x y z a b c p1 p2 p3 : Int) (he : rayErr x y z = 0) (hf : rayErr a b c = 0) (h1 : rflP x a (dot3 x y z a b c) (dot3 a b c a b c) = p1) (h2 : rflP y b (dot3 x y z a b c) (dot3 a b c a b c) = p2) (h3 : rflP z c (dot3 x y z a b c) (dot3 a b c a b c) = p3)
    (hv : vectorErrL 4096 (p1.tdiv (g3 p1 p2 p3)) (p2.tdiv (g3 p1 p2 p3)) (p3.tdiv (g3 p1 p2 p3)) = 0) (w : World) :
    Calls Tryz.prog 21 #[.agg #[.int .i64 x, .int .i64 y, .int .i64 z], .agg #[.int .i64 a, .int .i64 b, .int .i64 c]] w fun e w' => e = .returned (.tuple #[.agg #[.int .i64 (p1.tdiv (g3 p1 p2 p3)), .int .i64 (p2.tdiv (g3 p1 p2 p3)), .int .i64 (p3.tdiv (g3 p1 p2 p3))], .int .i64 0]) ∧ Below w.heap.size w w' := by
  have hF := reflected_fits he hf
  have hR := reflected_any x y z a b c (p1.tdiv (g3 p1 p2 p3)) (p2.tdiv (g3 p1 p2 p3)) (p3.tdiv (g3 p1 p2 p3)) 0 he hf
  rw [h1, h2, h3] at hF hR
  exact hR (fun w1 => rayOf_ok p1 p2 p3 hF.1.1 hF.1.2.1 hF.1.2.2 hF.2 hv w1) w
theorem reflected_large (x y z a b c p1 p2 p3 : Int) (he : rayErr x y z = 0) (hf : rayErr a b c = 0) (h1 : rflP x a (dot3 x y z a b c) (dot3 a b c a b c) = p1) (h2 : rflP y b (dot3 x y z a b c) (dot3 a b c a b c) = p2) (h3 : rflP z c (dot3 x y z a b c) (dot3 a b c a b c) = p3)
    (hv : vectorErrL 4096 (p1.tdiv (g3 p1 p2 p3)) (p2.tdiv (g3 p1 p2 p3)) (p3.tdiv (g3 p1 p2 p3)) ≠ 0) (w : World) :
    Calls Tryz.prog 21 #[.agg #[.int .i64 x, .int .i64 y, .int .i64 z], .agg #[.int .i64 a, .int .i64 b, .int .i64 c]] w fun e w' => e = .returned (.tuple #[.agg #[.int .i64 0, .int .i64 0, .int .i64 0], .int .i64 4]) ∧ Below w.heap.size w w' := by
  have hF := reflected_fits he hf
  have hR := reflected_any x y z a b c 0 0 0 4 he hf
  rw [h1, h2, h3] at hF hR
  exact hR (fun w1 => rayOf_bad p1 p2 p3 hF.1.1 hF.1.2.1 hF.1.2.2 hF.2 hv w1) w

theorem len_pos {x y z : Int} (h : ¬ (x = 0 ∧ y = 0 ∧ z = 0)) {L : Nat} (hL : (L : Int) * L = dot3 x y z x y z) : 0 < (L : Int) := by
  have h1 := dot_pos h
  rcases Nat.eq_zero_or_pos L with rfl | h2
  · simp at hL
    omega
  · omega
theorem len_le {x y z : Int} (h : Ray3 x y z) {L : Nat} (hL : (L : Int) * L = dot3 x y z x y z) : (L : Int) ≤ 7095 := by
  obtain ⟨h1, h2, h3⟩ := h
  have h4 := (dot_ray h1 h2 h3 h1 h2 h3).2
  rcases Int.lt_or_le 7095 (L : Int) with h5 | h5
  · have h6 : (7096 : Int) * 7096 ≤ (L : Int) * L := Int.mul_le_mul (by omega) (by omega) (by omega) (by omega)
    omega
  · exact h5
/-- Two rays of whole lengths whose weighted sum is nothing are opposite. -/
theorem opp_of_zero {x y z a b c L M : Int} (h : ¬ (x = 0 ∧ y = 0 ∧ z = 0)) (h' : ¬ (a = 0 ∧ b = 0 ∧ c = 0)) (hL : 0 < L) (hM : 0 < M)
    (e1 : x * M + a * L = 0) (e2 : y * M + b * L = 0) (e3 : z * M + c * L = 0) : oppB x y z a b c = true := by
  obtain ⟨r1, r2, r3⟩ := Red.unique (red_of h) (red_of h').neg hM hL (by grind) (by grind) (by grind)
  exact decide_eq_true ⟨r1, r2, r3⟩

set_option maxHeartbeats 1600000 in
theorem normal_fits {x y z a b c : Int} (he : rayErr x y z = 0) (hf : rayErr a b c = 0) {L M : Nat} (hL : (L : Int) * L = dot3 x y z x y z) (hM : (M : Int) * M = dot3 a b c a b c) :
    (Fit (x * M) ∧ Fit (y * M) ∧ Fit (z * M)) ∧ (Fit (a * L) ∧ Fit (b * L) ∧ Fit (c * L)) ∧ (Fit (x * M + a * L) ∧ Fit (y * M + b * L) ∧ Fit (z * M + c * L)) ∧ (Mid (x * M + a * L) ∧ Mid (y * M + b * L) ∧ Mid (z * M + c * L)) := by
  obtain ⟨_, hx, hy, hz⟩ := ray_ok he
  obtain ⟨_, ha, hb, hc⟩ := ray_ok hf
  have l1 := len_le ⟨hx, hy, hz⟩ hL
  have l2 := len_le ⟨ha, hb, hc⟩ hM
  have m1 := mul_abs hx (show (-7095 : Int) ≤ M ∧ (M : Int) ≤ 7095 by omega)
  have m2 := mul_abs hy (show (-7095 : Int) ≤ M ∧ (M : Int) ≤ 7095 by omega)
  have m3 := mul_abs hz (show (-7095 : Int) ≤ M ∧ (M : Int) ≤ 7095 by omega)
  have m4 := mul_abs ha (show (-7095 : Int) ≤ L ∧ (L : Int) ≤ 7095 by omega)
  have m5 := mul_abs hb (show (-7095 : Int) ≤ L ∧ (L : Int) ≤ 7095 by omega)
  have m6 := mul_abs hc (show (-7095 : Int) ≤ L ∧ (L : Int) ≤ 7095 by omega)
  unfold Fit Mid
  refine ⟨⟨⟨?_, ?_⟩, ⟨?_, ?_⟩, ⟨?_, ?_⟩⟩, ⟨⟨?_, ?_⟩, ⟨?_, ?_⟩, ⟨?_, ?_⟩⟩, ⟨⟨?_, ?_⟩, ⟨?_, ?_⟩, ⟨?_, ?_⟩⟩, ⟨⟨?_, ?_⟩, ⟨?_, ?_⟩, ⟨?_, ?_⟩⟩⟩ <;> omega

theorem normal_any (x y z a b c p1 p2 p3 : Int) (he : rayErr x y z = 0) (hf : rayErr a b c = 0) (L M : Nat) (hL : (L : Int) * L = dot3 x y z x y z) (hM : (M : Int) * M = dot3 a b c a b c) (ho : oppB x y z a b c = false)
    (h1 : x * M + a * L = p1) (h2 : y * M + b * L = p2) (h3 : z * M + c * L = p3)
    (hv : vectorErrL 4096 (p1.tdiv (g3 p1 p2 p3)) (p2.tdiv (g3 p1 p2 p3)) (p3.tdiv (g3 p1 p2 p3)) = 0) (w : World) :
    Calls Tryz.prog 28 #[.agg #[.int .i64 x, .int .i64 y, .int .i64 z], .agg #[.int .i64 a, .int .i64 b, .int .i64 c]] w fun e w' => e = .returned (.tuple #[.agg #[.int .i64 (p1.tdiv (g3 p1 p2 p3)), .int .i64 (p2.tdiv (g3 p1 p2 p3)), .int .i64 (p3.tdiv (g3 p1 p2 p3))], .int .i64 0]) ∧ Below w.heap.size w w' := by
  obtain ⟨f1, f2, f3, f4⟩ := normal_fits he hf hL hM
  obtain ⟨d1, hx⟩ := ray_ok he
  obtain ⟨d2, ha⟩ := ray_ok hf
  have hz : ¬ (p1 = 0 ∧ p2 = 0 ∧ p3 = 0) := fun ⟨z1, z2, z3⟩ => by
    have := opp_of_zero (dir_ok d1).1 (dir_ok d2).1 (len_pos (dir_ok d1).1 hL) (len_pos (dir_ok d2).1 hM) (h1.trans z1) (h2.trans z2) (h3.trans z3)
    rw [this] at ho
    cases ho
  have KO := fun w1 => opp_ray he hf w1
  rw [ho] at KO
  rw [h1, h2, h3] at f4
  refine normal_ok x y z a b c he hf L M w (fun w1 => lengthOf_whole hx hL w1) (fun w1 => lengthOf_whole ha hM w1) KO (x * M) (y * M) (z * M) (a * L) (b * L) (c * L) p1 p2 p3 _ _ _ 0
    (fun w1 => times_any x y z M f1.1 f1.2.1 f1.2.2 w1) (fun w1 => times_any a b c L f2.1 f2.2.1 f2.2.2 w1) (fun w1 => ?_) (fun w1 => rayOf_ok p1 p2 p3 f4.1 f4.2.1 f4.2.2 hz hv w1)
  have h := partsPlus_any (x * M) (y * M) (z * M) (a * L) (b * L) (c * L) f3.1 f3.2.1 f3.2.2 w1
  rwa [h1, h2, h3] at h
end Go.Proofs.YtpflbkgmgfhhnaaGreatDoor

/-
  Contract of Bent, for valid air and a ray.
-/
namespace Go.Proofs.YtpflbkgmgfhhnaaGreatDoor
open Go.RowKit
set_option linter.unusedVariables false
set_option linter.unusedSimpArgs false

theorem cell_set3 (w : World) {B q : Nat} (hq : q ≠ B) (i : Nat) (a b c : Value) : (((w.setCell ⟨B, 0, none⟩ a).setCell ⟨B, 1, none⟩ b).setCell ⟨B, 2, none⟩ c).cell? ⟨q, i, none⟩ = w.cell? ⟨q, i, none⟩ := by
  unfold World.cell?
  rw [show ((((w.setCell ⟨B, 0, none⟩ a).setCell ⟨B, 1, none⟩ b).setCell ⟨B, 2, none⟩ c).heap[q]?) = w.heap[q]? from put3_other w hq a b c]
theorem blw_set3 {w v : World} (h : Blw w.heap.size w v) {B : Nat} (hB : w.heap.size ≤ B) (a b c : Value) : Blw w.heap.size w (((v.setCell ⟨B, 0, none⟩ a).setCell ⟨B, 1, none⟩ b).setCell ⟨B, 2, none⟩ c) :=
  show Below _ _ _ from put3_below (show Below _ _ _ from h) hB a b c

set_option maxRecDepth 100000 in
set_option maxHeartbeats 6400000 in
theorem bent_walk (P : List PlV) (b q n c m : Nat) (x y z pa pl pi s1 s2 s3 r1 r2 r3 : Int) (he : rayErr x y z = 0) (w : World)
    (KA : ∀ w1 : World, Below w.heap.size w w1 → Calls Tryz.prog 81 #[.slice (some ⟨b, q, none⟩) n c] w1 fun e w' => e = .returned (.int .i64 0) ∧ Below w1.heap.size w1 w')
    (KST : ∀ w1 : World, Blw w.heap.size w w1 → Calls Tryz.prog 84 #[.slice (some ⟨b, q, none⟩) n c] w1 fun e w' => ∃ g cap, e = .returned (.slice (some ⟨g, 0, none⟩) m cap) ∧ (PlsAt w' g 0 P ∧ g < w'.heap.size ∧ m ≤ cap) ∧ Below w1.heap.size w1 w')
    (KSO : ∀ (w1 : World) (g cap : Nat), PlsAt w1 g 0 P ∧ g < w1.heap.size ∧ m ≤ cap → Calls Tryz.prog 83 #[.slice (some ⟨g, 0, none⟩) m cap, .agg #[.int .i64 x, .int .i64 y, .int .i64 z]] w1 fun e w' => e = .returned (.agg #[.int .i64 pa, .int .i64 pl, .int .i64 pi]) ∧ Below w1.heap.size w1 w')
    (KL : ∀ w1 : World, Blw w.heap.size w w1 → Calls Tryz.prog 82 #[.agg #[.int .i64 x, .int .i64 y, .int .i64 z], .int .i64 pl] w1 fun e w' => e = .returned (.agg #[.int .i64 s1, .int .i64 s2, .int .i64 s3]) ∧ Below w1.heap.size w1 w')
    (KR : ∀ w1 : World, Calls Tryz.prog 61 #[.agg #[.int .i64 s1, .int .i64 s2, .int .i64 s3]] w1 fun e w' => e = .returned (.agg #[.int .i64 r1, .int .i64 r2, .int .i64 r3]) ∧ Below w1.heap.size w1 w') :
    Calls Tryz.prog 54 #[.slice (some ⟨b, q, none⟩) n c, .agg #[.int .i64 x, .int .i64 y, .int .i64 z]] w fun e w' => e = .returned (.tuple #[.agg #[.int .i64 r1, .int .i64 r2, .int .i64 r3], .int .i64 0]) ∧ Below w.heap.size w w' := by
  have HKA := Lib.hid KA
  have HKST := Lib.hid KST
  have HKSO := Lib.hid KSO
  have HKL := Lib.hid KL
  have HKR := Lib.hid KR
  clear KA KST KSO KL KR
  have KX : Hid (∀ w1 : World, Calls Tryz.prog 35 #[.agg #[.int .i64 x, .int .i64 y, .int .i64 z]] w1 fun e w' => e = .returned (.int .i64 0) ∧ Below w1.heap.size w1 w') := Lib.hid fun w1 => by
    have h := checkRay_all x y z w1
    rwa [he] at h
  have KP : Hid (∀ w1 : World, Calls Tryz.prog 37 #[.agg #[.int .i64 x, .int .i64 y, .int .i64 z]] w1 fun e w' => e = .returned (.agg #[.int .i64 x, .int .i64 y, .int .i64 z]) ∧ Below w1.heap.size w1 w') := Lib.hid fun w1 => partsOf_any x y z w1
  have KV : Hid (∀ w1 : World, Calls Tryz.prog 62 #[.agg #[.int .i64 r1, .int .i64 r2, .int .i64 r3]] w1 fun e w' => e = .returned (.agg #[.int .i64 r1, .int .i64 r2, .int .i64 r3]) ∧ Below w1.heap.size w1 w') := Lib.hid fun w1 => vector_any r1 r2 r3 w1
  have KF : Hid (∀ (w1 : World) (b : Nat), (∀ j, j < 2 → w1.cell? ⟨b, 0 + j, none⟩ = some (.int .i64 (([0, 0] : List Int)[j]?.getD 0))) → Calls Tryz.prog 34 #[.slice (some ⟨b, 0, none⟩) 2 2] w1 fun e w' => e = .returned (.int .i64 0) ∧ w1 = w') := Lib.hid fun w1 b h => first_any b 0 2 2 [0, 0] rfl (by omega) w1 h
  obtain ⟨W0, hW0⟩ : ∃ W0, ((w.alloc (.cells #[.int .i64 x, .int .i64 y, .int .i64 z] 23)).alloc (.cells #[.int .i64 0, .int .i64 0, .int .i64 0] 23)) = W0 := ⟨_, rfl⟩
  have K0 : Hid (Kp w W0 [(w.heap.size + 1, (.cells #[.int .i64 0, .int .i64 0, .int .i64 0] 23 (0, 0))), (w.heap.size, (.cells #[.int .i64 x, .int .i64 y, .int .i64 z] 23 (0, 0)))]) := Lib.hid (by
    rw [← hW0]
    have k := (((Kp.none w).alloc (.cells #[.int .i64 x, .int .i64 y, .int .i64 z] 23)).alloc (.cells #[.int .i64 0, .int .i64 0, .int .i64 0] 23))
    simpa using k)
  have KA : Hid (∀ w1 : World, Blw W0.heap.size W0 w1 → Calls Tryz.prog 81 #[.slice (some ⟨b, q, none⟩) n c] w1 fun e w' => e = .returned (.int .i64 0) ∧ Below w1.heap.size w1 w') := Lib.hid fun w1 hb => HKA.out w1 ((Kp.below K0.out).trans ((show Below _ _ _ from hb).mono (Kp.below K0.out).size))
  go_enter Tryz.func54, Tryz.ntmps54
  go_upto_region 1 with fail
  try rw [hW0]
  clear hW0
  apply wp_region_gives 4 (fun w' => Blw W0.heap.size W0 w') [.slice (some ⟨b, q, none⟩) n c, .int .i64 0, .agg #[.int .i64 x, .int .i64 y, .int .i64 z], .int .i64 0] (by kernel_rfl) (by kernel_rfl) (by kernel_rfl) (show Below _ _ _ from (Below.refl _ _).drew)
  case haF =>
    simp [putJs, Act.put, List.range, List.range.loop]
    exact rfl
  case h =>
    have hBx := K0.out.2 _ (.tail _ (.head _))
    simp only [List.take_succ_cons, List.take_zero, GivesL]
    clear K0
    refine ⟨?_, ?_, ?_, ?_, trivial⟩
    all_goals
      intro w1 hw1
      obtain ⟨x_0, x_1, x_2⟩ := cells3 (((show Below _ _ _ from hw1).block _ (lt_of_blk hBx)).trans hBx)
      unfold Oper.wp
      simp only [execOp]
      go_simp <;> first
        | exact ⟨rfl, hw1⟩
        | ((with_reducible refine (KX.out _).mono ?_); rintro e w2 ⟨rfl, hb⟩; exact ⟨rfl, below_call hb hw1⟩)
        | ((with_reducible refine (KA.out _ hw1).mono ?_); rintro e w2 ⟨rfl, hb⟩; exact ⟨rfl, below_call hb hw1⟩)
  case ht =>
    intro w2 hw5
    have K2 := Lib.hid (K0.out.call (show Below _ _ _ from hw5))
    clear hw5 K0
    simp only [List.drop_succ_cons, List.drop_zero]
    clear KX HKA KA
    go_upto_region 4 with (first
      | (go_at_call 34; (with_reducible refine (KF.out _ _ ?_).mono ?_); rotate_left 1; rintro e w6 ⟨rfl, rfl⟩; rotate_left 1; (intro j hj; match j, hj with | 0, _ => simp [go_sem] | 1, _ => simp [go_sem])))
    refine wp_world (fun w' => Kp w w' [(w.heap.size + 1, (.cells #[.int .i64 0, .int .i64 0, .int .i64 0] 23 (0, 0))), (w.heap.size, (.cells #[.int .i64 x, .int .i64 y, .int .i64 z] 23 (0, 0)))]) (by exact K2.out.call ((Below.refl _ _).alloc (Nat.le_refl _) _)) fun w3 k3 => ?_
    have K3 := Lib.hid k3
    clear k3 K2 KF
    obtain ⟨n0, n1, n2⟩ := cells3 (K3.out.2 _ (.tail _ (.head _)))
    go_upto_region 5 with (first
      | (go_at_call 37; (with_reducible refine (KP.out _).mono ?_); rintro e w7 ⟨rfl, hb⟩; have K7 := Lib.hid (K3.out.call hb); clear hb n0 n1 n2 K3))
    refine wp_world (fun w' => Kp w w' [(w7.heap.size, (.cells #[.int .i64 x, .int .i64 y, .int .i64 z] 73 (0, 0))), (w.heap.size + 1, (.cells #[.int .i64 0, .int .i64 0, .int .i64 0] 23 (0, 0))), (w.heap.size, (.cells #[.int .i64 x, .int .i64 y, .int .i64 z] 23 (0, 0)))]) (by exact K7.out.alloc (.cells #[.int .i64 x, .int .i64 y, .int .i64 z] 73)) fun w8 k8 => ?_
    have K8 := Lib.hid k8
    clear k8
    obtain ⟨B7, hB7⟩ : ∃ B7, w7.heap.size = B7 := ⟨_, rfl⟩
    have hNE : w7.heap.size ≠ w.heap.size + 1 := by
      have h1 := lt_of_blk (K7.out.2 _ (.head _))
      simp only at h1
      omega
    rw [hB7] at K8 hNE ⊢
    clear hB7 K7
    obtain ⟨x0, x1, x2⟩ := cells3 (K8.out.2 _ (.head _))
    have hS7 : B7 < w8.heap.size := lt_of_blk (K8.out.2 _ (.head _))
    have hW8 := Lib.hid (Kp.below K8.out)
    have hR0 : Blw w.heap.size w w8 := show Below _ _ _ from hW8.out
    have hR1 : Blw w.heap.size w w8.drew := show Below _ _ _ from hW8.out.drew
    have hne7 : B7 ≠ w.heap.size + 1 := hNE
    have hD0 : Blw w8.heap.size w8 w8 := show Below _ _ _ from Below.refl _ _
    have hD1 : Blw w8.heap.size w8 w8.drew := show Below _ _ _ from (Below.refl _ w8).drew
    have f1 : ∀ w1 : World, (Instr.field 137 (.agg #[.int .i64 pa, .int .i64 pl, .int .i64 pi]) 0).run Tryz.prog w1 = .ok (.agg #[.int .i64 pa, .int .i64 pl]) w1 := fun w1 => by kernel_rfl
    have f2 : ∀ w1 : World, (Instr.field 135 (.agg #[.int .i64 pa, .int .i64 pl]) 1).run Tryz.prog w1 = .ok (.int .i64 pl) w1 := fun w1 => by kernel_rfl
    go_region_held3 (fun w' => w'.cell? ⟨B7, 0, none⟩ = some (.int .i64 x) ∧ w'.cell? ⟨B7, 1, none⟩ = some (.int .i64 y) ∧ w'.cell? ⟨B7, 2, none⟩ = some (.int .i64 z) ∧ Blw w.heap.size w w')
      (first | (go_split_ands; refine ⟨?_, ?_, ?_, ?_⟩ <;> first | (with_reducible assumption) | ((rw [h1.cell hS7]; assumption)) | ((rw [h2.cell hS7]; assumption)) | ((rw [h3.cell hS7]; assumption)) | ((rw [h4.cell hS7]; assumption)) | ((rw [h5.cell hS7]; assumption)) | ((rw [cell_set3 _ hne7, h5.cell hS7]; assumption)) | exact blw_set3 q5 (by omega) _ _ _) | go_keep)
      (first
        | (go_at_call 84; (with_reducible refine (HKST.out _ (by with_reducible assumption)).mono ?_); rintro e w1 ⟨g, cap, rfl, hP, hb⟩; have h1 : Below w8.heap.size w8 w1 := (show Below w8.heap.size w8 _ from (by with_reducible assumption : Blw w8.heap.size w8 _)).trans (hb.mono (by simp)); have q1 : Blw w.heap.size w w1 := hW8.out.trans (h1.mono hW8.out.size); have HP := Lib.hid hP; clear hP hb)
        | (go_at_call 83; (with_reducible refine (HKSO.out _ _ _ HP.out).mono ?_); rintro e w2 ⟨rfl, hb⟩; have h2 : Below w8.heap.size w8 w2 := h1.trans (hb.mono h1.size); have q2 : Blw w.heap.size w w2 := hW8.out.trans (h2.mono hW8.out.size); clear hb HP)
        | (go_at_call 82; (with_reducible refine (HKL.out _ (by with_reducible assumption)).mono ?_); rintro e w3 ⟨rfl, hb⟩; have h3 : Below w8.heap.size w8 w3 := h2.trans (hb.mono h2.size); have q3 : Blw w.heap.size w w3 := hW8.out.trans (h3.mono hW8.out.size); clear hb)
        | (go_at_call 61; (with_reducible refine (HKR.out _).mono ?_); rintro e w4 ⟨rfl, hb⟩; have h4 : Below w8.heap.size w8 w4 := h3.trans (hb.mono h3.size); have q4 : Blw w.heap.size w w4 := hW8.out.trans (h4.mono hW8.out.size); clear hb)
        | (go_at_call 62; (with_reducible refine (KV.out _).mono ?_); rintro e w5 ⟨rfl, hb⟩; have h5 : Below w8.heap.size w8 w5 := h4.trans (hb.mono h4.size); have q5 : Blw w.heap.size w w5 := hW8.out.trans (h5.mono hW8.out.size); clear hb; have K9 := Lib.hid (K8.out.call h5); obtain ⟨o0, o1, o2⟩ := cells3 (K9.out.2 _ (.tail _ (.head _))); have oz : ∀ j, w5.frozen? ⟨w.heap.size + 1, j, none⟩ = false := fun j => frozen_of_row w5 (w.heap.size + 1) j _ _ (K9.out.2 _ (.tail _ (.head _)))))
    all_goals
      go_wp2_with fail
      have hb5 := Lib.hid (Kp.below K9.out)
      refine bodyPost_ret (v := .tuple #[.agg #[.int .i64 r1, .int .i64 r2, .int .i64 r3], .int .i64 0]) (by simp [results, Tryz.results54, go_sem, o0, o1, o2]) rfl ⟨rfl, ?_⟩
      exact ((hb5.out.setCell (show w.heap.size ≤ w.heap.size + 1 by omega) _).setCell (show w.heap.size ≤ w.heap.size + 1 by omega) _).setCell (show w.heap.size ≤ w.heap.size + 1 by omega) _
end Go.Proofs.YtpflbkgmgfhhnaaGreatDoor
