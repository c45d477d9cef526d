/-
  Contracts of passes and Meets, for turns: whether the way between two turns meets a cone.
-/
import Derived.Test.YtggffhmdgceljaaGreatDoorRows
import Derived.WalkKit
import Derived.WalkSpells
import Derived.WalkLawsBesides
import Derived.Lib.Hide
import Derived.BigQuiet
import Derived.Deep.QuietTactic
import Derived.Handy
import Derived.Deep.RegionHeld3
import Derived.Deep.RegionWith
import Derived.StillTailTactics
import Derived.RangeFuncNested
import Derived.RangeFuncBound
import Derived.RangeFuncCalls
import Derived.RangeFuncLeaves
import Derived.RangeFuncBox
import Derived.Shelf.Abstract
import Derived.Shelf.RegionOpen
import Derived.OwnWalkIn
import Derived.TacticsInMore
import Derived.LoopNIn
import Derived.LoopIn
import Derived.Maps.AppendAt
import Derived.Test.YtggffhmdgceljaaGreatDoorProg
import Derived.Laws.FloatArith
import Derived.Laws.BitsAllLaws
import Derived.Deep.DeepCutAuto
import Derived.Stop.BytesEq
import Derived.Deep.MidRow
import Derived.Laws.CopyRow
import Derived.WalkMore
import Derived.Deep.DrawnRows
import Derived.Deep.CutBlock
import Derived.Orders
import Derived.LoopTactic
import Derived.Laws.StructEq
import Derived.Deep.RegionLaw
import Derived.RegionTactic
import Derived.StillTail
import Derived.Test.YtggffhmdgceljaaGreatDoorOwaWn
import Derived.Test.YtggffhmdgceljaaGreatDoorOwaWa
import Derived.Test.YtggffhmdgceljaaGreatDoorOwaXe
import Derived.Test.YtggffhmdgceljaaGreatDoorOwaIb
import Derived.Test.YtggffhmdgceljaaGreatDoorOwaId
import Derived.Test.YtggffhmdgceljaaGreatDoorOwaIi
import Derived.Test.YtggffhmdgceljaaGreatDoorOwaIq
import Derived.Test.YtggffhmdgceljaaGreatDoorOwaIr
import Derived.Test.YtggffhmdgceljaaGreatDoorOwaIs
import Derived.Test.YtggffhmdgceljaaGreatDoorOwaWi
import Derived.Test.YtggffhmdgceljaaGreatDoorOwaIg
import Derived.Test.YtggffhmdgceljaaGreatDoorOwaIo
import Derived.Laws.RangeString
import Derived.Laws.RangeAny
import Derived.Test.YtggffhmdgceljaaGreatDoorOwaNh
import Derived.Test.YtggffhmdgceljaaGreatDoorOwaNi
import Derived.Test.YtggffhmdgceljaaGreatDoorOwaNd
import Derived.Test.YtggffhmdgceljaaGreatDoorOwaNc
namespace Go.Proofs.YtggffhmdgceljaaGreatDoor
open Go.RowKit
set_option linter.unusedVariables false
set_option linter.unusedSimpArgs false

def Turn3 (x y z : Int) : Prop := (-256 ≤ x ∧ x ≤ 256) ∧ (-256 ≤ y ∧ y ≤ 256) ∧ (-256 ≤ z ∧ z ≤ 256)
theorem dot_turn {x y z a b c : Int} (h : Turn3 x y z) (k : Turn3 a b c) : -196608 ≤ dot3 x y z a b c ∧ dot3 x y z a b c ≤ 196608 := by
  obtain ⟨h1, h2, h3⟩ := h
  obtain ⟨k1, k2, k3⟩ := k
  have := dot_abs h1 h2 h3 k1 k2 k3
  unfold dot3
  omega
theorem dot_turnC {x y z a b c : Int} (h : Turn3 x y z) (k : Turn3 a b c) (w : World) :
    Calls Tryz.prog 74 #[.agg #[.int .i64 x, .int .i64 y, .int .i64 z], .agg #[.int .i64 a, .int .i64 b, .int .i64 c]] w fun r w' => r = .returned (.int .i64 (dot3 x y z a b c)) ∧ Below w.heap.size w w' := by
  obtain ⟨h1, h2, h3⟩ := h
  obtain ⟨k1, k2, k3⟩ := k
  exact dot_any x y z a b c (fit_abs h1 k1 (by omega)) (fit_abs h2 k2 (by omega)) (fit_abs h3 k3 (by omega)) w

def wayX (ap aq pq qq : Int) : Int := ap * qq - aq * pq
/-- Whether the projection of the axis lies between two turns and is inside of the cone. -/
def passB (x y z num den a b c d e f : Int) : Bool :=
  decide (0 < wayX (dot3 x y z a b c) (dot3 x y z d e f) (dot3 a b c d e f) (dot3 d e f d e f) ∧ 0 < wayX (dot3 x y z d e f) (dot3 x y z a b c) (dot3 a b c d e f) (dot3 a b c a b c) ∧
    num * (dot3 a b c a b c * dot3 d e f d e f - dot3 a b c d e f * dot3 a b c d e f) * dot3 x y z x y z ≤
      (wayX (dot3 x y z a b c) (dot3 x y z d e f) (dot3 a b c d e f) (dot3 d e f d e f) * dot3 x y z a b c + wayX (dot3 x y z d e f) (dot3 x y z a b c) (dot3 a b c d e f) (dot3 a b c a b c) * dot3 x y z d e f) * den)

set_option maxHeartbeats 1600000 in
theorem passes_any (x y z num den a b c d e f : Int) (hx : Turn3 x y z) (ha : Turn3 a b c) (hd : Turn3 d e f) (hs : Share num den) (w : World) :
    Calls Tryz.prog 48 #[.agg #[.int .i64 x, .int .i64 y, .int .i64 z, .int .i64 num, .int .i64 den], .agg #[.int .i64 a, .int .i64 b, .int .i64 c], .agg #[.int .i64 d, .int .i64 e, .int .i64 f]] w fun r w' => r = .returned (.bool (passB x y z num den a b c d e f)) ∧ Below w.heap.size w w' := by
  obtain ⟨⟨s1, s2⟩, s3, s4⟩ := hs
  have Kpp := fun w1 => dot_turnC ha ha w1
  have Kpq := fun w1 => dot_turnC ha hd w1
  have Kqq := fun w1 => dot_turnC hd hd w1
  have Kap := fun w1 => dot_turnC hx ha w1
  have Kaq := fun w1 => dot_turnC hx hd w1
  have Kaa := fun w1 => dot_turnC hx hx w1
  have bpp := dot_turn ha ha
  have bpq := dot_turn ha hd
  have bqq := dot_turn hd hd
  have bap := dot_turn hx ha
  have baq := dot_turn hx hd
  have baa := dot_turn hx hx
  have hv : passB x y z num den a b c d e f = passB x y z num den a b c d e f := rfl
  conv at hv => rhs; unfold passB
  clear hx ha hd
  revert Kpp Kpq Kqq Kap Kaq Kaa bpp bpq bqq bap baq baa hv
  generalize dot3 a b c a b c = pp
  generalize dot3 a b c d e f = pq
  generalize dot3 d e f d e f = qq
  generalize dot3 x y z a b c = ap
  generalize dot3 x y z d e f = aq
  generalize dot3 x y z x y z = aa
  intro Kpp Kpq Kqq Kap Kaq Kaa bpp bpq bqq bap baq baa hv
  have m1 := mul_abs bap bqq
  have m2 := mul_abs baq bpq
  have m3 := mul_abs baq bpp
  have m4 := mul_abs bap bpq
  have bX : -77309411328 ≤ wayX ap aq pq qq ∧ wayX ap aq pq qq ≤ 77309411328 := by unfold wayX; omega
  have bY : -77309411328 ≤ wayX aq ap pq pp ∧ wayX aq ap pq pp ≤ 77309411328 := by unfold wayX; omega
  have i : ∀ {n : Int}, -9000000000000000000 ≤ n → n ≤ 9000000000000000000 → IntKind.i64.wrap n = n := fun h k => IntWalk.i64_in _ ⟨by omega, by omega⟩
  have w1 : IntKind.i64.wrap (ap * qq) = ap * qq := i (by omega) (by omega)
  have w2 : IntKind.i64.wrap (aq * pq) = aq * pq := i (by omega) (by omega)
  have w3 : IntKind.i64.wrap (ap * qq - aq * pq) = wayX ap aq pq qq := i (by omega) (by omega)
  have w4 : IntKind.i64.wrap (aq * pp) = aq * pp := i (by omega) (by omega)
  have w5 : IntKind.i64.wrap (ap * pq) = ap * pq := i (by omega) (by omega)
  have w6 : IntKind.i64.wrap (aq * pp - ap * pq) = wayX aq ap pq pp := i (by omega) (by omega)
  by_cases hX : 0 < wayX ap aq pq qq
  · by_cases hY : 0 < wayX aq ap pq pp
    · have m5 := mul_abs bpp bqq
      have m6 := mul_abs bpq bpq
      have bD : -77309411328 ≤ pp * qq - pq * pq ∧ pp * qq - pq * pq ≤ 77309411328 := by omega
      generalize wayX ap aq pq qq = X at *
      generalize wayX aq ap pq pp = Y at *
      have m7 := mul_abs bX bap
      have m8 := mul_abs bY baq
      have v1 : IntKind.i64.wrap (pp * qq) = pp * qq := i (by omega) (by omega)
      have v2 : IntKind.i64.wrap (pq * pq) = pq * pq := i (by omega) (by omega)
      have v3 : IntKind.i64.wrap (pp * qq - pq * pq) = pp * qq - pq * pq := i (by omega) (by omega)
      have v4 : IntKind.i64.wrap (X * ap) = X * ap := i (by omega) (by omega)
      have v5 : IntKind.i64.wrap (Y * aq) = Y * aq := i (by omega) (by omega)
      have v6 : IntKind.i64.wrap (X * ap + Y * aq) = X * ap + Y * aq := i (by omega) (by omega)
      have bT : -30500000000000000 ≤ X * ap + Y * aq ∧ X * ap + Y * aq ≤ 30500000000000000 := by omega
      have m9 := mul_abs bT (show -100 ≤ den ∧ den ≤ 100 by omega)
      have m10 := mul_abs (show -100 ≤ num ∧ num ≤ 100 by omega) bD
      have m11 := mul_abs m10 baa
      have u1 : IntKind.i64.wrap ((X * ap + Y * aq) * den) = (X * ap + Y * aq) * den := i (by omega) (by omega)
      have u2 : IntKind.i64.wrap (num * (pp * qq - pq * pq)) = num * (pp * qq - pq * pq) := i (by omega) (by omega)
      have u3 : IntKind.i64.wrap (num * (pp * qq - pq * pq) * aa) = num * (pp * qq - pq * pq) * aa := i (by omega) (by omega)
      have ev : passB x y z num den a b c d e f = decide (num * (pp * qq - pq * pq) * aa ≤ (X * ap + Y * aq) * den) := by
        rw [hv]
        exact decide_eq_decide.2 ⟨fun h => h.2.2, fun h => ⟨hX, hY, h⟩⟩
      rw [ev]
      exact passes_yes x y z num den a b c d e f pp pq qq ap aq aa _ _ X _ _ Y w Kpp Kpq Kqq Kap Kaq Kaa w1 w2 w3 w4 w5 w6 _ _ _ _ _ _ _ _ _ v1 v2 v3 v4 v5 v6 u1 u2 u3 hX hY
    · have ev : passB x y z num den a b c d e f = false := by rw [hv]; exact decide_eq_false fun h => hY h.2.1
      rw [ev]
      exact passes_no2 x y z num den a b c d e f pp pq qq ap aq aa _ _ _ _ _ _ w Kpp Kpq Kqq Kap Kaq w1 w2 w3 w4 w5 w6 hX (Int.not_lt.1 hY)
  · have ev : passB x y z num den a b c d e f = false := by rw [hv]; exact decide_eq_false fun h => hX h.1
    rw [ev]
    exact passes_no1 x y z num den a b c d e f pp pq qq ap aq aa _ _ _ _ _ _ w Kpp Kpq Kqq Kap Kaq w1 w2 w3 w4 w5 w6 (Int.not_lt.1 hX)

theorem firstNZ_zero {l : List Int} (h : firstNZ l = 0) : ∀ x ∈ l, x = 0 := by
  induction l with
  | nil => intro x hx; cases hx
  | cons a r ih =>
    intro x hx
    by_cases ha : a = 0
    · subst ha
      rcases List.mem_cons.1 hx with rfl | hx
      · rfl
      · exact ih (by simpa [firstNZ] using h) x hx
    · exfalso; simp [firstNZ, ha] at h

theorem meets_valid {x y z num den a b c d e f : Int} (h : meetsErr x y z num den a b c d e f = 0) :
    (Share num den ∧ rayErr x y z = 0 ∧ rayErr a b c = 0 ∧ rayErr d e f = 0) ∧ Turn3 x y z ∧ Turn3 a b c ∧ Turn3 d e f := by
  have h := firstNZ_zero h
  have h1 := cone_ok (h _ (.head _))
  exact ⟨⟨h1.2, h1.1, h _ (by simp), h _ (by simp)⟩, vec_ok (h _ (by simp)), vec_ok (h _ (by simp)), vec_ok (h _ (by simp))⟩

theorem opp_ray {x y z a b c : Int} (he : rayErr x y z = 0) (hf : rayErr a b c = 0) (w : World) :
    Calls Tryz.prog 47 #[.agg #[.int .i64 x, .int .i64 y, .int .i64 z], .agg #[.int .i64 a, .int .i64 b, .int .i64 c]] w fun r w' => r = .returned (.bool (oppB x y z a b c)) ∧ Below w.heap.size w w' := by
  obtain ⟨e1, h1, h2, h3⟩ := ray_ok he
  obtain ⟨e2, k1, k2, k3⟩ := ray_ok hf
  exact isOpposite_any x y z a b c ⟨fit_abs h1 (show (-1 : Int) ≤ 1 ∧ (1 : Int) ≤ 1 by decide) (by omega), fit_abs h2 (show (-1 : Int) ≤ 1 ∧ (1 : Int) ≤ 1 by decide) (by omega), fit_abs h3 (show (-1 : Int) ≤ 1 ∧ (1 : Int) ≤ 1 by decide) (by omega)⟩
    ⟨fit_abs k1 (show (-1 : Int) ≤ 1 ∧ (1 : Int) ≤ 1 by decide) (by omega), fit_abs k2 (show (-1 : Int) ≤ 1 ∧ (1 : Int) ≤ 1 by decide) (by omega), fit_abs k3 (show (-1 : Int) ≤ 1 ∧ (1 : Int) ≤ 1 by decide) (by omega)⟩ (dir_ok e1).1 (dir_ok e2).1 w

/-- Whether the way between two turns meets a cone. -/
def meetB (x y z num den a b c d e f : Int) : Bool := insB x y z num den a b c || (insB x y z num den d e f || passB x y z num den a b c d e f)

theorem turn_ray {x y z : Int} (h : Turn3 x y z) : Ray3 x y z := by
  obtain ⟨⟨h1, h2⟩, ⟨h3, h4⟩, h5, h6⟩ := h
  exact ⟨⟨by omega, by omega⟩, ⟨by omega, by omega⟩, by omega, by omega⟩

set_option maxHeartbeats 1600000 in
theorem meets_ok (x y z num den a b c d e f : Int) (hb : meetsErr x y z num den a b c d e f = 0) (ho : oppB a b c d e f = false) (w : World) :
    Calls Tryz.prog 8 #[.agg #[.int .i64 x, .int .i64 y, .int .i64 z, .int .i64 num, .int .i64 den], .agg #[.int .i64 a, .int .i64 b, .int .i64 c], .agg #[.int .i64 d, .int .i64 e, .int .i64 f]] w fun r w' => r = .returned (.tuple #[.bool (meetB x y z num den a b c d e f), .int .i64 0]) ∧ Below w.heap.size w w' := by
  obtain ⟨⟨hs, h1, h2, h3⟩, t1, t2, t3⟩ := meets_valid hb
  have KO := fun w1 => opp_ray h2 h3 w1
  rw [ho] at KO
  have K1 := fun w1 => contains_any x y z num den a b c (turn_ray t1) (turn_ray t2) hs w1
  have K2 := fun w1 => contains_any x y z num den d e f (turn_ray t1) (turn_ray t3) hs w1
  have K9 := fun w1 => passes_any x y z num den a b c d e f t1 t2 t3 hs w1
  unfold meetB
  cases i1 : insB x y z num den a b c with
  | true => rw [i1] at K1; exact meets_in1 x y z num den a b c d e f hb w KO K1
  | false =>
    rw [i1] at K1
    cases i2 : insB x y z num den d e f with
    | true => rw [i2] at K2; exact meets_in2 x y z num den a b c d e f hb w KO K1 K2
    | false => rw [i2] at K2; exact meets_pass x y z num den a b c d e f hb _ w KO K1 K2 K9
end Go.Proofs.YtggffhmdgceljaaGreatDoor

/-
  Contracts of Reflected and Normal, for rays, with their mathematics.
-/
namespace Go.Proofs.YtggffhmdgceljaaGreatDoor
open Go.RowKit
set_option linter.unusedVariables false
set_option linter.unusedSimpArgs false

theorem reflected_fits {x y z a b c : Int} (he : rayErr x y z = 0) (hf : rayErr a b c = 0) :
    (Mid (rflP x a (dot3 x y z a b c) (dot3 a b c a b c)) ∧ Mid (rflP y b (dot3 x y z a b c) (dot3 a b c a b c)) ∧ Mid (rflP z c (dot3 x y z a b c) (dot3 a b c a b c))) ∧
    ¬ (rflP x a (dot3 x y z a b c) (dot3 a b c a b c) = 0 ∧ rflP y b (dot3 x y z a b c) (dot3 a b c a b c) = 0 ∧ rflP z c (dot3 x y z a b c) (dot3 a b c a b c) = 0) := by
  obtain ⟨e1, hx, hy, hz⟩ := ray_ok he
  obtain ⟨e2, ha, hb, hc⟩ := ray_ok hf
  have hd := dot_ray hx hy hz ha hb hc
  have hn := dot_ray ha hb hc ha hb hc
  exact ⟨⟨(rfl_mid hx ha hd hn).2.2.2, (rfl_mid hy hb hd hn).2.2.2, (rfl_mid hz hc hd hn).2.2.2⟩, rfl_nz (dir_ok e1).1 (dir_ok e2).1⟩

theorem reflected_ok (x y z a b c p1 p2 p3 : Int) (he : rayErr x y z = 0) (hf : rayErr a b c = 0) (h1 : rflP x a (dot3 x y z a b c) (dot3 a b c a b c) = p1) (h2 : rflP y b (dot3 x y z a b c) (dot3 a b c a b c) = p2) (h3 : rflP z c (dot3 x y z a b c) (dot3 a b c a b c) = p3)
    (hv : vectorErrL 4096 (p1.tdiv (g3 p1 p2 p3)) (p2.tdiv (g3 p1 p2 p3)) (p3.tdiv (g3 p1 p2 p3)) = 0) (w : World) :
    Calls Tryz.prog 24 #[.agg #[.int .i64 x, .int .i64 y, .int .i64 z], .agg #[.int .i64 a, .int .i64 b, .int .i64 c]] w fun e w' => e = .returned (.tuple #[.agg #[.int .i64 (p1.tdiv (g3 p1 p2 p3)), .int .i64 (p2.tdiv (g3 p1 p2 p3)), .int .i64 (p3.tdiv (g3 p1 p2 p3))], .int .i64 0]) ∧ Below w.heap.size w w' := by
  have hF := reflected_fits he hf
  have hR := reflected_any x y z a b c (p1.tdiv (g3 p1 p2 p3)) (p2.tdiv (g3 p1 p2 p3)) (p3.tdiv (g3 p1 p2 p3)) 0 he hf
  rw [h1, h2, h3] at hF hR
  exact hR (fun w1 => rayOf_ok p1 p2 p3 hF.1.1 hF.1.2.1 hF.1.2.2 hF.2 hv w1) w
theorem len_pos {x y z : Int} (h : ¬ (x = 0 ∧ y = 0 ∧ z = 0)) {L : Nat} (hL : (L : Int) * L = dot3 x y z x y z) : 0 < (L : Int) := by
  have h1 := dot_pos h
  rcases Nat.eq_zero_or_pos L with rfl | h2
  · simp at hL
    omega
  · omega
theorem len_le {x y z : Int} (h : Ray3 x y z) {L : Nat} (hL : (L : Int) * L = dot3 x y z x y z) : (L : Int) ≤ 7095 := by
  obtain ⟨h1, h2, h3⟩ := h
  have h4 := (dot_ray h1 h2 h3 h1 h2 h3).2
  rcases Int.lt_or_le 7095 (L : Int) with h5 | h5
  · have h6 : (7096 : Int) * 7096 ≤ (L : Int) * L := Int.mul_le_mul (by omega) (by omega) (by omega) (by omega)
    omega
  · exact h5
/-- Two rays of whole lengths whose weighted sum is nothing are opposite. -/
theorem opp_of_zero {x y z a b c L M : Int} (h : ¬ (x = 0 ∧ y = 0 ∧ z = 0)) (h' : ¬ (a = 0 ∧ b = 0 ∧ c = 0)) (hL : 0 < L) (hM : 0 < M)
    (e1 : x * M + a * L = 0) (e2 : y * M + b * L = 0) (e3 : z * M + c * L = 0) : oppB x y z a b c = true := by
  obtain ⟨r1, r2, r3⟩ := Red.unique (red_of h) (red_of h').neg hM hL (by grind) (by grind) (by grind)
  exact decide_eq_true ⟨r1, r2, r3⟩

set_option maxHeartbeats 1600000 in
theorem normal_fits {x y z a b c : Int} (he : rayErr x y z = 0) (hf : rayErr a b c = 0) {L M : Nat} (hL : (L : Int) * L = dot3 x y z x y z) (hM : (M : Int) * M = dot3 a b c a b c) :
    (Fit (x * M) ∧ Fit (y * M) ∧ Fit (z * M)) ∧ (Fit (a * L) ∧ Fit (b * L) ∧ Fit (c * L)) ∧ (Fit (x * M + a * L) ∧ Fit (y * M + b * L) ∧ Fit (z * M + c * L)) ∧ (Mid (x * M + a * L) ∧ Mid (y * M + b * L) ∧ Mid (z * M + c * L)) := by
  obtain ⟨_, hx, hy, hz⟩ := ray_ok he
  obtain ⟨_, ha, hb, hc⟩ := ray_ok hf
  have l1 := len_le ⟨hx, hy, hz⟩ hL
  have l2 := len_le ⟨ha, hb, hc⟩ hM
  have m1 := mul_abs hx (show (-7095 : Int) ≤ M ∧ (M : Int) ≤ 7095 by omega)
  have m2 := mul_abs hy (show (-7095 : Int) ≤ M ∧ (M : Int) ≤ 7095 by omega)
  have m3 := mul_abs hz (show (-7095 : Int) ≤ M ∧ (M : Int) ≤ 7095 by omega)
  have m4 := mul_abs ha (show (-7095 : Int) ≤ L ∧ (L : Int) ≤ 7095 by omega)
  have m5 := mul_abs hb (show (-7095 : Int) ≤ L ∧ (L : Int) ≤ 7095 by omega)
  have m6 := mul_abs hc (show (-7095 : Int) ≤ L ∧ (L : Int) ≤ 7095 by omega)
  unfold Fit Mid
  refine ⟨⟨⟨?_, ?_⟩, ⟨?_, ?_⟩, ⟨?_, ?_⟩⟩, ⟨⟨?_, ?_⟩, ⟨?_, ?_⟩, ⟨?_, ?_⟩⟩, ⟨⟨?_, ?_⟩, ⟨?_, ?_⟩, ⟨?_, ?_⟩⟩, ⟨⟨?_, ?_⟩, ⟨?_, ?_⟩, ⟨?_, ?_⟩⟩⟩ <;> omega

theorem normal_any (x y z a b c p1 p2 p3 : Int) (he : rayErr x y z = 0) (hf : rayErr a b c = 0) (L M : Nat) (hL : (L : Int) * L = dot3 x y z x y z) (hM : (M : Int) * M = dot3 a b c a b c) (ho : oppB x y z a b c = false)
    (h1 : x * M + a * L = p1) (h2 : y * M + b * L = p2) (h3 : z * M + c * L = p3)
    (hv : vectorErrL 4096 (p1.tdiv (g3 p1 p2 p3)) (p2.tdiv (g3 p1 p2 p3)) (p3.tdiv (g3 p1 p2 p3)) = 0) (w : World) :
    Calls Tryz.prog 21 #[.agg #[.int .i64 x, .int .i64 y, .int .i64 z], .agg #[.int .i64 a, .int .i64 b, .int .i64 c]] w fun e w' => e = .returned (.tuple #[.agg #[.int .i64 (p1.tdiv (g3 p1 p2 p3)), .int .i64 (p2.tdiv (g3 p1 p2 p3)), .int .i64 (p3.tdiv (g3 p1 p2 p3))], .int .i64 0]) ∧ Below w.heap.size w w' := by
  obtain ⟨f1, f2, f3, f4⟩ := normal_fits he hf hL hM
  obtain ⟨d1, hx⟩ := ray_ok he
  obtain ⟨d2, ha⟩ := ray_ok hf
  have hz : ¬ (p1 = 0 ∧ p2 = 0 ∧ p3 = 0) := fun ⟨z1, z2, z3⟩ => by
    have := opp_of_zero (dir_ok d1).1 (dir_ok d2).1 (len_pos (dir_ok d1).1 hL) (len_pos (dir_ok d2).1 hM) (h1.trans z1) (h2.trans z2) (h3.trans z3)
    rw [this] at ho
    cases ho
  have KO := fun w1 => opp_ray he hf w1
  rw [ho] at KO
  rw [h1, h2, h3] at f4
  refine normal_ok x y z a b c he hf L M w (fun w1 => lengthOf_whole hx hL w1) (fun w1 => lengthOf_whole ha hM w1) KO (x * M) (y * M) (z * M) (a * L) (b * L) (c * L) p1 p2 p3 _ _ _ 0
    (fun w1 => times_any x y z M f1.1 f1.2.1 f1.2.2 w1) (fun w1 => times_any a b c L f2.1 f2.2.1 f2.2.2 w1) (fun w1 => ?_) (fun w1 => rayOf_ok p1 p2 p3 f4.1 f4.2.1 f4.2.2 hz hv w1)
  have h := partsPlus_any (x * M) (y * M) (z * M) (a * L) (b * L) (c * L) f3.1 f3.2.1 f3.2.2 w1
  rwa [h1, h2, h3] at h
end Go.Proofs.YtggffhmdgceljaaGreatDoor

/-
  Contracts of At and Risen, for a valid sky and a tick of it.
-/
namespace Go.Proofs.YtggffhmdgceljaaGreatDoor
open Go.RowKit
set_option linter.unusedVariables false
set_option linter.unusedSimpArgs false

set_option maxRecDepth 100000 in
set_option maxHeartbeats 6400000 in
theorem at_ok (s : ByteArray) (b q n c : Nat) (tick t0 tl p1 p2 p3 r1 r2 r3 : Int) (w : World) (hn : 0 < n) (hm : n ≤ 64)
    (KC : ∀ w1 : World, Below w.heap.size w w1 → Calls Tryz.prog 81 #[.agg #[.string s, .slice (some ⟨b, q, none⟩) n c]] w1 fun e w' => e = .returned (.int .i64 0) ∧ Below w1.heap.size w1 w')
    (KS : ∀ w1 : World, Below w.heap.size w w1 → Calls Tryz.prog 84 #[.slice (some ⟨b, q, none⟩) n c, .int .i64 tick] w1 fun e w' => e = .returned (.agg #[.int .i64 p1, .int .i64 p2, .int .i64 p3]) ∧ Below w1.heap.size w1 w')
    (HC : ∀ w1 : World, Below w.heap.size w w1 → w1.cell? ⟨b, q, none⟩ = some (.int .i64 t0) ∧ w1.cell? ⟨b, q + (n - 1) * 4, none⟩ = some (.int .i64 tl)) (h0 : t0 ≤ tick) (hl : tick ≤ tl)
    (hz : ¬ (p1 = 0 ∧ p2 = 0 ∧ p3 = 0))
    (KR : ∀ w1 : World, Calls Tryz.prog 72 #[.agg #[.int .i64 p1, .int .i64 p2, .int .i64 p3]] w1 fun e w' => e = .returned (.agg #[.int .i64 r1, .int .i64 r2, .int .i64 r3]) ∧ Below w1.heap.size w1 w') :
    Calls Tryz.prog 37 #[.agg #[.string s, .slice (some ⟨b, q, none⟩) n c], .int .i64 tick] w fun e w' => e = .returned (.tuple #[.agg #[.int .i64 r1, .int .i64 r2, .int .i64 r3], .int .i64 0]) ∧ Below w.heap.size w w' := by
  have HKC := Lib.hid KC
  have HKS := Lib.hid KS
  have HHC := Lib.hid HC
  have HKR := Lib.hid KR
  clear KC KS HC KR
  have KV : Hid (∀ w1 : World, Calls Tryz.prog 73 #[.agg #[.int .i64 r1, .int .i64 r2, .int .i64 r3]] w1 fun e w' => e = .returned (.agg #[.int .i64 r1, .int .i64 r2, .int .i64 r3]) ∧ Below w1.heap.size w1 w') := Lib.hid fun w1 => vector_any r1 r2 r3 w1
  have e1 := eq_parts p1 p2 p3 0 0 0
  have ez : decide (([p1, p2, p3] : List Int) = [0, 0, 0]) = false := by simp; omega
  rw [ez] at e1
  have x0 : ∀ w1, (Instr.indexAt 78 (.slice (some ⟨b, q, none⟩) n c) (.int .i64 0)).run Tryz.prog w1 = .ok (.pointer (some ⟨b, q, none⟩)) w1 := fun w1 => by
    have h := sun_index b q n c 0 hn w1
    rw [Nat.zero_mul, Nat.add_zero] at h
    exact h
  have xl : ∀ w1, (Instr.indexAt 78 (.slice (some ⟨b, q, none⟩) n c) (.int .i64 ((n : Int) - 1))).run Tryz.prog w1 = .ok (.pointer (some ⟨b, q + (n - 1) * 4, none⟩)) w1 := fun w1 => by
    have h := sun_index b q n c (n - 1) (by omega) w1
    rwa [show ((n - 1 : Nat) : Int) = (n : Int) - 1 by omega] at h
  have xw : IntKind.i64.wrap ((n : Int) - 1) = (n : Int) - 1 := IntWalk.i64_in _ ⟨by omega, by omega⟩
  have g0 : ¬ tick < t0 := by omega
  have g1 : ¬ tl < tick := by omega
  obtain ⟨ol, hol⟩ : ∃ ol, q + (n - 1) * 4 = ol := ⟨_, rfl⟩
  rw [hol] at HHC
  simp only [hol] at xl
  clear hol h0 hl ez
  obtain ⟨W0, hW0⟩ : ∃ W0, ((w.alloc (.cells #[.string s, .slice (some ⟨b, q, none⟩) n c] 80)).alloc (.cells #[.int .i64 0, .int .i64 0, .int .i64 0] 23)) = W0 := ⟨_, rfl⟩
  have K0 : Hid (Kp w W0 [(w.heap.size + 1, (.cells #[.int .i64 0, .int .i64 0, .int .i64 0] 23 (0, 0))), (w.heap.size, (.cells #[.string s, .slice (some ⟨b, q, none⟩) n c] 80 (0, 0)))]) := Lib.hid (by
    rw [← hW0]
    have k := (((Kp.none w).alloc (.cells #[.string s, .slice (some ⟨b, q, none⟩) n c] 80)).alloc (.cells #[.int .i64 0, .int .i64 0, .int .i64 0] 23))
    simpa using k)
  go_enter Tryz.func37, Tryz.ntmps37
  go_upto_region 1 with fail
  try rw [hW0]
  clear hW0
  have hKC := Lib.hid (HKC.out W0 (Kp.below K0.out))
  obtain ⟨c0, c1⟩ := cells2 (K0.out.2 _ (.tail _ (.head _)))
  go_upto_region 4 with (first
    | (go_at_call 81; (with_reducible refine hKC.out.mono ?_); rintro e w2 ⟨rfl, hb⟩; have K2 := Lib.hid (K0.out.call hb); clear hb K0 c0 c1 hKC HKC))
  obtain ⟨c0, c1⟩ := cells2 (K2.out.2 _ (.tail _ (.head _)))
  obtain ⟨g2, g3⟩ := HHC.out w2 (Kp.below K2.out)
  go_upto_region 6 with fail
  have hKS := Lib.hid (HKS.out w2 (Kp.below K2.out))
  clear HKS HHC g2 g3
  go_upto_region 7 with (first
    | (go_at_call 84; (with_reducible refine hKS.out.mono ?_); rintro e w3 ⟨rfl, hb⟩; have K3 := Lib.hid (K2.out.call hb); clear hb K2 c0 c1 hKS))
  refine wp_world (fun w' => Kp w w' [(w3.heap.size, (.cells #[.int .i64 p1, .int .i64 p2, .int .i64 p3] 94 (0, 0))), (w.heap.size + 1, (.cells #[.int .i64 0, .int .i64 0, .int .i64 0] 23 (0, 0))), (w.heap.size, (.cells #[.string s, .slice (some ⟨b, q, none⟩) n c] 80 (0, 0)))]) (by exact K3.out.alloc _) fun w4 k4 => ?_
  have K4 := Lib.hid k4
  clear k4
  obtain ⟨B7, hB7⟩ : ∃ B7, w3.heap.size = B7 := ⟨_, rfl⟩
  rw [hB7] at K4 ⊢
  clear hB7 K3
  obtain ⟨x0, x1, x2⟩ := cells3 (K4.out.2 _ (.head _))
  go_wp2_with (first
    | (go_at_call 72; (with_reducible refine (HKR.out _).mono ?_); rintro e w5 ⟨rfl, hb⟩; have K5 := Lib.hid (K4.out.call hb))
    | (go_at_call 73; (with_reducible refine (KV.out _).mono ?_); rintro e w6 ⟨rfl, hb⟩; have K6 := Lib.hid (K5.out.call hb); clear hb; obtain ⟨o0, o1, o2⟩ := cells3 (K6.out.2 _ (.tail _ (.head _))); have oz : ∀ j, w6.frozen? ⟨w.heap.size + 1, j, none⟩ = false := fun j => frozen_of_row w6 (w.heap.size + 1) j _ _ (K6.out.2 _ (.tail _ (.head _)))))
  have hb5 := Lib.hid (Kp.below K6.out)
  refine bodyPost_ret (v := .tuple #[.agg #[.int .i64 r1, .int .i64 r2, .int .i64 r3], .int .i64 0]) (by simp [results, Tryz.results37, go_sem, o0, o1, o2]) rfl ⟨rfl, ?_⟩
  exact ((hb5.out.setCell (show w.heap.size ≤ w.heap.size + 1 by omega) _).setCell (show w.heap.size ≤ w.heap.size + 1 by omega) _).setCell (show w.heap.size ≤ w.heap.size + 1 by omega) _

set_option maxRecDepth 100000 in
set_option maxHeartbeats 6400000 in
theorem risen_any (s : ByteArray) (b q n c : Nat) (tick r1 r2 r3 er : Int) (w : World)
    (KC : ∀ w1 : World, Below w.heap.size w w1 → Calls Tryz.prog 37 #[.agg #[.string s, .slice (some ⟨b, q, none⟩) n c], .int .i64 tick] w1 fun e w' => e = .returned (.tuple #[.agg #[.int .i64 r1, .int .i64 r2, .int .i64 r3], .int .i64 er]) ∧ Below w1.heap.size w1 w') :
    Calls Tryz.prog 38 #[.agg #[.string s, .slice (some ⟨b, q, none⟩) n c], .int .i64 tick] w fun e w' => e = .returned (.tuple #[.bool (decide (0 < r3)), .int .i64 er]) ∧ Below w.heap.size w w' := by
  have HKC := Lib.hid KC
  clear KC
  obtain ⟨bb, hbb⟩ : ∃ bb, decide (0 < r3) = bb := ⟨_, rfl⟩
  rw [hbb]
  obtain ⟨W0, hW0⟩ : ∃ W0, (w.alloc (.cells #[.string s, .slice (some ⟨b, q, none⟩) n c] 80)) = W0 := ⟨_, rfl⟩
  have K0 : Hid (Kp w W0 [(w.heap.size, (.cells #[.string s, .slice (some ⟨b, q, none⟩) n c] 80 (0, 0)))]) := Lib.hid (by
    rw [← hW0]
    have k := ((Kp.none w).alloc (.cells #[.string s, .slice (some ⟨b, q, none⟩) n c] 80))
    simpa using k)
  go_enter Tryz.func38, Tryz.ntmps38
  go_upto_region 1 with fail
  try rw [hW0]
  clear hW0
  have hKC := Lib.hid (HKC.out W0 (Kp.below K0.out))
  obtain ⟨c0, c1⟩ := cells2 (K0.out.2 _ (.head _))
  go_wp2_with (first
    | (go_at_call 37; (with_reducible refine hKC.out.mono ?_); rintro e w2 ⟨rfl, hb⟩; have K2 := Lib.hid (K0.out.call hb); clear hb K0 c0 c1 hKC HKC))
  go_ret2
  exact ⟨rfl, (Kp.below K2.out).alloc (Kp.below K2.out).size _⟩
end Go.Proofs.YtggffhmdgceljaaGreatDoor

/-
  Contract of Highest, for a valid sky.
-/
namespace Go.Proofs.YtggffhmdgceljaaGreatDoor
open Go.RowKit
set_option linter.unusedVariables false
set_option linter.unusedSimpArgs false

/-- The index of the highest of the first suns. -/
def hiTo (L : List SunV) : Nat → Nat
  | 0 => 0
  | k + 1 => if (L[hiTo L k]?.getD sunZ).z < (L[k]?.getD sunZ).z then k else hiTo L k
theorem hiTo_le (L : List SunV) : ∀ k, hiTo L k ≤ k
  | 0 => Nat.le_refl _
  | k + 1 => by
    have := hiTo_le L k
    unfold hiTo
    split <;> omega
theorem hiTo_lt (L : List SunV) {k n : Nat} (h0 : 0 < n) (h : k ≤ n) : hiTo L k < n := by
  cases k with
  | zero => exact h0
  | succ k =>
    have := hiTo_le L k
    unfold hiTo
    split <;> omega

set_option maxRecDepth 100000 in
set_option maxHeartbeats 6400000 in
theorem highest_ok (s : ByteArray) (L : List SunV) (b q n c : Nat) (w : World) (hA : SunsAt w b q L) (hb : b < w.heap.size) (hn : L.length = n) (h0 : 0 < n) (hm : n ≤ 64)
    (KC : ∀ w1 : World, Below w.heap.size w w1 → Calls Tryz.prog 81 #[.agg #[.string s, .slice (some ⟨b, q, none⟩) n c]] w1 fun e w' => e = .returned (.int .i64 0) ∧ Below w1.heap.size w1 w') :
    Calls Tryz.prog 36 #[.agg #[.string s, .slice (some ⟨b, q, none⟩) n c]] w fun e w' => e = .returned (.tuple #[.int .i64 (hiTo L n : Nat), .int .i64 0]) ∧ Below w.heap.size w w' := by
  have HKC := Lib.hid KC
  clear KC
  have HA : Hid (∀ (k : Nat) (w1 : World), k < n → Below w.heap.size w w1 → w1.rangeAt b (q + k * 4) (L[k]?.getD sunZ).val) := Lib.hid fun k w1 hk hw => hA.kept hw hb k (by omega)
  have s4 : (Tryz.prog.info? 139).map (·.size) = some 4 := by kernel_rfl
  have i3 : (n : Int) ≤ 64 := by omega
  clear hA hb hn
  obtain ⟨W0, hW0⟩ : ∃ W0, (w.alloc (.cells #[.string s, .slice (some ⟨b, q, none⟩) n c] 80)) = W0 := ⟨_, rfl⟩
  have K0 : Hid (Kp w W0 [(w.heap.size, (.cells #[.string s, .slice (some ⟨b, q, none⟩) n c] 80 (0, 0)))]) := Lib.hid (by
    rw [← hW0]
    have k := ((Kp.none w).alloc (.cells #[.string s, .slice (some ⟨b, q, none⟩) n c] 80))
    simpa using k)
  go_enter Tryz.func36, Tryz.ntmps36
  go_upto_region 1 with fail
  try rw [hW0]
  clear hW0
  have hKC := Lib.hid (HKC.out W0 (Kp.below K0.out))
  obtain ⟨c0, c1⟩ := cells2 (K0.out.2 _ (.head _))
  go_upto_region 4 with (first
    | (go_at_call 81; (with_reducible refine hKC.out.mono ?_); rintro e w2 ⟨rfl, hb⟩; have K2 := Lib.hid (K0.out.call hb); clear hb K0 c0 c1 hKC HKC))
  obtain ⟨c0, c1⟩ := cells2 (K2.out.2 _ (.head _))
  go_wp2_with fail
  clear c0 c1
  go_loopw [5, 16] (fun hi i wr => ∃ k : Nat, k ≤ n ∧ i = .int .i64 k ∧ hi = .int .i64 (hiTo L k : Nat) ∧ Hid (Kp w wr [(w.heap.size, (.cells #[.string s, .slice (some ⟨b, q, none⟩) n c] 80 (0, 0)))])) (fun _ i _ => n - (intOf i).toNat)
  case atStart => exact ⟨0, Nat.zero_le _, rfl, rfl, K2⟩
  case round =>
    obtain ⟨k, hk, rfl, rfl, hkp⟩ := hrel
    clear K2
    by_cases hlt : k < n
    · have hr := HA.out k wr hlt (Kp.below hkp.out)
      have hh := hiTo_lt L h0 hk
      obtain ⟨sv, hsv⟩ : ∃ s, L[k]?.getD sunZ = s := ⟨_, rfl⟩
      obtain ⟨hi, hhi⟩ : ∃ hi, hiTo L k = hi := ⟨_, rfl⟩
      rw [hsv] at hr
      rw [hhi] at hh ⊢
      have hv : sv.val = [.int .i64 sv.t, .int .i64 sv.x, .int .i64 sv.y, .int .i64 sv.z] := rfl
      have HR := Lib.hid hr
      clear hr
      go_upto_region 8 with (first
        | (refine wpList_load_mid rfl 139 _ rfl b (q + k * 4) rfl sv.val _ HR.out Tryz.underlying139 rfl (by rw [s4]; rfl) ?_))
      refine wp_world (fun w' => Kp w w' [(wr.heap.size, (.cells #[.int .i64 sv.t, .int .i64 sv.x, .int .i64 sv.y, .int .i64 sv.z] 139 (0, 0))), (w.heap.size, (.cells #[.string s, .slice (some ⟨b, q, none⟩) n c] 80 (0, 0)))]) (by exact hkp.out.alloc (.cells #[.int .i64 sv.t, .int .i64 sv.x, .int .i64 sv.y, .int .i64 sv.z] 139)) fun w4 k4 => ?_
      have K4 := Lib.hid k4
      clear k4
      obtain ⟨B7, hB7⟩ : ∃ B7, wr.heap.size = B7 := ⟨_, rfl⟩
      rw [hB7] at K4 ⊢
      obtain ⟨x0, x1, x2, x3⟩ := cells4 (K4.out.2 _ (.head _))
      obtain ⟨c0, c1⟩ := cells2 (K4.out.2 _ (.tail _ (.head _)))
      have hg := HA.out hi w4 hh (Kp.below K4.out)
      obtain ⟨sh, hsh⟩ : ∃ s, L[hi]?.getD sunZ = s := ⟨_, rfl⟩
      rw [hsh] at hg
      have g3 := hg 3 _ rfl
      have xh : ∀ w1, (Instr.indexAt 78 (.slice (some ⟨b, q, none⟩) n c) (.int .i64 (hi : Int))).run Tryz.prog w1 = .ok (.pointer (some ⟨b, q + hi * 4, none⟩)) w1 := fun w1 => sun_index b q n c hi hh w1
      obtain ⟨oh, hoh⟩ : ∃ oh, q + hi * 4 = oh := ⟨_, rfl⟩
      simp only [hoh] at xh
      rw [hoh] at g3
      have hnext : hiTo L (k + 1) = if sh.z < sv.z then k else hi := by rw [hiTo, hhi, hsh, hsv]
      have HN := Lib.hid hnext
      clear hg hoh hhi hsh hsv hnext HR hv hB7
      by_cases hz : sh.z < sv.z
      · rw [if_pos hz] at HN
        go_quiet (fail)
        go_wp2_with fail
        go_roundw
        case rel => exact ⟨k + 1, by omega, by go_num, by rw [HN.out], Lib.hid ((K4.out.subs fun p hp => .tail _ hp).call (below_drewN (Below.refl _ _) _))⟩
        case measure => simp [intOf]; omega
      · rw [if_neg hz] at HN
        go_quiet (fail)
        go_wp2_with fail
        go_roundw
        case rel => exact ⟨k + 1, by omega, by go_num, by rw [HN.out], Lib.hid ((K4.out.subs fun p hp => .tail _ hp).call (below_drewN (Below.refl _ _) _))⟩
        case measure => simp [intOf]; omega
    · obtain rfl : k = n := by omega
      go_wp2_with fail
      go_ret2
      exact ⟨rfl, Kp.below hkp.out⟩
end Go.Proofs.YtggffhmdgceljaaGreatDoor
