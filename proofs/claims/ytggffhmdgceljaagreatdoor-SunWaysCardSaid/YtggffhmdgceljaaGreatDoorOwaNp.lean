/-
  Mathematics of rays that are reflected twice at one ray.
-/
import Derived.Test.YtggffhmdgceljaaGreatDoorRows
import Derived.WalkKit
import Derived.WalkSpells
import Derived.WalkLawsBesides
import Derived.Lib.Hide
import Derived.BigQuiet
import Derived.Deep.QuietTactic
import Derived.Handy
import Derived.Deep.RegionHeld3
import Derived.Deep.RegionWith
import Derived.StillTailTactics
import Derived.RangeFuncNested
import Derived.RangeFuncBound
import Derived.RangeFuncCalls
import Derived.RangeFuncLeaves
import Derived.RangeFuncBox
import Derived.Shelf.Abstract
import Derived.Shelf.RegionOpen
import Derived.OwnWalkIn
import Derived.TacticsInMore
import Derived.LoopNIn
import Derived.LoopIn
import Derived.Maps.AppendAt
import Derived.Test.YtggffhmdgceljaaGreatDoorProg
import Derived.Laws.FloatArith
import Derived.Laws.BitsAllLaws
import Derived.Deep.DeepCutAuto
import Derived.Stop.BytesEq
import Derived.Deep.MidRow
import Derived.Laws.CopyRow
import Derived.WalkMore
import Derived.Deep.DrawnRows
import Derived.Deep.CutBlock
import Derived.Orders
import Derived.LoopTactic
import Derived.Laws.StructEq
import Derived.Deep.RegionLaw
import Derived.RegionTactic
import Derived.StillTail
import Derived.Test.YtggffhmdgceljaaGreatDoorOwaWn
import Derived.Test.YtggffhmdgceljaaGreatDoorOwaXe
import Derived.Test.YtggffhmdgceljaaGreatDoorOwaIi
import Derived.Test.YtggffhmdgceljaaGreatDoorOwaWi
import Derived.Test.YtggffhmdgceljaaGreatDoorOwaId
import Derived.Test.YtggffhmdgceljaaGreatDoorOwaIq
import Derived.Test.YtggffhmdgceljaaGreatDoorOwaNa
import Derived.Test.YtggffhmdgceljaaGreatDoorOwaWa
import Derived.Test.YtggffhmdgceljaaGreatDoorOwaIb
import Derived.Test.YtggffhmdgceljaaGreatDoorOwaIo
import Derived.Test.YtggffhmdgceljaaGreatDoorOwaIx
import Derived.Test.YtggffhmdgceljaaGreatDoorOwaIl
import Derived.Test.YtggffhmdgceljaaGreatDoorOwaIp
namespace Go.Proofs.YtggffhmdgceljaaGreatDoor
open Go.RowKit
set_option linter.unusedVariables false
set_option linter.unusedSimpArgs false

theorem dot_lin (g x y z a b c : Int) : dot3 (g * x) (g * y) (g * z) a b c = g * dot3 x y z a b c := by
  unfold dot3
  grind
theorem dot_linr (g x y z a b c : Int) : dot3 x y z (g * a) (g * b) (g * c) = g * dot3 x y z a b c := by
  unfold dot3
  grind
theorem dot_lin2 (g x y z : Int) : dot3 (g * x) (g * y) (g * z) (g * x) (g * y) (g * z) = g * g * dot3 x y z x y z := by
  unfold dot3
  grind
theorem dot_comm (x y z a b c : Int) : dot3 x y z a b c = dot3 a b c x y z := by
  unfold dot3
  grind

theorem pos_cancel {a b : Int} (ha : 0 < a) (h : 0 < a * b) : 0 < b := by
  rcases Int.lt_or_le 0 b with k | k
  · exact k
  · have := Int.mul_nonpos_of_nonneg_of_nonpos (Int.le_of_lt ha) k
    omega
section
variable {x y z a b c p1 p2 p3 r1 r2 r3 a1 a2 a3 : Int}

end
end Go.Proofs.YtggffhmdgceljaaGreatDoor

/-
  Mathematics of ways and cones: a sum of two directions inside of a cone is met by the way between them.
-/
namespace Go.Proofs.YtggffhmdgceljaaGreatDoor
open Go.RowKit
set_option linter.unusedVariables false
set_option linter.unusedSimpArgs false

theorem wsq_nn (x : Int) : 0 ≤ x * x := by
  rcases Int.lt_or_le x 0 with h | h
  · have e : x * x = (-x) * (-x) := by grind
    rw [e]
    exact Int.mul_nonneg (by omega) (by omega)
  · exact Int.mul_nonneg h h
theorem le_cancel {k a b : Int} (hk : 0 < k) (h : k * a ≤ k * b) : a ≤ b := by
  rcases Int.lt_or_le b a with q | q
  · have h2 := Int.mul_lt_mul_of_pos_left q hk
    omega
  · exact q
theorem nn_cancel {a b : Int} (ha : 0 < a) (h : 0 ≤ a * b) : 0 ≤ b := by
  refine le_cancel ha ?_
  rw [Int.mul_zero]
  exact h
theorem sq_mono {a b : Int} (ha : 0 ≤ a) (h : a ≤ b) : a * a ≤ b * b := Int.mul_le_mul h h ha (by omega)

section
variable {A B C u v K d s t : Int}
theorem way_dual (A B C u v s t : Int) : (s * s * A + 2 * (s * t) * B + t * t * C) * ((u * C - v * B) * u + (v * A - u * B) * v) = (A * C - B * B) * ((s * u + t * v) * (s * u + t * v)) + (t * (u * C - v * B) - s * (v * A - u * B)) * (t * (u * C - v * B) - s * (v * A - u * B)) := by grind
theorem way_first (A B C u v : Int) : A * ((u * C - v * B) * u + (v * A - u * B) * v) = (A * C - B * B) * (u * u) + (v * A - u * B) * (v * A - u * B) := by grind

/-- What all cases share: the projection has a length, and the cone has it inside. -/
theorem way_mid (hA : 0 < A) (hd : 0 < A * C - B * B) (hK : 0 ≤ K) (hD : 0 < s * u + t * v) (hQ : K * (s * s * A + 2 * (s * t) * B + t * t * C) ≤ (s * u + t * v) * (s * u + t * v) * d) :
    0 < (u * C - v * B) * u + (v * A - u * B) * v ∧ K * ((t * (u * C - v * B) - s * (v * A - u * B)) * (t * (u * C - v * B) - s * (v * A - u * B))) ≤ (s * u + t * v) * (s * u + t * v) * (((u * C - v * B) * u + (v * A - u * B) * v) * d - K * (A * C - B * B)) := by
  have i1 := way_dual A B C u v s t
  have i3 : A * (s * s * A + 2 * (s * t) * B + t * t * C) = (s * A + t * B) * (s * A + t * B) + (A * C - B * B) * (t * t) := by grind
  generalize hE : (u * C - v * B) * u + (v * A - u * B) * v = E at *
  generalize hQQ : s * s * A + 2 * (s * t) * B + t * t * C = Q at *
  generalize hc : t * (u * C - v * B) - s * (v * A - u * B) = c at *
  generalize A * C - B * B = dd at *
  generalize hDD : s * u + t * v = D at *
  have hDD2 := Int.mul_pos hD hD
  have hQ0 : 0 ≤ Q := by
    refine nn_cancel hA ?_
    rw [i3]
    have h1 := wsq_nn (s * A + t * B)
    have h2 := Int.mul_nonneg (Int.le_of_lt hd) (wsq_nn t)
    omega
  have hE0 : 0 < E := by
    rcases Int.lt_or_le 0 E with h | h
    · exact h
    · have h1 := Int.mul_nonpos_of_nonneg_of_nonpos hQ0 h
      have h2 := Int.mul_pos hd hDD2
      have h3 := wsq_nn c
      omega
  refine ⟨hE0, ?_⟩
  have h1 := Int.mul_le_mul_of_nonneg_right hQ (Int.le_of_lt hE0)
  have e1 : K * Q * E = K * (dd * (D * D)) + K * (c * c) := by rw [Int.mul_assoc, i1, Int.mul_add]
  have e2 : D * D * (E * d - K * dd) = D * D * d * E - K * (dd * (D * D)) := by grind
  omega

theorem way_a (hA : 0 < A) (hd : 0 < A * C - B * B) (hK : 0 ≤ K) (hD0 : 0 < d) (ht : 0 ≤ t) (hD : 0 < s * u + t * v) (hQ : K * (s * s * A + 2 * (s * t) * B + t * t * C) ≤ (s * u + t * v) * (s * u + t * v) * d)
    (hs : 0 ≤ s) (hc : 0 ≤ t * (u * C - v * B) - s * (v * A - u * B)) (hY : v * A - u * B ≤ 0) : 0 < u ∧ K * A ≤ u * u * d := by
  obtain ⟨hE, hM⟩ := way_mid hA hd hK hD hQ
  have i2 := way_first A B C u v
  have i4 : (t * (u * C - v * B) - s * (v * A - u * B)) * u - (-(v * A - u * B)) * (s * u + t * v) = t * ((u * C - v * B) * u + (v * A - u * B) * v) := by grind
  generalize (u * C - v * B) * u + (v * A - u * B) * v = E at *
  generalize t * (u * C - v * B) - s * (v * A - u * B) = c at *
  generalize v * A - u * B = Y at *
  generalize A * C - B * B = dd at *
  clear hQ
  have hu : 0 < u := by
    rcases Int.lt_or_le 0 u with h | h
    · exact h
    · exfalso
      have h1 := Int.mul_nonpos_of_nonneg_of_nonpos hc h
      have h2 := Int.mul_nonneg (show 0 ≤ -Y by omega) (Int.le_of_lt hD)
      have h3 := Int.mul_nonneg ht (Int.le_of_lt hE)
      have h4 : t * E = 0 := by omega
      rcases Int.mul_eq_zero.1 h4 with h5 | h5
      · subst h5
        have h6 := Int.mul_nonpos_of_nonneg_of_nonpos hs h
        simp at hD
        omega
      · omega
  refine ⟨hu, ?_⟩
  generalize s * u + t * v = D at *
  have hDD := Int.mul_pos hD hD
  have h5 : (-Y) * D ≤ c * u := by
    have h3 := Int.mul_nonneg ht (Int.le_of_lt hE)
    omega
  have h6 := sq_mono (Int.mul_nonneg (show 0 ≤ -Y by omega) (Int.le_of_lt hD)) h5
  have h7 := Int.mul_le_mul_of_nonneg_left h6 hK
  have h8 := Int.mul_le_mul_of_nonneg_left hM (Int.le_of_lt (Int.mul_pos hu hu))
  have h9 : K * (Y * Y) ≤ u * u * (E * d - K * dd) := by
    refine le_cancel hDD ?_
    have e1 : D * D * (K * (Y * Y)) = K * (-Y * D * (-Y * D)) := by grind
    have e2 : K * (c * u * (c * u)) = u * u * (K * (c * c)) := by grind
    have e3 : D * D * (u * u * (E * d - K * dd)) = u * u * (D * D * (E * d - K * dd)) := by grind
    omega
  refine le_cancel hE ?_
  have e4 : E * (K * A) = K * (A * E) := by grind
  have e5 : E * (u * u * d) = u * u * (E * d - K * dd) + K * (dd * (u * u)) := by grind
  rw [e4, e5, i2, Int.mul_add]
  omega

/-- A sum of two directions that lies in a cone: one of them does, or the projection between them. -/
theorem way_key (hA : 0 < A) (hC : 0 < C) (hd : 0 < A * C - B * B) (hK : 0 ≤ K) (hD0 : 0 < d) (hs : 0 ≤ s) (ht : 0 ≤ t) (hD : 0 < s * u + t * v) (hQ : K * (s * s * A + 2 * (s * t) * B + t * t * C) ≤ (s * u + t * v) * (s * u + t * v) * d) :
    (0 < u ∧ K * A ≤ u * u * d) ∨ (0 < v ∧ K * C ≤ v * v * d) ∨ (0 < u * C - v * B ∧ 0 < v * A - u * B ∧ K * (A * C - B * B) ≤ ((u * C - v * B) * u + (v * A - u * B) * v) * d) := by
  have ha := way_a hA hd hK hD0 ht hD hQ hs
  have hb := way_a (A := C) (B := B) (C := A) (u := v) (v := u) (K := K) (d := d) (s := t) (t := s) hC (by rw [Int.mul_comm C A]; exact hd) hK hD0 hs (by rw [Int.add_comm]; exact hD)
    (by rw [Int.add_comm (t * v)]; have e : t * t * C + 2 * (t * s) * B + s * s * A = s * s * A + 2 * (s * t) * B + t * t * C := by grind
        rw [e]; exact hQ) ht
  obtain ⟨hE, hM⟩ := way_mid hA hd hK hD hQ
  by_cases hX : 0 < u * C - v * B
  · by_cases hY : 0 < v * A - u * B
    · refine Or.inr (Or.inr ⟨hX, hY, ?_⟩)
      have h1 := Int.mul_nonneg hK (wsq_nn (t * (u * C - v * B) - s * (v * A - u * B)))
      have h2 := nn_cancel (Int.mul_pos hD hD) (Int.le_trans h1 hM)
      omega
    · refine Or.inl (ha ?_ (by omega))
      have h1 := Int.mul_nonneg ht (Int.le_of_lt hX)
      have h2 := Int.mul_nonpos_of_nonneg_of_nonpos hs (show v * A - u * B ≤ 0 by omega)
      omega
  · have hX0 : u * C - v * B ≤ 0 := by omega
    by_cases hc : 0 ≤ t * (u * C - v * B) - s * (v * A - u * B)
    · by_cases hY : v * A - u * B ≤ 0
      · exact Or.inl (ha hc hY)
      · refine Or.inr (Or.inl (hb ?_ hX0))
        have h1 := Int.mul_nonpos_of_nonneg_of_nonpos ht hX0
        have h2 := Int.mul_nonneg hs (show 0 ≤ v * A - u * B by omega)
        omega
    · refine Or.inr (Or.inl (hb ?_ hX0))
      omega
end

theorem cross_sq (a b c d e f : Int) : dot3 a b c a b c * dot3 d e f d e f - dot3 a b c d e f * dot3 a b c d e f = (b * f - c * e) * (b * f - c * e) + ((c * d - a * f) * (c * d - a * f) + (a * e - b * d) * (a * e - b * d)) := by
  unfold dot3
  grind
theorem cross_nn (a b c d e f : Int) : 0 ≤ dot3 a b c a b c * dot3 d e f d e f - dot3 a b c d e f * dot3 a b c d e f := by
  rw [cross_sq]
  have h1 := wsq_nn (b * f - c * e)
  have h2 := wsq_nn (c * d - a * f)
  have h3 := wsq_nn (a * e - b * d)
  omega
theorem sq_zero {x : Int} (h : x * x = 0) : x = 0 := by
  rcases Int.mul_eq_zero.1 h with h | h <;> exact h
/-- Two directions whose cross product is 0 are multiples of each other. -/
theorem cross_zero {a b c d e f : Int} (h : dot3 a b c a b c * dot3 d e f d e f - dot3 a b c d e f * dot3 a b c d e f = 0) :
    dot3 a b c a b c * d = dot3 a b c d e f * a ∧ dot3 a b c a b c * e = dot3 a b c d e f * b ∧ dot3 a b c a b c * f = dot3 a b c d e f * c := by
  rw [cross_sq] at h
  have h1 := wsq_nn (b * f - c * e)
  have h2 := wsq_nn (c * d - a * f)
  have h3 := wsq_nn (a * e - b * d)
  have e1 := sq_zero (x := b * f - c * e) (by omega)
  have e2 := sq_zero (x := c * d - a * f) (by omega)
  have e3 := sq_zero (x := a * e - b * d) (by omega)
  unfold dot3
  refine ⟨?_, ?_, ?_⟩
  · have q : (a * a + b * b + c * c) * d - (a * d + b * e + c * f) * a = c * (c * d - a * f) - b * (a * e - b * d) := by grind
    rw [e2, e3, Int.mul_zero, Int.mul_zero] at q
    omega
  · have q : (a * a + b * b + c * c) * e - (a * d + b * e + c * f) * b = a * (a * e - b * d) - c * (b * f - c * e) := by grind
    rw [e1, e3, Int.mul_zero, Int.mul_zero] at q
    omega
  · have q : (a * a + b * b + c * c) * f - (a * d + b * e + c * f) * c = b * (b * f - c * e) - a * (c * d - a * f) := by grind
    rw [e1, e2, Int.mul_zero, Int.mul_zero] at q
    omega
theorem opp_of_neg {a b c d e f k l : Int} (h : ¬ (a = 0 ∧ b = 0 ∧ c = 0)) (h' : ¬ (d = 0 ∧ e = 0 ∧ f = 0)) (hk : 0 < k) (hl : 0 < l) (e1 : k * a = -(l * d)) (e2 : k * b = -(l * e)) (e3 : k * c = -(l * f)) : oppB a b c d e f = true := by
  obtain ⟨q1, q2, q3⟩ := (red_of h).unique (red_of h').neg hk hl (by rw [e1, Int.mul_neg]) (by rw [e2, Int.mul_neg]) (by rw [e3, Int.mul_neg])
  exact decide_eq_true ⟨q1, q2, q3⟩

theorem ins_iff {x y z num den a b c : Int} : insB x y z num den a b c = true ↔ 0 < dot3 x y z a b c ∧ num * dot3 x y z x y z * dot3 a b c a b c ≤ dot3 x y z a b c * dot3 x y z a b c * den := by
  unfold insB
  exact decide_eq_true_iff
/-- A direction inside is inside by its positive multiples. -/
theorem ins_scale {x y z num den a b c g : Int} (hg : 0 < g) : insB x y z num den (g * a) (g * b) (g * c) = insB x y z num den a b c := by
  unfold insB
  rw [dot_linr, dot_lin2]
  refine decide_eq_decide.2 ⟨fun ⟨h1, h2⟩ => ⟨pos_cancel hg h1, ?_⟩, fun ⟨h1, h2⟩ => ⟨Int.mul_pos hg h1, ?_⟩⟩
  · refine le_cancel (Int.mul_pos hg hg) ?_
    have e1 : g * g * (num * dot3 x y z x y z * dot3 a b c a b c) = num * dot3 x y z x y z * (g * g * dot3 a b c a b c) := by grind
    have e2 : g * g * (dot3 x y z a b c * dot3 x y z a b c * den) = g * dot3 x y z a b c * (g * dot3 x y z a b c) * den := by grind
    rw [e1, e2]
    exact h2
  · have h3 := Int.mul_le_mul_of_nonneg_left h2 (Int.le_of_lt (Int.mul_pos hg hg))
    have e1 : g * g * (num * dot3 x y z x y z * dot3 a b c a b c) = num * dot3 x y z x y z * (g * g * dot3 a b c a b c) := by grind
    have e2 : g * g * (dot3 x y z a b c * dot3 x y z a b c * den) = g * dot3 x y z a b c * (g * dot3 x y z a b c) * den := by grind
    rw [e1, e2] at h3
    exact h3
theorem dot_sum (x y z a b c d e f s t : Int) : dot3 x y z (s * a + t * d) (s * b + t * e) (s * c + t * f) = s * dot3 x y z a b c + t * dot3 x y z d e f := by
  unfold dot3
  grind
theorem dot_sum2 (a b c d e f s t : Int) : dot3 (s * a + t * d) (s * b + t * e) (s * c + t * f) (s * a + t * d) (s * b + t * e) (s * c + t * f) = s * s * dot3 a b c a b c + 2 * (s * t) * dot3 a b c d e f + t * t * dot3 d e f d e f := by
  unfold dot3
  grind

section
variable {x y z num den a b c d e f : Int}
/-- A sum of two directions that are not opposite: if it is inside of a cone, the way between them meets the cone. -/
theorem way_in (hn : 0 ≤ num) (hden : 0 < den) (ha : ¬ (a = 0 ∧ b = 0 ∧ c = 0)) (hb : ¬ (d = 0 ∧ e = 0 ∧ f = 0)) (ho : oppB a b c d e f = false) {s t : Int} (hs : 0 ≤ s) (ht : 0 ≤ t)
    (hi : insB x y z num den (s * a + t * d) (s * b + t * e) (s * c + t * f) = true) : meetB x y z num den a b c d e f = true := by
  obtain ⟨h1, h2⟩ := ins_iff.1 hi
  rw [dot_sum] at h1
  rw [dot_sum2, dot_sum] at h2
  have hA := dot_pos ha
  have hC := dot_pos hb
  have hax : 0 ≤ dot3 x y z x y z := by
    unfold dot3
    have q1 := wsq_nn x
    have q2 := wsq_nn y
    have q3 := wsq_nn z
    omega
  have hK := Int.mul_nonneg hn hax
  unfold meetB
  have hnn := cross_nn a b c d e f
  rcases Int.lt_or_le 0 (dot3 a b c a b c * dot3 d e f d e f - dot3 a b c d e f * dot3 a b c d e f) with hd | hd
  · rcases way_key hA hC hd hK hden hs ht h1 h2 with k | k | ⟨k1, k2, k3⟩
    · rw [ins_iff.2 k, Bool.true_or]
    · rw [ins_iff.2 k, Bool.true_or, Bool.or_true]
    · have k : passB x y z num den a b c d e f = true := by
        unfold passB wayX
        refine decide_eq_true ⟨k1, k2, ?_⟩
        refine Int.le_trans (Int.le_of_eq ?_) k3
        grind
      rw [k, Bool.or_true, Bool.or_true]
  · obtain ⟨e1, e2, e3⟩ := cross_zero (a := a) (b := b) (c := c) (d := d) (e := e) (f := f) (by omega)
    have k : insB x y z num den a b c = true := by
      refine ins_iff.2 ?_
      generalize hAA : dot3 a b c a b c = A at *
      generalize hBB : dot3 a b c d e f = B at *
      have hB : 0 < B := by
        rcases Int.lt_or_le 0 B with h | h
        · exact h
        · exfalso
          by_cases h0 : B = 0
          · subst h0
            rw [Int.zero_mul] at e1 e2 e3
            refine hb ⟨?_, ?_, ?_⟩
            · rcases Int.mul_eq_zero.1 e1 with q | q <;> omega
            · rcases Int.mul_eq_zero.1 e2 with q | q <;> omega
            · rcases Int.mul_eq_zero.1 e3 with q | q <;> omega
          · rw [opp_of_neg (k := -B) (l := A) ha hb (by omega) hA (by rw [e1, Int.neg_mul]) (by rw [e2, Int.neg_mul]) (by rw [e3, Int.neg_mul])] at ho
            cases ho
      have hv : A * dot3 x y z d e f = B * dot3 x y z a b c := by rw [← dot_linr, ← dot_linr, e1, e2, e3]
      have hB2 : A * B = B * A := Int.mul_comm _ _
      have hC2 : A * dot3 d e f d e f = B * B := by
        have h5 : A * dot3 d e f d e f = dot3 d e f (A * d) (A * e) (A * f) := (dot_linr ..).symm
        rw [h5, e1, e2, e3, dot_linr, dot_comm, hBB]
      generalize dot3 x y z a b c = u at *
      generalize dot3 x y z d e f = v at *
      generalize dot3 d e f d e f = C at *
      have hm : 0 ≤ s * A + t * B := by
        have q1 := Int.mul_nonneg hs (Int.le_of_lt hA)
        have q2 := Int.mul_nonneg ht (Int.le_of_lt hB)
        omega
      have i1 : A * (s * u + t * v) = (s * A + t * B) * u := by
        have : A * (s * u + t * v) = s * A * u + t * (A * v) := by grind
        rw [this, hv]
        grind
      have hu' : 0 < (s * A + t * B) * u := by rw [← i1]; exact Int.mul_pos hA h1
      have hmp : 0 < s * A + t * B := by
        rcases Int.lt_or_le 0 (s * A + t * B) with q | q
        · exact q
        · have : s * A + t * B = 0 := by omega
          rw [this, Int.zero_mul] at hu'
          omega
      have hu := pos_cancel hmp hu'
      have i2 : A * (s * s * A + 2 * (s * t) * B + t * t * C) = (s * A + t * B) * (s * A + t * B) := by
        have : A * (s * s * A + 2 * (s * t) * B + t * t * C) = A * (s * s * A + 2 * (s * t) * B) + t * t * (A * C) := by grind
        rw [this, hC2]
        grind
      refine ⟨hu, le_cancel (Int.mul_pos hmp hmp) ?_⟩
      generalize dot3 x y z x y z = N at *
      have h3 := Int.mul_le_mul_of_nonneg_left h2 (Int.le_of_lt (Int.mul_pos hA hA))
      have e4 : A * A * (num * N * (s * s * A + 2 * (s * t) * B + t * t * C)) = A * (num * N) * (A * (s * s * A + 2 * (s * t) * B + t * t * C)) := by grind
      have e5 : A * A * ((s * u + t * v) * (s * u + t * v) * den) = A * (s * u + t * v) * (A * (s * u + t * v)) * den := by grind
      rw [e4, e5, i1, i2] at h3
      have e6 : (s * A + t * B) * (s * A + t * B) * (num * N * A) = A * (num * N) * ((s * A + t * B) * (s * A + t * B)) := by grind
      have e7 : (s * A + t * B) * (s * A + t * B) * (u * u * den) = (s * A + t * B) * u * ((s * A + t * B) * u) * den := by grind
      rw [e6, e7]
      exact h3
    rw [k, Bool.true_or]
end
end Go.Proofs.YtggffhmdgceljaaGreatDoor

/-
  What SunTwice's walks ask for.
-/
namespace Go.Proofs.YtggffhmdgceljaaGreatDoor
open Go.RowKit
set_option linter.unusedVariables false
set_option linter.unusedSimpArgs false

theorem rng_in {n L : Int} (h : -L ≤ n ∧ n ≤ L) : rangeErr n (-L) L = 0 := by
  unfold rangeErr
  rw [if_neg (by omega)]
theorem vec_in {L x y z : Int} (hx : -L ≤ x ∧ x ≤ L) (hy : -L ≤ y ∧ y ≤ L) (hz : -L ≤ z ∧ z ≤ L) : vectorErrL L x y z = 0 := by
  unfold vectorErrL
  rw [rng_in hx, rng_in hy, rng_in hz]
  rfl
theorem dir_in {x y z : Int} (h0 : ¬ (x = 0 ∧ y = 0 ∧ z = 0)) (hx : -4096 ≤ x ∧ x ≤ 4096) (hy : -4096 ≤ y ∧ y ≤ 4096) (hz : -4096 ≤ z ∧ z ≤ 4096) : directionErr x y z = 0 := by
  unfold directionErr
  rw [if_neg h0, vectorErr_L, vec_in (by omega) (by omega) (by omega)]
  rfl
theorem ray_in {x y z : Int} (h0 : ¬ (x = 0 ∧ y = 0 ∧ z = 0)) (hx : -4096 ≤ x ∧ x ≤ 4096) (hy : -4096 ≤ y ∧ y ≤ 4096) (hz : -4096 ≤ z ∧ z ≤ 4096) : rayErr x y z = 0 := by
  unfold rayErr
  rw [dir_in h0 hx hy hz, vec_in hx hy hz]
  rfl
/-- The reduced vector of a ray is a ray with parts that are no longer. -/
theorem red_small {x y z r1 r2 r3 M : Int} (h : Red x y z r1 r2 r3) (hx : -M ≤ x ∧ x ≤ M) (hy : -M ≤ y ∧ y ≤ M) (hz : -M ≤ z ∧ z ≤ M) : (-M ≤ r1 ∧ r1 ≤ M) ∧ (-M ≤ r2 ∧ r2 ≤ M) ∧ (-M ≤ r3 ∧ r3 ≤ M) := by
  obtain ⟨h1, h2, h3⟩ := h.small
  omega
theorem divR_le {a b : Int} {M : Int} (hM : 1 ≤ M) (ha : -M ≤ a ∧ a ≤ M) (hb : -M ≤ b ∧ b ≤ M) : -M ≤ divR a b ∧ divR a b ≤ M := by
  unfold divR
  by_cases h0 : Int.gcd a b = 0
  · rw [if_pos h0]
    omega
  · rw [if_neg h0]
    by_cases h : a = 0
    · by_cases h2 : b = 0
      · subst h h2
        exact absurd rfl h0
      · have := Nat.le_of_dvd (by omega) (Int.gcd_dvd_natAbs_right a b)
        omega
    · have := Nat.le_of_dvd (by omega) (Int.gcd_dvd_natAbs_left a b)
      omega
theorem fit_small {x a : Int} (hx : -4096 ≤ x ∧ x ≤ 4096) (ha : -4096 ≤ a ∧ a ≤ 4096) : Fit (x * a) := by
  have h : (x * a).natAbs ≤ 4096 * 4096 := by
    rw [Int.natAbs_mul]
    exact Nat.mul_le_mul (by omega) (by omega)
  unfold Fit
  omega
end Go.Proofs.YtggffhmdgceljaaGreatDoor

/-
  Contracts that SunWays asks: the reference's sums, what is not 0, and frames of small rays with what holds of them.
-/
namespace Go.Proofs.YtggffhmdgceljaaGreatDoor
open Go.RowKit
set_option linter.unusedVariables false
set_option linter.unusedSimpArgs false

set_option maxRecDepth 100000 in
set_option maxHeartbeats 6400000 in
theorem refPlus_any (x y z a b c : Int) (h1 : IntKind.i64.wrap (x + a) = x + a) (h2 : IntKind.i64.wrap (y + b) = y + b) (h3 : IntKind.i64.wrap (z + c) = z + c) (w : World) :
    Calls Tryz.prog 30 #[.agg #[.int .i64 x, .int .i64 y, .int .i64 z], .agg #[.int .i64 a, .int .i64 b, .int .i64 c]] w fun e w' => e = .returned (.agg #[.int .i64 (x + a), .int .i64 (y + b), .int .i64 (z + c)]) ∧ Below w.heap.size w w' := by
  obtain ⟨m1, e1⟩ : ∃ m1, x + a = m1 := ⟨_, rfl⟩
  obtain ⟨m2, e2⟩ : ∃ m2, y + b = m2 := ⟨_, rfl⟩
  obtain ⟨m3, e3⟩ : ∃ m3, z + c = m3 := ⟨_, rfl⟩
  rw [e1] at h1 ⊢
  rw [e2] at h2 ⊢
  rw [e3] at h3 ⊢
  go_enter Tryz.func30, Tryz.ntmps30
  go_wp2_with fail
  refine bodyPost_ret (v := .agg #[.int .i64 m1, .int .i64 m2, .int .i64 m3]) (by simp [results, Tryz.results30, go_sem]) rfl ⟨rfl, ?_⟩
  first
    | exact (((Below.refl _ w).alloc (Nat.le_refl _) _).alloc (by simp) _).alloc (by simp; omega) _
    | exact ((((((Below.refl _ w).alloc (Nat.le_refl _) _).alloc (by simp) _).alloc (by simp; omega) _).setCell (by simp; omega) _).setCell (by simp; omega) _).setCell (by simp; omega) _

set_option maxRecDepth 100000 in
set_option maxHeartbeats 6400000 in
theorem refIsZero_no (x y z : Int) (h0 : ¬ (x = 0 ∧ y = 0 ∧ z = 0)) (w : World) :
    Calls Tryz.prog 31 #[.agg #[.int .i64 x, .int .i64 y, .int .i64 z]] w fun e w' => e = .returned (.bool false) ∧ Below w.heap.size w w' := by
  obtain ⟨v1, e1⟩ : ∃ v : Bool, (x == 0) = v := ⟨_, rfl⟩
  obtain ⟨v2, e2⟩ : ∃ v : Bool, (y == 0) = v := ⟨_, rfl⟩
  obtain ⟨v3, e3⟩ : ∃ v : Bool, (z == 0) = v := ⟨_, rfl⟩
  have hv : (v1 && (v2 && v3)) = false := by
    rw [Bool.eq_false_iff]
    intro h
    rw [Bool.and_eq_true, Bool.and_eq_true] at h
    obtain ⟨rfl, rfl, rfl⟩ := h
    exact h0 ⟨beq_iff_eq.1 e1, beq_iff_eq.1 e2, beq_iff_eq.1 e3⟩
  clear h0
  go_enter Tryz.func31, Tryz.ntmps31
  cases v1 <;> cases v2 <;> cases v3 <;> first
    | exact absurd hv (by decide)
    | (go_wp2_with fail; go_ret; exact ⟨rfl, (Below.refl _ _).alloc (Nat.le_refl _) _⟩)

/-- What holds of the frame of a ray. -/
structure FrameOf (x y z r1 r2 r3 s1 s2 s3 : Int) : Prop where
  dr : directionErr r1 r2 r3 = 0
  ds : directionErr s1 s2 s3 = 0
  br : (-4096 ≤ r1 ∧ r1 ≤ 4096) ∧ (-4096 ≤ r2 ∧ r2 ≤ 4096) ∧ (-4096 ≤ r3 ∧ r3 ≤ 4096)
  bs : (-4096 ≤ s1 ∧ s1 ≤ 4096) ∧ (-4096 ≤ s2 ∧ s2 ≤ 4096) ∧ (-4096 ≤ s3 ∧ s3 ≤ 4096)
  rs : dot3 r1 r2 r3 s1 s2 s3 = 0
  rp : dot3 r1 r2 r3 x y z = 0
  sp : dot3 s1 s2 s3 x y z = 0
theorem zero_of {g n : Int} (hg : 0 < g) (h : g * n = 0) : n = 0 := by
  rcases Int.mul_eq_zero.1 h with h | h
  · omega
  · exact h
/-- A direction at right angles to a ray, and their cross product, are its frame. -/
theorem frameOf {x y z r1 r2 r3 s1 s2 s3 : Int} (h0 : ¬ (x = 0 ∧ y = 0 ∧ z = 0)) (hx : -40 ≤ x ∧ x ≤ 40) (hy : -40 ≤ y ∧ y ≤ 40) (hz : -40 ≤ z ∧ z ≤ 40) (hr0 : ¬ (r1 = 0 ∧ r2 = 0 ∧ r3 = 0)) (b1 : -40 ≤ r1 ∧ r1 ≤ 40) (b2 : -40 ≤ r2 ∧ r2 ≤ 40) (b3 : -40 ≤ r3 ∧ r3 ≤ 40) (rp : dot3 r1 r2 r3 x y z = 0) :
    ¬ (y * r3 - z * r2 = 0 ∧ z * r1 - x * r3 = 0 ∧ x * r2 - y * r1 = 0) ∧ (Red (y * r3 - z * r2) (z * r1 - x * r3) (x * r2 - y * r1) s1 s2 s3 → FrameOf x y z r1 r2 r3 s1 s2 s3) := by
  have hne : ¬ (y * r3 - z * r2 = 0 ∧ z * r1 - x * r3 = 0 ∧ x * r2 - y * r1 = 0) := fun ⟨e1, e2, e3⟩ => by
    have h1 := cross_sq x y z r1 r2 r3
    rw [dot_comm x y z r1 r2 r3, rp, e1, e2, e3] at h1
    have h2 := Int.mul_pos (dot_pos h0) (dot_pos hr0)
    omega
  refine ⟨hne, fun hs => ?_⟩
  have m1 := mul_abs hy b3
  have m2 := mul_abs hz b2
  have m3 := mul_abs hz b1
  have m4 := mul_abs hx b3
  have m5 := mul_abs hx b2
  have m6 := mul_abs hy b1
  obtain ⟨c1, c2, c3⟩ := red_small (M := 3200) hs (by omega) (by omega) (by omega)
  obtain ⟨g, hg, e1, e2, e3⟩ := hs.ex
  refine ⟨dir_in hr0 (by omega) (by omega) (by omega), dir_in hs.nonzero (by omega) (by omega) (by omega), ⟨by omega, by omega, by omega⟩, ⟨by omega, by omega, by omega⟩, zero_of hg ?_, rp, zero_of hg ?_⟩
  · rw [← dot_linr, ← e1, ← e2, ← e3]
    unfold dot3
    grind
  · rw [← dot_lin, ← e1, ← e2, ← e3]
    unfold dot3
    grind
set_option maxHeartbeats 1600000 in
/-- The frame of a small ray. -/
theorem frame_any {x y z : Int} (h : tinyP x y z) : ∃ r1 r2 r3 s1 s2 s3 : Int, FrameOf x y z r1 r2 r3 s1 s2 s3 ∧ ∀ w : World, AxesAt w →
    Calls Tryz.prog 27 #[.agg #[.int .i64 x, .int .i64 y, .int .i64 z]] w fun e w' => e = .returned (.tuple #[.agg #[.int .i64 r1, .int .i64 r2, .int .i64 r3, .int .i64 s1, .int .i64 s2, .int .i64 s3], .int .i64 0]) ∧ Below w.heap.size w w' := by
  obtain ⟨he, hx, hy, hz⟩ := h
  have h0 := (dir_ok (ray_ok he).1).1
  have f : ∀ {a b : Int}, (-4096 ≤ a ∧ a ≤ 4096) → (-4096 ≤ b ∧ b ≤ 4096) → Fit (a * b) := fun h k => fit_small h k
  have m : ∀ {a : Int}, (-4096 ≤ a ∧ a ≤ 4096) → Mid a := fun h => by unfold Mid; omega
  by_cases hxy : x = 0 ∧ y = 0
  · obtain ⟨rfl, rfl⟩ := hxy
    have rp : dot3 1 0 0 0 0 z = 0 := by unfold dot3; omega
    have hF := fun s1 s2 s3 => frameOf (s1 := s1) (s2 := s2) (s3 := s3) h0 hx hy hz (by decide) (by decide) (by decide) (by decide) rp
    have hne := (hF 0 0 0).1
    have KD := fun w1 => cross_any 0 0 z 1 0 0 (f (by omega) (by omega)) (f (by omega) (by omega)) (f (by omega) (by omega)) (f (by omega) (by omega)) (f (by omega) (by omega)) (f (by omega) (by omega)) w1
    have KS := fun w1 => reduced_any (0 * 0 - z * 0) (z * 1 - 0 * 0) (0 * 0 - 0 * 1) (m (by omega)) (m (by omega)) (m (by omega)) hne w1
    exact ⟨1, 0, 0, _, _, _, (hF _ _ _).2 (red_of hne), fun w hA => frame_upright z 1 0 0 _ _ _ _ _ _ he ⟨rfl, rfl, rfl⟩ w hA KD KS⟩
  · have hc : ¬ (0 * z - 1 * y = 0 ∧ 1 * x - 0 * z = 0 ∧ 0 * y - 0 * x = 0) := fun ⟨e1, e2, _⟩ => hxy ⟨by omega, by omega⟩
    have hr := red_of hc
    obtain ⟨b1, b2, b3⟩ := red_small (M := 40) hr (by omega) (by omega) (by omega)
    obtain ⟨g, hg, e1, e2, e3⟩ := hr.ex
    have KC := fun w1 => cross_any 0 0 1 x y z (f (by omega) (by omega)) (f (by omega) (by omega)) (f (by omega) (by omega)) (f (by omega) (by omega)) (f (by omega) (by omega)) (f (by omega) (by omega)) w1
    have KR := fun w1 => reduced_any (0 * z - 1 * y) (1 * x - 0 * z) (0 * y - 0 * x) (m (by omega)) (m (by omega)) (m (by omega)) hc w1
    generalize (0 * z - 1 * y).tdiv (g3 (0 * z - 1 * y) (1 * x - 0 * z) (0 * y - 0 * x)) = r1 at *
    generalize (1 * x - 0 * z).tdiv (g3 (0 * z - 1 * y) (1 * x - 0 * z) (0 * y - 0 * x)) = r2 at *
    generalize (0 * y - 0 * x).tdiv (g3 (0 * z - 1 * y) (1 * x - 0 * z) (0 * y - 0 * x)) = r3 at *
    have rp : dot3 r1 r2 r3 x y z = 0 := zero_of hg (by
      rw [← dot_lin, ← e1, ← e2, ← e3]
      unfold dot3
      grind)
    have hF := fun s1 s2 s3 => frameOf (s1 := s1) (s2 := s2) (s3 := s3) h0 hx hy hz hr.nonzero b1 b2 b3 rp
    have hne := (hF 0 0 0).1
    have m1 := mul_abs hy b3
    have m2 := mul_abs hz b2
    have m3 := mul_abs hz b1
    have m4 := mul_abs hx b3
    have m5 := mul_abs hx b2
    have m6 := mul_abs hy b1
    have KD := fun w1 => cross_any x y z r1 r2 r3 (f (by omega) (by omega)) (f (by omega) (by omega)) (f (by omega) (by omega)) (f (by omega) (by omega)) (f (by omega) (by omega)) (f (by omega) (by omega)) w1
    have KS := fun w1 => reduced_any (y * r3 - z * r2) (z * r1 - x * r3) (x * r2 - y * r1) (m (by omega)) (m (by omega)) (m (by omega)) hne w1
    refine ⟨r1, r2, r3, _, _, _, (hF _ _ _).2 (red_of hne), fun w hA => ?_⟩
    by_cases hx0 : x = 0
    · subst hx0
      exact frame_slanty y z r1 r2 r3 _ _ _ _ _ _ he (fun h => hxy ⟨rfl, h⟩) w hA _ _ _ KC KR KD KS
    · exact frame_slant x y z r1 r2 r3 _ _ _ _ _ _ he hx0 w hA _ _ _ KC KR KD KS
end Go.Proofs.YtggffhmdgceljaaGreatDoor

/-
  Mathematics of ways and cones: the way back, lesser shares, and parts of a way.
-/
namespace Go.Proofs.YtggffhmdgceljaaGreatDoor
open Go.RowKit
set_option linter.unusedVariables false
set_option linter.unusedSimpArgs false

theorem pass_iff {x y z num den a b c d e f : Int} : passB x y z num den a b c d e f = true ↔
    0 < dot3 x y z a b c * dot3 d e f d e f - dot3 x y z d e f * dot3 a b c d e f ∧ 0 < dot3 x y z d e f * dot3 a b c a b c - dot3 x y z a b c * dot3 a b c d e f ∧
    num * (dot3 a b c a b c * dot3 d e f d e f - dot3 a b c d e f * dot3 a b c d e f) * dot3 x y z x y z ≤
      ((dot3 x y z a b c * dot3 d e f d e f - dot3 x y z d e f * dot3 a b c d e f) * dot3 x y z a b c + (dot3 x y z d e f * dot3 a b c a b c - dot3 x y z a b c * dot3 a b c d e f) * dot3 x y z d e f) * den := by
  unfold passB wayX
  exact decide_eq_true_iff
theorem pass_symm (x y z num den a b c d e f : Int) : passB x y z num den a b c d e f = passB x y z num den d e f a b c := by
  have h : ∀ a b c d e f : Int, passB x y z num den a b c d e f = true → passB x y z num den d e f a b c = true := fun a b c d e f h => by
    obtain ⟨h1, h2, h3⟩ := pass_iff.1 h
    refine pass_iff.2 ?_
    rw [dot_comm d e f a b c]
    refine ⟨h2, h1, ?_⟩
    rw [Int.mul_comm (dot3 d e f d e f), Int.add_comm]
    exact h3
  rw [Bool.eq_iff_iff]
  exact ⟨h a b c d e f, h d e f a b c⟩
/-- The way back meets what the way does. -/
theorem meet_symm (x y z num den a b c d e f : Int) : meetB x y z num den d e f a b c = meetB x y z num den a b c d e f := by
  unfold meetB
  rw [pass_symm x y z num den d e f a b c]
  cases insB x y z num den a b c <;> cases insB x y z num den d e f <;> rfl
theorem opp_turn {x y z a b c : Int} : oppB a b c x y z = oppB x y z a b c := by
  unfold oppB
  refine decide_eq_decide.2 ⟨fun ⟨h1, h2, h3⟩ => ⟨by omega, by omega, by omega⟩, fun ⟨h1, h2, h3⟩ => ⟨by omega, by omega, by omega⟩⟩
/-- A cone with a lesser share has inside what the cone has. -/
theorem ins_less {x y z num less den a b c : Int} (hl : less ≤ num) (h : insB x y z num den a b c = true) : insB x y z less den a b c = true := by
  obtain ⟨h1, h2⟩ := ins_iff.1 h
  refine ins_iff.2 ⟨h1, Int.le_trans ?_ h2⟩
  have q : ∀ x y z : Int, 0 ≤ dot3 x y z x y z := fun x y z => by
    unfold dot3
    have q1 := wsq_nn x
    have q2 := wsq_nn y
    have q3 := wsq_nn z
    omega
  exact Int.mul_le_mul_of_nonneg_right (Int.mul_le_mul_of_nonneg_right hl (q x y z)) (q a b c)
theorem meet_less {x y z num less den a b c d e f : Int} (hl : less ≤ num) (h : meetB x y z num den a b c d e f = true) : meetB x y z less den a b c d e f = true := by
  unfold meetB at h ⊢
  rw [Bool.or_eq_true, Bool.or_eq_true] at h ⊢
  rcases h with h | h | h
  · exact Or.inl (ins_less hl h)
  · exact Or.inr (Or.inl (ins_less hl h))
  · refine Or.inr (Or.inr ?_)
    obtain ⟨h1, h2, h3⟩ := pass_iff.1 h
    refine pass_iff.2 ⟨h1, h2, Int.le_trans ?_ h3⟩
    have q : 0 ≤ dot3 x y z x y z := by
      unfold dot3
      have q1 := wsq_nn x
      have q2 := wsq_nn y
      have q3 := wsq_nn z
      omega
    exact Int.mul_le_mul_of_nonneg_right (Int.mul_le_mul_of_nonneg_right hl (cross_nn a b c d e f)) q

theorem way_self (A B C u v : Int) : (u * C - v * B) * (u * C - v * B) * A + 2 * ((u * C - v * B) * (v * A - u * B)) * B + (v * A - u * B) * (v * A - u * B) * C = (A * C - B * B) * ((u * C - v * B) * u + (v * A - u * B) * v) := by grind

section
variable {x y z num den a b c d e f m1 m2 m3 g s t : Int}
/-- A direction between two ones is opposite to none of them. -/
theorem opp_part (ha : ¬ (a = 0 ∧ b = 0 ∧ c = 0)) (hb : ¬ (d = 0 ∧ e = 0 ∧ f = 0)) (hm : ¬ (m1 = 0 ∧ m2 = 0 ∧ m3 = 0)) (ho : oppB a b c d e f = false) (hg : 0 < g) (hs : 0 ≤ s) (ht : 0 ≤ t)
    (e1 : g * m1 = s * a + t * d) (e2 : g * m2 = s * b + t * e) (e3 : g * m3 = s * c + t * f) : oppB a b c m1 m2 m3 = false := by
  rw [Bool.eq_false_iff]
  intro h
  have h := of_decide_eq_true h
  obtain ⟨k, hk, f1, f2, f3⟩ := (red_of ha).ex
  obtain ⟨l, hl, g1, g2, g3'⟩ := (red_of hm).ex
  obtain ⟨q1, q2, q3⟩ := h
  rw [q1] at f1
  rw [q2] at f2
  rw [q3] at f3
  generalize m1.tdiv (g3 m1 m2 m3) = r1 at *
  generalize m2.tdiv (g3 m1 m2 m3) = r2 at *
  generalize m3.tdiv (g3 m1 m2 m3) = r3 at *
  have hw : 0 < g * l + s * k := by
    have h1 := Int.mul_pos hg hl
    have h2 := Int.mul_nonneg hs (Int.le_of_lt hk)
    omega
  have step : ∀ m r A D : Int, g * m = s * A + t * D → m = l * r → A = k * -r → k * (t * D) = (g * l + s * k) * -A := fun m r A D h1 h2 h3 => by
    rw [h2, h3] at h1
    have h4 : t * D = g * (l * r) - s * (k * -r) := by omega
    rw [h4, h3]
    grind
  have i1 := step _ _ _ _ e1 g1 f1
  have i2 := step _ _ _ _ e2 g2 f2
  have i3 := step _ _ _ _ e3 g3' f3
  by_cases h0 : t = 0
  · subst h0
    rw [Int.zero_mul, Int.mul_zero] at i1 i2 i3
    refine ha ⟨?_, ?_, ?_⟩
    · rcases Int.mul_eq_zero.1 i1.symm with q | q <;> omega
    · rcases Int.mul_eq_zero.1 i2.symm with q | q <;> omega
    · rcases Int.mul_eq_zero.1 i3.symm with q | q <;> omega
  · have ht' : 0 < t := by omega
    have o := opp_of_neg (k := g * l + s * k) (l := k * t) ha hb hw (Int.mul_pos hk ht') (by rw [Int.mul_assoc, i1]; grind) (by rw [Int.mul_assoc, i2]; grind) (by rw [Int.mul_assoc, i3]; grind)
    rw [o] at ho
    cases ho

/-- A part of a way meets nothing that the way does not meet. -/
theorem way_part (hn : 0 ≤ num) (hden : 0 < den) (ha : ¬ (a = 0 ∧ b = 0 ∧ c = 0)) (hb : ¬ (d = 0 ∧ e = 0 ∧ f = 0)) (ho : oppB a b c d e f = false) (hg : 0 < g) (hs : 0 ≤ s) (ht : 0 ≤ t)
    (e1 : g * m1 = s * a + t * d) (e2 : g * m2 = s * b + t * e) (e3 : g * m3 = s * c + t * f) (h : meetB x y z num den a b c m1 m2 m3 = true) : meetB x y z num den a b c d e f = true := by
  have h0 := h
  unfold meetB at h
  rw [Bool.or_eq_true, Bool.or_eq_true] at h
  rcases h with h | h | h
  · unfold meetB
    rw [h, Bool.true_or]
  · refine way_in hn hden ha hb ho hs ht ?_
    rw [← e1, ← e2, ← e3, ins_scale hg]
    exact h
  · obtain ⟨h1, h2, h3⟩ := pass_iff.1 h
    have hA := dot_pos ha
    have hnn := cross_nn a b c m1 m2 m3
    have i1 := way_first (dot3 a b c a b c) (dot3 a b c m1 m2 m3) (dot3 m1 m2 m3 m1 m2 m3) (dot3 x y z a b c) (dot3 x y z m1 m2 m3)
    have hE : 0 < (dot3 x y z a b c * dot3 m1 m2 m3 m1 m2 m3 - dot3 x y z m1 m2 m3 * dot3 a b c m1 m2 m3) * dot3 x y z a b c + (dot3 x y z m1 m2 m3 * dot3 a b c a b c - dot3 x y z a b c * dot3 a b c m1 m2 m3) * dot3 x y z m1 m2 m3 := by
      refine pos_cancel hA ?_
      rw [i1]
      have q1 := Int.mul_nonneg hnn (wsq_nn (dot3 x y z a b c))
      have q2 := Int.mul_pos h2 h2
      omega
    have i2 := way_self (dot3 a b c a b c) (dot3 a b c m1 m2 m3) (dot3 m1 m2 m3 m1 m2 m3) (dot3 x y z a b c) (dot3 x y z m1 m2 m3)
    generalize hX : dot3 x y z a b c * dot3 m1 m2 m3 m1 m2 m3 - dot3 x y z m1 m2 m3 * dot3 a b c m1 m2 m3 = X at *
    generalize hY : dot3 x y z m1 m2 m3 * dot3 a b c a b c - dot3 x y z a b c * dot3 a b c m1 m2 m3 = Y at *
    have hi : insB x y z num den (X * a + Y * m1) (X * b + Y * m2) (X * c + Y * m3) = true := by
      refine ins_iff.2 ?_
      rw [dot_sum, dot_sum2, i2]
      refine ⟨hE, ?_⟩
      have q := Int.mul_le_mul_of_nonneg_right h3 (Int.le_of_lt hE)
      generalize X * dot3 x y z a b c + Y * dot3 x y z m1 m2 m3 = E at *
      generalize dot3 a b c a b c * dot3 m1 m2 m3 m1 m2 m3 - dot3 a b c m1 m2 m3 * dot3 a b c m1 m2 m3 = D at *
      have q1 : num * dot3 x y z x y z * (D * E) = num * D * dot3 x y z x y z * E := by grind
      have q2 : E * E * den = E * den * E := by grind
      rw [q1, q2]
      exact q
    rw [← ins_scale hg] at hi
    have j : ∀ p q r : Int, g * q = s * p + t * r → g * (X * p + Y * q) = (g * X + Y * s) * p + (Y * t) * r := fun p q r h => by
      have : g * (X * p + Y * q) = g * X * p + Y * (g * q) := by grind
      rw [this, h]
      grind
    rw [j _ _ _ e1, j _ _ _ e2, j _ _ _ e3] at hi
    have q1 := Int.mul_nonneg (Int.le_of_lt hg) (Int.le_of_lt h1)
    have q2 := Int.mul_nonneg (Int.le_of_lt h2) hs
    exact way_in hn hden ha hb ho (by omega) (Int.mul_nonneg (Int.le_of_lt h2) ht) hi
/-- No sum of two directions that are not opposite is 0. -/
theorem sum_not (ha : ¬ (a = 0 ∧ b = 0 ∧ c = 0)) (hb : ¬ (d = 0 ∧ e = 0 ∧ f = 0)) (ho : oppB a b c d e f = false) (hs : 0 ≤ s) (ht : 0 ≤ t) (h0 : ¬ (s = 0 ∧ t = 0)) :
    ¬ (s * a + t * d = 0 ∧ s * b + t * e = 0 ∧ s * c + t * f = 0) := by
  rintro ⟨e1, e2, e3⟩
  by_cases hs0 : s = 0
  · subst hs0
    refine hb ⟨?_, ?_, ?_⟩
    · rcases Int.mul_eq_zero.1 (show t * d = 0 by omega) with q | q <;> omega
    · rcases Int.mul_eq_zero.1 (show t * e = 0 by omega) with q | q <;> omega
    · rcases Int.mul_eq_zero.1 (show t * f = 0 by omega) with q | q <;> omega
  · by_cases ht0 : t = 0
    · subst ht0
      refine ha ⟨?_, ?_, ?_⟩
      · rcases Int.mul_eq_zero.1 (show s * a = 0 by omega) with q | q <;> omega
      · rcases Int.mul_eq_zero.1 (show s * b = 0 by omega) with q | q <;> omega
      · rcases Int.mul_eq_zero.1 (show s * c = 0 by omega) with q | q <;> omega
    · rw [opp_of_neg (k := s) (l := t) ha hb (by omega) (by omega) (by omega) (by omega) (by omega)] at ho
      cases ho
end
end Go.Proofs.YtggffhmdgceljaaGreatDoor

/-
  Contracts of the reference's checks of cones and turns, of its reduced vectors, and of what has one direction, or opposite ones.
-/
namespace Go.Proofs.YtggffhmdgceljaaGreatDoor
open Go.RowKit
set_option linter.unusedVariables false
set_option linter.unusedSimpArgs false

set_option maxRecDepth 100000 in
set_option maxHeartbeats 6400000 in
theorem refCheckCone_all (x y z num den : Int) (w : World) :
    Calls Tryz.prog 10 #[.agg #[.int .i64 x, .int .i64 y, .int .i64 z, .int .i64 num, .int .i64 den]] w fun e w' => e = .returned (.int .i64 (coneErr x y z num den)) ∧ Below w.heap.size w w' := by
  unfold coneErr
  obtain ⟨e1, he1⟩ : ∃ e : Int, rayErr x y z = e := ⟨_, rfl⟩
  obtain ⟨e2, he2⟩ : ∃ e : Int, rangeErr den 1 100 = e := ⟨_, rfl⟩
  obtain ⟨e3, he3⟩ : ∃ e : Int, rangeErr num 0 den = e := ⟨_, rfl⟩
  have KR : Hid (∀ w1 : World, Calls Tryz.prog 11 #[.agg #[.int .i64 x, .int .i64 y, .int .i64 z]] w1 fun e w' => e = .returned (.int .i64 e1) ∧ Below w1.heap.size w1 w') := Lib.hid fun w1 => by
    have h := refCheckRay_all x y z w1
    rwa [he1] at h
  have KA : Hid (∀ w1 : World, Calls Tryz.prog 50 #[.int .i64 den, .int .i64 1, .int .i64 100] w1 fun e w' => e = .returned (.int .i64 e2) ∧ w1 = w') := Lib.hid fun w1 => by
    have h := refCheckRange_any den 1 100 w1
    rwa [he2] at h
  have KB : Hid (∀ w1 : World, Calls Tryz.prog 50 #[.int .i64 num, .int .i64 0, .int .i64 den] w1 fun e w' => e = .returned (.int .i64 e3) ∧ w1 = w') := Lib.hid fun w1 => by
    have h := refCheckRange_any num 0 den w1
    rwa [he3] at h
  rw [he1, he2, he3]
  clear he1 he2 he3
  obtain ⟨E, hE⟩ : ∃ E : Int, firstNZ [e1, e2, e3] = E := ⟨_, rfl⟩
  have KF : Hid (∀ (w1 : World) (b : Nat), (∀ j, j < 3 → w1.cell? ⟨b, 0 + j, none⟩ = some (.int .i64 (([e1, e2, e3] : List Int)[j]?.getD 0))) → Calls Tryz.prog 49 #[.slice (some ⟨b, 0, none⟩) 3 3] w1 fun e w' => e = .returned (.int .i64 E) ∧ w1 = w') := Lib.hid fun w1 b h => by
    have k := refFirst_any b 0 3 3 [e1, e2, e3] rfl (by omega) w1 h
    rwa [hE] at k
  rw [hE]
  clear hE
  obtain ⟨W0, hW0⟩ : ∃ W0, (w.alloc (.cells #[.int .i64 x, .int .i64 y, .int .i64 z, .int .i64 num, .int .i64 den] 25)) = W0 := ⟨_, rfl⟩
  have K0 : Hid (Kp w W0 [(w.heap.size, (.cells #[.int .i64 x, .int .i64 y, .int .i64 z, .int .i64 num, .int .i64 den] 25 (0, 0)))]) := Lib.hid (by
    rw [← hW0]
    have k := ((Kp.none w).alloc (.cells #[.int .i64 x, .int .i64 y, .int .i64 z, .int .i64 num, .int .i64 den] 25))
    simpa using k)
  go_enter Tryz.func10, Tryz.ntmps10
  go_upto_region 1 with fail
  try rw [hW0]
  clear hW0
  apply wp_region_gives 11 (fun w' => Blw W0.heap.size W0 w') [.pointer (some ⟨w.heap.size, 0, none⟩), .agg #[.int .i64 x, .int .i64 y, .int .i64 z], .int .i64 e1, .pointer (some ⟨w.heap.size, 4, none⟩), .int .i64 den, .int .i64 e2, .pointer (some ⟨w.heap.size, 3, none⟩), .int .i64 num, .pointer (some ⟨w.heap.size, 4, none⟩), .int .i64 den, .int .i64 e3] (by kernel_rfl) (by kernel_rfl) (by kernel_rfl) (show Below _ _ _ from (Below.refl _ _).drew)
  case haF =>
    simp [putJs, Act.put, List.range, List.range.loop]
    exact rfl
  case h =>
    have hBq := K0.out.2 _ (.head _)
    simp only [List.take_succ_cons, List.take_zero, GivesL]
    clear K0
    refine ⟨?_, ?_, ?_, ?_, ?_, ?_, ?_, ?_, ?_, ?_, ?_, trivial⟩
    all_goals
      intro w1 hw1
      obtain ⟨q_0, q_1, q_2, q_3, q_4⟩ := cells5 (((show Below _ _ _ from hw1).block _ (lt_of_blk hBq)).trans hBq)
      unfold Oper.wp
      simp only [execOp]
      go_simp <;> first
        | exact ⟨rfl, hw1⟩
        | ((with_reducible refine (KR.out _).mono ?_); rintro e w2 ⟨rfl, hb⟩; exact ⟨rfl, below_call hb hw1⟩)
        | ((with_reducible refine (KA.out _).mono ?_); rintro e w2 ⟨rfl, rfl⟩; exact ⟨rfl, hw1⟩)
        | ((with_reducible refine (KB.out _).mono ?_); rintro e w2 ⟨rfl, rfl⟩; exact ⟨rfl, hw1⟩)
  case ht =>
    intro w2 hw5
    have K2 := Lib.hid (K0.out.call (show Below _ _ _ from hw5))
    clear hw5 K0
    simp only [List.drop_succ_cons, List.drop_zero]
    go_wp2_with (first
      | (go_at_call 49; (with_reducible refine (KF.out _ _ ?_).mono ?_); rotate_left 1; rintro e w6 ⟨rfl, rfl⟩; rotate_left 1; (intro j hj; match j, hj with | 0, _ => simp [go_sem] | 1, _ => simp [go_sem] | 2, _ => simp [go_sem])))
    go_ret
    exact ⟨rfl, (Kp.below K2.out).alloc (Kp.below K2.out).size _⟩

set_option maxRecDepth 100000 in
set_option maxHeartbeats 6400000 in
theorem refReduced_a (x y z g0 g1 g q1 q2 q3 : Int) (nx : (x != 0) = true) (hg : ¬ g = 0) (d1 : IntKind.i64.wrap (x.tdiv g) = q1) (d2 : IntKind.i64.wrap (y.tdiv g) = q2) (d3 : IntKind.i64.wrap (z.tdiv g) = q3) (w : World)
    (KV0 : Hid (∀ w1 : World, Calls Tryz.prog 85 #[.int .i64 z, .int .i64 0] w1 fun e w' => e = .returned (.int .i64 g0) ∧ w1 = w'))
    (KV1 : Hid (∀ w1 : World, Calls Tryz.prog 85 #[.int .i64 x, .int .i64 y] w1 fun e w' => e = .returned (.int .i64 g1) ∧ w1 = w'))
    (KV2 : Hid (∀ w1 : World, Calls Tryz.prog 85 #[.int .i64 g1, .int .i64 z] w1 fun e w' => e = .returned (.int .i64 g) ∧ w1 = w')) :
    Calls Tryz.prog 77 #[.agg #[.int .i64 x, .int .i64 y, .int .i64 z]] w fun e w' => e = .returned (.agg #[.int .i64 q1, .int .i64 q2, .int .i64 q3]) ∧ Below w.heap.size w w' := by
  obtain ⟨W0, hW0⟩ : ∃ W0, ((w.alloc (.cells #[.int .i64 x, .int .i64 y, .int .i64 z] 23)).alloc (.cells #[.int .i64 0, .int .i64 0, .int .i64 0] 23)) = W0 := ⟨_, rfl⟩
  have K0 : Hid (Kp w W0 [(w.heap.size + 1, (.cells #[.int .i64 0, .int .i64 0, .int .i64 0] 23 (0, 0))), (w.heap.size, (.cells #[.int .i64 x, .int .i64 y, .int .i64 z] 23 (0, 0)))]) := Lib.hid (by
    rw [← hW0]
    have k := (((Kp.none w).alloc (.cells #[.int .i64 x, .int .i64 y, .int .i64 z] 23)).alloc (.cells #[.int .i64 0, .int .i64 0, .int .i64 0] 23))
    simpa using k)
  go_enter Tryz.func77, Tryz.ntmps77
  go_upto_region 1 with fail
  try rw [hW0]
  clear hW0
  obtain ⟨x0, x1, x2⟩ := cells3 (K0.out.2 _ (.tail _ (.head _)))
  go_upto_region 3 with (first
    | (go_at_call 85; (with_reducible refine (KV0.out _).mono ?_); rintro e w1 ⟨rfl, rfl⟩))
  clear x0 x1 x2
  apply wp_region_gives 8 (fun w' => Blw W0.heap.size W0 w') [.pointer (some ⟨w.heap.size, 0, none⟩), .int .i64 x, .pointer (some ⟨w.heap.size, 1, none⟩), .int .i64 y, .int .i64 g1, .pointer (some ⟨w.heap.size, 2, none⟩), .int .i64 z, .int .i64 g] (by kernel_rfl) (by kernel_rfl) (by kernel_rfl) (show Below _ _ _ from (Below.refl _ _).drew)
  case haF =>
    simp [putJs, Act.put, List.range, List.range.loop]
    exact rfl
  case h =>
    have hBe := K0.out.2 _ (.tail _ (.head _))
    simp only [List.take_succ_cons, List.take_zero, GivesL]
    clear K0
    refine ⟨?_, ?_, ?_, ?_, ?_, ?_, ?_, ?_, trivial⟩
    all_goals
      intro w1 hw1
      obtain ⟨e_0, e_1, e_2⟩ := cells3 (((show Below _ _ _ from hw1).block _ (lt_of_blk hBe)).trans hBe)
      unfold Oper.wp
      simp only [execOp]
      go_simp <;> first
        | exact ⟨rfl, hw1⟩
        | ((with_reducible refine (KV1.out _).mono ?_); rintro e w2 ⟨rfl, rfl⟩; exact ⟨rfl, hw1⟩)
        | ((with_reducible refine (KV2.out _).mono ?_); rintro e w2 ⟨rfl, rfl⟩; exact ⟨rfl, hw1⟩)
  case ht =>
  intro w5 hw5
  have K5 := Lib.hid (K0.out.call (show Below _ _ _ from hw5))
  clear hw5 K0
  simp only [List.drop_succ_cons, List.drop_zero]
  go_wp2_with fail
  apply wp_region_gives 13 (fun w' => Blw w5.heap.size w5 w') [.pointer (some ⟨w.heap.size, 0, none⟩), .int .i64 x, .int .i64 g, .int .i64 q1, .pointer (some ⟨w.heap.size, 1, none⟩), .int .i64 y, .int .i64 g, .int .i64 q2, .pointer (some ⟨w.heap.size, 2, none⟩), .int .i64 z, .int .i64 g, .int .i64 q3, .agg #[.int .i64 q1, .int .i64 q2, .int .i64 q3]] (by kernel_rfl) (by kernel_rfl) (by kernel_rfl) (show Below _ _ _ from (Below.refl _ _).drew)
  case haF =>
    simp [putJs, Act.put, List.range, List.range.loop]
    exact rfl
  case h =>
    have hBe := K5.out.2 _ (.tail _ (.head _))
    simp only [List.take_succ_cons, List.take_zero, GivesL]
    clear K5
    refine ⟨?_, ?_, ?_, ?_, ?_, ?_, ?_, ?_, ?_, ?_, ?_, ?_, ?_, trivial⟩
    all_goals
      intro w1 hw1
      obtain ⟨e_0, e_1, e_2⟩ := cells3 (((show Below _ _ _ from hw1).block _ (lt_of_blk hBe)).trans hBe)
      unfold Oper.wp
      simp only [execOp]
      go_simp <;> first
        | exact ⟨rfl, hw1⟩
  case ht =>
  intro w6 hw6
  have K6 := Lib.hid (K5.out.call (show Below _ _ _ from hw6))
  clear hw6 K5
  simp only [List.drop_succ_cons, List.drop_zero]
  obtain ⟨o0, o1, o2⟩ := cells3 (K6.out.2 _ (.head _))
  have oz : ∀ j, w6.frozen? ⟨w.heap.size + 1, j, none⟩ = false := fun j => frozen_of_row w6 (w.heap.size + 1) j _ _ (K6.out.2 _ (.head _))
  go_wp2_with fail
  refine bodyPost_ret (v := .agg #[.int .i64 q1, .int .i64 q2, .int .i64 q3]) (by simp [results, Tryz.results77, go_sem, o0, o1, o2]) rfl ⟨rfl, ?_⟩
  exact (((Kp.below K6.out).setCell (show w.heap.size ≤ w.heap.size + 1 by omega) _).setCell (show w.heap.size ≤ w.heap.size + 1 by omega) _).setCell (show w.heap.size ≤ w.heap.size + 1 by omega) _

set_option maxRecDepth 100000 in
set_option maxHeartbeats 6400000 in
theorem refReduced_b (x y z g0 g1 g q1 q2 q3 : Int) (nx : (x != 0) = false) (ny : (y != 0) = true) (hg : ¬ g = 0) (d1 : IntKind.i64.wrap (x.tdiv g) = q1) (d2 : IntKind.i64.wrap (y.tdiv g) = q2) (d3 : IntKind.i64.wrap (z.tdiv g) = q3) (w : World)
    (KV0 : Hid (∀ w1 : World, Calls Tryz.prog 85 #[.int .i64 z, .int .i64 0] w1 fun e w' => e = .returned (.int .i64 g0) ∧ w1 = w'))
    (KV1 : Hid (∀ w1 : World, Calls Tryz.prog 85 #[.int .i64 x, .int .i64 y] w1 fun e w' => e = .returned (.int .i64 g1) ∧ w1 = w'))
    (KV2 : Hid (∀ w1 : World, Calls Tryz.prog 85 #[.int .i64 g1, .int .i64 z] w1 fun e w' => e = .returned (.int .i64 g) ∧ w1 = w')) :
    Calls Tryz.prog 77 #[.agg #[.int .i64 x, .int .i64 y, .int .i64 z]] w fun e w' => e = .returned (.agg #[.int .i64 q1, .int .i64 q2, .int .i64 q3]) ∧ Below w.heap.size w w' := by
  obtain ⟨W0, hW0⟩ : ∃ W0, ((w.alloc (.cells #[.int .i64 x, .int .i64 y, .int .i64 z] 23)).alloc (.cells #[.int .i64 0, .int .i64 0, .int .i64 0] 23)) = W0 := ⟨_, rfl⟩
  have K0 : Hid (Kp w W0 [(w.heap.size + 1, (.cells #[.int .i64 0, .int .i64 0, .int .i64 0] 23 (0, 0))), (w.heap.size, (.cells #[.int .i64 x, .int .i64 y, .int .i64 z] 23 (0, 0)))]) := Lib.hid (by
    rw [← hW0]
    have k := (((Kp.none w).alloc (.cells #[.int .i64 x, .int .i64 y, .int .i64 z] 23)).alloc (.cells #[.int .i64 0, .int .i64 0, .int .i64 0] 23))
    simpa using k)
  go_enter Tryz.func77, Tryz.ntmps77
  go_upto_region 1 with fail
  try rw [hW0]
  clear hW0
  obtain ⟨x0, x1, x2⟩ := cells3 (K0.out.2 _ (.tail _ (.head _)))
  go_upto_region 3 with (first
    | (go_at_call 85; (with_reducible refine (KV0.out _).mono ?_); rintro e w1 ⟨rfl, rfl⟩))
  clear x0 x1 x2
  apply wp_region_gives 8 (fun w' => Blw W0.heap.size W0 w') [.pointer (some ⟨w.heap.size, 0, none⟩), .int .i64 x, .pointer (some ⟨w.heap.size, 1, none⟩), .int .i64 y, .int .i64 g1, .pointer (some ⟨w.heap.size, 2, none⟩), .int .i64 z, .int .i64 g] (by kernel_rfl) (by kernel_rfl) (by kernel_rfl) (show Below _ _ _ from (Below.refl _ _).drew)
  case haF =>
    simp [putJs, Act.put, List.range, List.range.loop]
    exact rfl
  case h =>
    have hBe := K0.out.2 _ (.tail _ (.head _))
    simp only [List.take_succ_cons, List.take_zero, GivesL]
    clear K0
    refine ⟨?_, ?_, ?_, ?_, ?_, ?_, ?_, ?_, trivial⟩
    all_goals
      intro w1 hw1
      obtain ⟨e_0, e_1, e_2⟩ := cells3 (((show Below _ _ _ from hw1).block _ (lt_of_blk hBe)).trans hBe)
      unfold Oper.wp
      simp only [execOp]
      go_simp <;> first
        | exact ⟨rfl, hw1⟩
        | ((with_reducible refine (KV1.out _).mono ?_); rintro e w2 ⟨rfl, rfl⟩; exact ⟨rfl, hw1⟩)
        | ((with_reducible refine (KV2.out _).mono ?_); rintro e w2 ⟨rfl, rfl⟩; exact ⟨rfl, hw1⟩)
  case ht =>
  intro w5 hw5
  have K5 := Lib.hid (K0.out.call (show Below _ _ _ from hw5))
  clear hw5 K0
  simp only [List.drop_succ_cons, List.drop_zero]
  go_wp2_with fail
  apply wp_region_gives 13 (fun w' => Blw w5.heap.size w5 w') [.pointer (some ⟨w.heap.size, 0, none⟩), .int .i64 x, .int .i64 g, .int .i64 q1, .pointer (some ⟨w.heap.size, 1, none⟩), .int .i64 y, .int .i64 g, .int .i64 q2, .pointer (some ⟨w.heap.size, 2, none⟩), .int .i64 z, .int .i64 g, .int .i64 q3, .agg #[.int .i64 q1, .int .i64 q2, .int .i64 q3]] (by kernel_rfl) (by kernel_rfl) (by kernel_rfl) (show Below _ _ _ from (Below.refl _ _).drew)
  case haF =>
    simp [putJs, Act.put, List.range, List.range.loop]
    exact rfl
  case h =>
    have hBe := K5.out.2 _ (.tail _ (.head _))
    simp only [List.take_succ_cons, List.take_zero, GivesL]
    clear K5
    refine ⟨?_, ?_, ?_, ?_, ?_, ?_, ?_, ?_, ?_, ?_, ?_, ?_, ?_, trivial⟩
    all_goals
      intro w1 hw1
      obtain ⟨e_0, e_1, e_2⟩ := cells3 (((show Below _ _ _ from hw1).block _ (lt_of_blk hBe)).trans hBe)
      unfold Oper.wp
      simp only [execOp]
      go_simp <;> first
        | exact ⟨rfl, hw1⟩
  case ht =>
  intro w6 hw6
  have K6 := Lib.hid (K5.out.call (show Below _ _ _ from hw6))
  clear hw6 K5
  simp only [List.drop_succ_cons, List.drop_zero]
  obtain ⟨o0, o1, o2⟩ := cells3 (K6.out.2 _ (.head _))
  have oz : ∀ j, w6.frozen? ⟨w.heap.size + 1, j, none⟩ = false := fun j => frozen_of_row w6 (w.heap.size + 1) j _ _ (K6.out.2 _ (.head _))
  go_wp2_with fail
  refine bodyPost_ret (v := .agg #[.int .i64 q1, .int .i64 q2, .int .i64 q3]) (by simp [results, Tryz.results77, go_sem, o0, o1, o2]) rfl ⟨rfl, ?_⟩
  exact (((Kp.below K6.out).setCell (show w.heap.size ≤ w.heap.size + 1 by omega) _).setCell (show w.heap.size ≤ w.heap.size + 1 by omega) _).setCell (show w.heap.size ≤ w.heap.size + 1 by omega) _

set_option maxRecDepth 100000 in
set_option maxHeartbeats 6400000 in
theorem refReduced_c (x y z g0 g1 g q1 q2 q3 : Int) (nx : (x != 0) = false) (ny : (y != 0) = false) (hg : ¬ g = 0) (d1 : IntKind.i64.wrap (x.tdiv g) = q1) (d2 : IntKind.i64.wrap (y.tdiv g) = q2) (d3 : IntKind.i64.wrap (z.tdiv g) = q3) (w : World)
    (KV0 : Hid (∀ w1 : World, Calls Tryz.prog 85 #[.int .i64 z, .int .i64 0] w1 fun e w' => e = .returned (.int .i64 g) ∧ w1 = w')) :
    Calls Tryz.prog 77 #[.agg #[.int .i64 x, .int .i64 y, .int .i64 z]] w fun e w' => e = .returned (.agg #[.int .i64 q1, .int .i64 q2, .int .i64 q3]) ∧ Below w.heap.size w w' := by
  obtain ⟨W0, hW0⟩ : ∃ W0, ((w.alloc (.cells #[.int .i64 x, .int .i64 y, .int .i64 z] 23)).alloc (.cells #[.int .i64 0, .int .i64 0, .int .i64 0] 23)) = W0 := ⟨_, rfl⟩
  have K0 : Hid (Kp w W0 [(w.heap.size + 1, (.cells #[.int .i64 0, .int .i64 0, .int .i64 0] 23 (0, 0))), (w.heap.size, (.cells #[.int .i64 x, .int .i64 y, .int .i64 z] 23 (0, 0)))]) := Lib.hid (by
    rw [← hW0]
    have k := (((Kp.none w).alloc (.cells #[.int .i64 x, .int .i64 y, .int .i64 z] 23)).alloc (.cells #[.int .i64 0, .int .i64 0, .int .i64 0] 23))
    simpa using k)
  go_enter Tryz.func77, Tryz.ntmps77
  go_upto_region 1 with fail
  try rw [hW0]
  clear hW0
  obtain ⟨x0, x1, x2⟩ := cells3 (K0.out.2 _ (.tail _ (.head _)))
  go_upto_region 4 with (first
    | (go_at_call 85; (with_reducible refine (KV0.out _).mono ?_); rintro e w1 ⟨rfl, rfl⟩))
  clear x0 x1 x2
  apply wp_region_gives 13 (fun w' => Blw W0.heap.size W0 w') [.pointer (some ⟨w.heap.size, 0, none⟩), .int .i64 x, .int .i64 g, .int .i64 q1, .pointer (some ⟨w.heap.size, 1, none⟩), .int .i64 y, .int .i64 g, .int .i64 q2, .pointer (some ⟨w.heap.size, 2, none⟩), .int .i64 z, .int .i64 g, .int .i64 q3, .agg #[.int .i64 q1, .int .i64 q2, .int .i64 q3]] (by kernel_rfl) (by kernel_rfl) (by kernel_rfl) (show Below _ _ _ from (Below.refl _ _).drew)
  case haF =>
    simp [putJs, Act.put, List.range, List.range.loop]
    exact rfl
  case h =>
    have hBe := K0.out.2 _ (.tail _ (.head _))
    simp only [List.take_succ_cons, List.take_zero, GivesL]
    clear K0
    refine ⟨?_, ?_, ?_, ?_, ?_, ?_, ?_, ?_, ?_, ?_, ?_, ?_, ?_, trivial⟩
    all_goals
      intro w1 hw1
      obtain ⟨e_0, e_1, e_2⟩ := cells3 (((show Below _ _ _ from hw1).block _ (lt_of_blk hBe)).trans hBe)
      unfold Oper.wp
      simp only [execOp]
      go_simp <;> first
        | exact ⟨rfl, hw1⟩
  case ht =>
  intro w6 hw6
  have K6 := Lib.hid (K0.out.call (show Below _ _ _ from hw6))
  clear hw6 K0
  simp only [List.drop_succ_cons, List.drop_zero]
  obtain ⟨o0, o1, o2⟩ := cells3 (K6.out.2 _ (.head _))
  have oz : ∀ j, w6.frozen? ⟨w.heap.size + 1, j, none⟩ = false := fun j => frozen_of_row w6 (w.heap.size + 1) j _ _ (K6.out.2 _ (.head _))
  go_wp2_with fail
  refine bodyPost_ret (v := .agg #[.int .i64 q1, .int .i64 q2, .int .i64 q3]) (by simp [results, Tryz.results77, go_sem, o0, o1, o2]) rfl ⟨rfl, ?_⟩
  exact (((Kp.below K6.out).setCell (show w.heap.size ≤ w.heap.size + 1 by omega) _).setCell (show w.heap.size ≤ w.heap.size + 1 by omega) _).setCell (show w.heap.size ≤ w.heap.size + 1 by omega) _

/-- An integer of which twice as much is one of 64 bits. -/
def Half (n : Int) : Prop := -4611686018427387904 ≤ n ∧ n ≤ 4611686018427387904
theorem divR_gcd {x y : Int} (h : ¬ (x = 0 ∧ y = 0)) : divR x y = (Int.gcd x y : Int) := by
  unfold divR
  rw [if_neg]
  intro h0
  exact h (Int.gcd_eq_zero_iff.1 h0)
theorem wrap_tdiv {x g : Int} (hx : Half x) : IntKind.i64.wrap (x.tdiv g) = x.tdiv g := by
  have h := tdiv_le x g
  have hx1 := hx.1
  have hx2 := hx.2
  exact IntWalk.i64_in _ ⟨by omega, by omega⟩
set_option maxHeartbeats 800000 in
theorem refReduced_ok (x y z : Int) (hx : Half x) (hy : Half y) (hz : Half z) (h0 : ¬ (x = 0 ∧ y = 0 ∧ z = 0)) (w : World) :
    Calls Tryz.prog 77 #[.agg #[.int .i64 x, .int .i64 y, .int .i64 z]] w fun e w' => e = .returned (.agg #[.int .i64 (x.tdiv (g3 x y z)), .int .i64 (y.tdiv (g3 x y z)), .int .i64 (z.tdiv (g3 x y z))]) ∧ Below w.heap.size w w' := by
  have hg := g3_pos h0
  have d1 := wrap_tdiv (g := g3 x y z) hx
  have d2 := wrap_tdiv (g := g3 x y z) hy
  have d3 := wrap_tdiv (g := g3 x y z) hz
  have KV0 := fun w1 => refDivisor_all z 0 hz (by omega) w1
  by_cases h1 : x = 0 ∧ y = 0
  · obtain ⟨e1, e2⟩ := h1
    have hz0 : z ≠ 0 := fun h => h0 ⟨e1, e2, h⟩
    have e3 : divR z 0 = g3 x y z := by
      rw [divR_gcd (by omega), e1, e2]
      unfold g3
      rw [Int.gcd_zero]
      show (z.natAbs : Int) = (Int.gcd (Int.gcd 0 0 : Int) z : Int)
      rw [Int.gcd_zero]
      simp
    rw [e3] at KV0
    exact refReduced_c x y z 0 0 (g3 x y z) _ _ _ (by simp [e1]) (by simp [e2]) (by omega) d1 d2 d3 w (Lib.hid KV0)
  · have KV1 := fun w1 => refDivisor_all x y hx hy w1
    have e1 := divR_gcd h1
    have hgc : 0 < Int.gcd x y := Int.gcd_pos_iff.2 (by omega)
    have hb : Half (divR x y) := by
      have hx1 := hx.1
      have hx2 := hx.2
      have hy1 := hy.1
      have hy2 := hy.2
      exact divR_le (M := 4611686018427387904) (by decide) ⟨by omega, by omega⟩ ⟨by omega, by omega⟩
    have KV2 := fun w1 => refDivisor_all (divR x y) z hb hz w1
    have e3 : divR (divR x y) z = g3 x y z := by
      rw [divR_gcd (by omega), e1]
      rfl
    rw [e3] at KV2
    by_cases hx0 : x = 0
    · exact refReduced_b x y z _ _ (g3 x y z) _ _ _ (by simp [hx0]) (by simp; omega) (by omega) d1 d2 d3 w (Lib.hid KV0) (Lib.hid KV1) (Lib.hid KV2)
    · exact refReduced_a x y z _ _ (g3 x y z) _ _ _ (by simp [hx0]) (by omega) d1 d2 d3 w (Lib.hid KV0) (Lib.hid KV1) (Lib.hid KV2)

set_option maxRecDepth 100000 in
set_option maxHeartbeats 6400000 in
theorem refOpposite_walk (x y z a b c r1 r2 r3 s1 s2 s3 t1 t2 t3 : Int) (v1 v2 v3 : Bool) (e1 : (r1 == t1) = v1) (e2 : (r2 == t2) = v2) (e3 : (r3 == t3) = v3) (w : World)
    (KA : Hid (∀ w1 : World, Calls Tryz.prog 77 #[.agg #[.int .i64 x, .int .i64 y, .int .i64 z]] w1 fun e w' => e = .returned (.agg #[.int .i64 r1, .int .i64 r2, .int .i64 r3]) ∧ Below w1.heap.size w1 w'))
    (KB : Hid (∀ w1 : World, Calls Tryz.prog 77 #[.agg #[.int .i64 a, .int .i64 b, .int .i64 c]] w1 fun e w' => e = .returned (.agg #[.int .i64 s1, .int .i64 s2, .int .i64 s3]) ∧ Below w1.heap.size w1 w'))
    (KT : Hid (∀ w1 : World, Calls Tryz.prog 23 #[.agg #[.int .i64 s1, .int .i64 s2, .int .i64 s3], .int .i64 (-1)] w1 fun e w' => e = .returned (.agg #[.int .i64 t1, .int .i64 t2, .int .i64 t3]) ∧ Below w1.heap.size w1 w')) :
    Calls Tryz.prog 26 #[.agg #[.int .i64 x, .int .i64 y, .int .i64 z], .agg #[.int .i64 a, .int .i64 b, .int .i64 c]] w fun e w' => e = .returned (.bool (v1 && (v2 && v3))) ∧ Below w.heap.size w w' := by
  obtain ⟨W0, hW0⟩ : ∃ W0, ((w.alloc (.cells #[.int .i64 x, .int .i64 y, .int .i64 z] 23)).alloc (.cells #[.int .i64 a, .int .i64 b, .int .i64 c] 23)) = W0 := ⟨_, rfl⟩
  have K0 : Hid (Kp w W0 [(w.heap.size + 1, (.cells #[.int .i64 a, .int .i64 b, .int .i64 c] 23 (0, 0))), (w.heap.size, (.cells #[.int .i64 x, .int .i64 y, .int .i64 z] 23 (0, 0)))]) := Lib.hid (by
    rw [← hW0]
    have k := (((Kp.none w).alloc (.cells #[.int .i64 x, .int .i64 y, .int .i64 z] 23)).alloc (.cells #[.int .i64 a, .int .i64 b, .int .i64 c] 23))
    simpa using k)
  go_enter Tryz.func26, Tryz.ntmps26
  go_upto_region 1 with fail
  try rw [hW0]
  clear hW0
  apply wp_region_gives 5 (fun w' => Blw W0.heap.size W0 w') [.agg #[.int .i64 x, .int .i64 y, .int .i64 z], .agg #[.int .i64 r1, .int .i64 r2, .int .i64 r3], .agg #[.int .i64 a, .int .i64 b, .int .i64 c], .agg #[.int .i64 s1, .int .i64 s2, .int .i64 s3], .agg #[.int .i64 t1, .int .i64 t2, .int .i64 t3]] (by kernel_rfl) (by kernel_rfl) (by kernel_rfl) (show Below _ _ _ from (Below.refl _ _).drew)
  case haF =>
    simp [putJs, Act.put, List.range, List.range.loop]
    exact rfl
  case h =>
    have hBe := K0.out.2 _ (.tail _ (.head _))
    have hBh := K0.out.2 _ (.head _)
    simp only [List.take_succ_cons, List.take_zero, GivesL]
    clear K0
    refine ⟨?_, ?_, ?_, ?_, ?_, trivial⟩
    all_goals
      intro w1 hw1
      obtain ⟨e_0, e_1, e_2⟩ := cells3 (((show Below _ _ _ from hw1).block _ (lt_of_blk hBe)).trans hBe)
      obtain ⟨h_0, h_1, h_2⟩ := cells3 (((show Below _ _ _ from hw1).block _ (lt_of_blk hBh)).trans hBh)
      unfold Oper.wp
      simp only [execOp]
      go_simp <;> first
        | exact ⟨rfl, hw1⟩
        | ((with_reducible refine (KA.out _).mono ?_); rintro e w2 ⟨rfl, hb⟩; exact ⟨rfl, below_call hb hw1⟩)
        | ((with_reducible refine (KB.out _).mono ?_); rintro e w2 ⟨rfl, hb⟩; exact ⟨rfl, below_call hb hw1⟩)
        | ((with_reducible refine (KT.out _).mono ?_); rintro e w2 ⟨rfl, hb⟩; exact ⟨rfl, below_call hb hw1⟩)
  case ht =>
    intro w5 hw5
    have hb5 := Lib.hid ((Kp.below K0.out).trans ((show Below _ _ _ from hw5).mono (Kp.below K0.out).size))
    clear hw5 K0
    simp only [List.drop_succ_cons, List.drop_zero]
    cases v1 <;> cases v2 <;> cases v3 <;> (go_wp2_with fail; go_ret; exact ⟨rfl, hb5.out⟩)

theorem half_ray {x : Int} (h : -4096 ≤ x ∧ x ≤ 4096) : Half x := ⟨by omega, by omega⟩
theorem refReduced_ray {x y z : Int} (he : rayErr x y z = 0) (w : World) :
    Calls Tryz.prog 77 #[.agg #[.int .i64 x, .int .i64 y, .int .i64 z]] w fun e w' => e = .returned (.agg #[.int .i64 (x.tdiv (g3 x y z)), .int .i64 (y.tdiv (g3 x y z)), .int .i64 (z.tdiv (g3 x y z))]) ∧ Below w.heap.size w w' := by
  obtain ⟨e1, h1, h2, h3⟩ := ray_ok he
  exact refReduced_ok x y z (half_ray h1) (half_ray h2) (half_ray h3) (dir_ok e1).1 w
theorem bool3 {p q r : Prop} [Decidable p] [Decidable q] [Decidable r] : (decide p && (decide q && decide r)) = decide (p ∧ q ∧ r) := by
  by_cases h1 : p <;> by_cases h2 : q <;> by_cases h3 : r <;> simp [h1, h2, h3]
theorem refOpposite_ok {x y z a b c : Int} (he : rayErr x y z = 0) (hf : rayErr a b c = 0) (w : World) :
    Calls Tryz.prog 26 #[.agg #[.int .i64 x, .int .i64 y, .int .i64 z], .agg #[.int .i64 a, .int .i64 b, .int .i64 c]] w fun e w' => e = .returned (.bool (oppB x y z a b c)) ∧ Below w.heap.size w w' := by
  have hB := red_of (dir_ok (ray_ok hf).1).1
  obtain ⟨_, h1, h2, h3⟩ := ray_ok hf
  obtain ⟨i1, i2, i3⟩ := red_small (M := 4096) hB h1 h2 h3
  have KT := fun w1 => refTimes_any (a.tdiv (g3 a b c)) (b.tdiv (g3 a b c)) (c.tdiv (g3 a b c)) (-1) (fit_small i1 (by omega)) (fit_small i2 (by omega)) (fit_small i3 (by omega)) w1
  have h := refOpposite_walk x y z a b c _ _ _ _ _ _ _ _ _ _ _ _ rfl rfl rfl w (Lib.hid fun w1 => refReduced_ray he w1) (Lib.hid fun w1 => refReduced_ray hf w1) (Lib.hid KT)
  have m : ∀ n : Int, n * -1 = -n := fun n => by omega
  have e : oppB x y z a b c = ((x.tdiv (g3 x y z) == a.tdiv (g3 a b c) * -1) && ((y.tdiv (g3 x y z) == b.tdiv (g3 a b c) * -1) && (z.tdiv (g3 x y z) == c.tdiv (g3 a b c) * -1))) := by
    unfold oppB
    rw [m, m, m]
    exact bool3.symm
  rw [e]
  exact h

end Go.Proofs.YtggffhmdgceljaaGreatDoor
