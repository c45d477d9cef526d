/-
  Plain mathematics of lists of counters and telegrams: which are lost, which are kept; no program.
-/
import Derived.Test.YtfdkmmllemkogaaOWy
import Derived.Test.YtfdkmmllemkogaaOWk
namespace Go.Proofs.Ytfdkmmllemkogaa
open Go.RowKit

theorem asc_ext : ∀ {l m : List Int}, l.Pairwise (· < ·) → m.Pairwise (· < ·) → (∀ x, x ∈ l ↔ x ∈ m) → l = m
  | [], [], _, _, _ => rfl
  | [], b :: m, _, _, h => by have := (h b).2 (by simp); cases this
  | a :: l, [], _, _, h => by have := (h a).1 (by simp); cases this
  | a :: l, b :: m, hl, hm, h => by
    rw [List.pairwise_cons] at hl hm
    have e : a = b := by
      have h1 := (h a).1 (by simp)
      have h2 := (h b).2 (by simp)
      rcases List.mem_cons.1 h1 with h1 | h1
      · exact h1
      · rcases List.mem_cons.1 h2 with h2 | h2
        · exact h2.symm
        · have := hm.1 a h1; have := hl.1 b h2; omega
    subst e
    rw [asc_ext hl.2 hm.2 fun x => ⟨fun hx => ?_, fun hx => ?_⟩]
    · rcases List.mem_cons.1 ((h x).1 (by simp [hx])) with e | e
      · have := hl.1 x hx; omega
      · exact e
    · rcases List.mem_cons.1 ((h x).2 (by simp [hx])) with e | e
      · have := hm.1 x hx; omega
      · exact e

theorem gap_mem (a b x : Int) : x ∈ gap a b ↔ a < x ∧ x < b := by
  simp only [gap, List.mem_map, List.mem_range]
  constructor
  · rintro ⟨j, hj, rfl⟩; omega
  · rintro ⟨h1, h2⟩; exact ⟨(x - a - 1).toNat, by omega, by omega⟩
theorem gap_up (a b : Int) : (gap a b).Pairwise (· < ·) := by
  rw [gap, List.pairwise_map]
  exact List.pairwise_lt_range.imp fun h => by omega
theorem gapsTo_mem (xs : List Int) (k : Nat) (x : Int) : x ∈ gapsTo xs k ↔ ∃ i, i < k ∧ xs[i]?.getD 0 < x ∧ x < xs[i + 1]?.getD 0 := by
  simp only [gapsTo, List.mem_flatMap, List.mem_range, gap_mem]
theorem asc_lt {xs : List Int} {n : Nat} (h : Asc xs n) : ∀ {i j : Nat}, i < j → j < n → xs[i]?.getD 0 < xs[j]?.getD 0 := by
  intro i j hij hj
  induction j with
  | zero => omega
  | succ j ih =>
    by_cases e : i = j
    · subst e; exact h.up i hj
    · have := ih (by omega) (by omega); have := h.up j hj; omega
theorem gapsTo_up {xs : List Int} {n : Nat} (h : Asc xs n) : ∀ k, k < n → (gapsTo xs k).Pairwise (· < ·)
  | 0, _ => by simp [gapsTo]
  | k + 1, hk => by
    rw [gapsTo_succ, List.pairwise_append]
    refine ⟨gapsTo_up h k (by omega), gap_up _ _, fun x hx y hy => ?_⟩
    obtain ⟨i, hi, h1, h2⟩ := (gapsTo_mem xs k x).1 hx
    obtain ⟨h3, h4⟩ := (gap_mem _ _ y).1 hy
    have : xs[i + 1]?.getD 0 ≤ xs[k]?.getD 0 := by
      by_cases e : i + 1 = k
      · rw [e]; exact Int.le_refl _
      · exact Int.le_of_lt (asc_lt h (by omega) (by omega))
    omega

/-- The first and the last one of some counters, or -1. -/
def headOf (C : List Int) : Int := C[0]?.getD (-1)
def endOf (C : List Int) : Int := C[C.length - 1]?.getD (-1)
/-- Whether a number is one of some counters. -/
def inC (C : List Int) (i : Nat) : Bool := C.contains (i : Int)
/-- The numbers below k between first and last that are no counters. -/
def wantTo (C : List Int) (k : Nat) : List Int := ((List.range k).filter (fun i => !inC C i && (decide (headOf C < (i : Int)) && decide ((i : Int) < endOf C)))).map (fun i : Nat => (i : Int))
theorem wantTo_succ (C : List Int) (k : Nat) : wantTo C (k + 1) = if (!inC C k && (decide (headOf C < (k : Int)) && decide ((k : Int) < endOf C))) = true then wantTo C k ++ [(k : Int)] else wantTo C k := by
  simp only [wantTo, List.range_succ, List.filter_append, List.map_append, List.filter_cons, List.filter_nil]
  split <;> simp
theorem wantTo_up (C : List Int) (k : Nat) : (wantTo C k).Pairwise (· < ·) := by
  rw [wantTo, List.pairwise_map]
  exact (List.pairwise_lt_range.filter _).imp fun h => by omega
theorem wantTo_mem (C : List Int) (k : Nat) (x : Int) : x ∈ wantTo C k ↔ 0 ≤ x ∧ x < k ∧ x ∉ C ∧ headOf C < x ∧ x < endOf C := by
  simp only [wantTo, List.mem_map, List.mem_filter, List.mem_range, inC, Bool.and_eq_true, Bool.not_eq_true', decide_eq_true_eq, List.contains_eq_mem, decide_eq_false_iff_not]
  constructor
  · rintro ⟨i, ⟨h1, h2, h3, h4⟩, rfl⟩; exact ⟨by omega, by omega, h2, h3, h4⟩
  · rintro ⟨h0, h1, h2, h3, h4⟩
    exact ⟨x.toNat, ⟨by omega, by rw [Int.toNat_of_nonneg h0]; exact h2, by omega, by omega⟩, by omega⟩
theorem wantTo_len (C : List Int) (k : Nat) : (wantTo C k).length ≤ k := by
  rw [wantTo, List.length_map]
  exact Nat.le_trans (List.length_filter_le _ _) (by simp)

theorem getD_at {xs : List Int} {d e : Int} {j : Nat} (h : j < xs.length) : xs[j]?.getD d = xs[j]?.getD e := by
  rw [List.getElem?_eq_getElem h]; rfl
theorem mem_at {xs : List Int} {x : Int} (h : x ∈ xs) : ∃ j, j < xs.length ∧ xs[j]?.getD 0 = x := by
  obtain ⟨i, hi, rfl⟩ := List.getElem_of_mem h
  exact ⟨i, hi, by rw [List.getElem?_eq_getElem hi]; rfl⟩

/-- The counters between each one and the next are the numbers between the first and the last one that are no counters. -/
theorem gaps_want {C : List Int} {k : Nat} (h : Asc C C.length) (hk : ∀ x ∈ C, x < k) : gapsTo C (C.length - 1) = wantTo C k := by
  by_cases h0 : C.length = 0
  · have : C = [] := List.length_eq_zero_iff.1 h0
    subst this
    refine asc_ext (by simp [gapsTo]) (wantTo_up _ _) fun x => ?_
    rw [wantTo_mem]
    simp [gapsTo, headOf, endOf]
    omega
  · refine asc_ext (gapsTo_up h _ (by omega)) (wantTo_up _ _) fun x => ?_
    rw [gapsTo_mem, wantTo_mem]
    have ef : headOf C = C[0]?.getD 0 := getD_at (by omega)
    have el : endOf C = C[C.length - 1]?.getD 0 := getD_at (by omega)
    rw [ef, el]
    have mono : ∀ i j, i ≤ j → j < C.length → C[i]?.getD 0 ≤ C[j]?.getD 0 := fun i j hij hj => by
      by_cases e : i = j
      · rw [e]; exact Int.le_refl _
      · exact Int.le_of_lt (asc_lt h (by omega) hj)
    constructor
    · rintro ⟨i, hi, h1, h2⟩
      have b0 := h.bd i (by omega)
      have m0 := mono 0 i (by omega) (by omega)
      have m1 := mono (i + 1) (C.length - 1) (by omega) (by omega)
      have mk : C[C.length - 1]?.getD 0 < k := hk _ (by
        rw [List.getElem?_eq_getElem (show C.length - 1 < C.length by omega)]; exact List.getElem_mem _)
      refine ⟨by omega, by omega, fun hx => ?_, by omega, by omega⟩
      obtain ⟨j, hj, rfl⟩ := mem_at hx
      by_cases e : j ≤ i
      · have := mono j i e (by omega); omega
      · have := mono (i + 1) j (by omega) hj; omega
    · rintro ⟨h0x, hxk, hx, h1, h2⟩
      have key : ∀ n, n ≤ C.length - 1 → x < C[n]?.getD 0 → ∃ i, i < n ∧ C[i]?.getD 0 < x ∧ x < C[i + 1]?.getD 0 := by
        intro n
        induction n with
        | zero => intro _ h; omega
        | succ n ih =>
          intro hn hlt
          by_cases e : x < C[n]?.getD 0
          · obtain ⟨i, hi, h3, h4⟩ := ih (by omega) e
            exact ⟨i, by omega, h3, h4⟩
          · refine ⟨n, by omega, ?_, hlt⟩
            have : C[n]?.getD 0 ≠ x := fun e => hx (by
              rw [← e, List.getElem?_eq_getElem (show n < C.length by omega)]; exact List.getElem_mem _)
            omega
      obtain ⟨i, hi, h3, h4⟩ := key (C.length - 1) (by omega) h2
      exact ⟨i, hi, h3, h4⟩

/-- The telegram of three integers from a station. -/
def telOf (lev : List Int) (s : Int) (i : Nat) : Tel := ⟨s, i, 1, lev[3 * i]?.getD 0, lev[3 * i + 1]?.getD 0, lev[3 * i + 2]?.getD 0⟩
/-- The telegrams of the first k counters: those that are kept from station 7, all from station 8. -/
def telsTo (lev : List Int) (kept : Nat → Bool) (k : Nat) : List Tel := (List.range k).flatMap (fun i => (if kept i then [telOf lev 7 i] else []) ++ [telOf lev 8 i])
theorem telsTo_succ (lev : List Int) (kept : Nat → Bool) (k : Nat) : telsTo lev kept (k + 1) = telsTo lev kept k ++ ((if kept k then [telOf lev 7 k] else []) ++ [telOf lev 8 k]) := by
  simp [telsTo, List.range_succ]
theorem telsTo_len (lev : List Int) (kept : Nat → Bool) : ∀ k, (telsTo lev kept k).length ≤ 2 * k
  | 0 => by simp [telsTo]
  | k + 1 => by
    have := telsTo_len lev kept k
    rw [telsTo_succ, List.length_append, List.length_append]
    split <;> simp <;> omega
theorem telsTo_mem {lev : List Int} {kept : Nat → Bool} {k : Nat} {t : Tel} (h : t ∈ telsTo lev kept k) : ∃ i, i < k ∧ (t = telOf lev 8 i ∨ (t = telOf lev 7 i ∧ kept i = true)) := by
  simp only [telsTo, List.mem_flatMap, List.mem_range] at h
  obtain ⟨i, hi, h⟩ := h
  refine ⟨i, hi, ?_⟩
  split at h <;> simp at h
  · rcases h with h | h
    · exact .inr ⟨h, by assumption⟩
    · exact .inl h
  · exact .inl h
/-- The counters of station 7: those that are kept. -/
def keptTo (kept : Nat → Bool) (k : Nat) : List Int := ((List.range k).filter kept).map (fun i : Nat => (i : Int))
theorem counts_append (L M : List Tel) (st : Int) : countsOf (L ++ M) st = countsOf L st ++ countsOf M st := by simp [countsOf]
theorem keptTo_succ (kept : Nat → Bool) (k : Nat) : keptTo kept (k + 1) = keptTo kept k ++ (if kept k then [(k : Int)] else []) := by
  simp only [keptTo, List.range_succ, List.filter_append, List.map_append, List.filter_cons, List.filter_nil]
  split <;> simp
theorem counts7 (lev : List Int) (kept : Nat → Bool) : ∀ k, countsOf (telsTo lev kept k) 7 = keptTo kept k
  | 0 => by simp [telsTo, countsOf, keptTo]
  | k + 1 => by
    rw [telsTo_succ, counts_append, counts7 lev kept k, keptTo_succ]
    congr 1
    split <;> simp [countsOf, telOf]
theorem counts8 (lev : List Int) (kept : Nat → Bool) : ∀ k, countsOf (telsTo lev kept k) 8 = (List.range k).map (fun i : Nat => (i : Int))
  | 0 => by simp [telsTo, countsOf]
  | k + 1 => by
    rw [telsTo_succ, counts_append, counts8 lev kept k, List.range_succ, List.map_append]
    congr 1
    split <;> simp [countsOf, telOf]
theorem asc_of {C : List Int} (h : C.Pairwise (· < ·)) (hb : ∀ x ∈ C, 0 ≤ x ∧ x ≤ 200) : Asc C C.length := by
  refine ⟨rfl, fun j hj => ?_, fun j hj => ?_⟩
  · rw [List.getElem?_eq_getElem hj]; exact hb _ (List.getElem_mem _)
  · rw [List.getElem?_eq_getElem hj, List.getElem?_eq_getElem (show j < C.length by omega)]
    exact List.pairwise_iff_getElem.1 h j (j + 1) (by omega) hj (by omega)
theorem keptTo_up (kept : Nat → Bool) (k : Nat) : (keptTo kept k).Pairwise (· < ·) := by
  rw [keptTo, List.pairwise_map]
  exact (List.pairwise_lt_range.filter _).imp fun h => by omega
theorem keptTo_mem {kept : Nat → Bool} {k : Nat} {x : Int} : x ∈ keptTo kept k ↔ 0 ≤ x ∧ x < k ∧ kept x.toNat = true := by
  simp only [keptTo, List.mem_map, List.mem_filter, List.mem_range]
  constructor
  · rintro ⟨i, ⟨h1, h2⟩, rfl⟩; exact ⟨by omega, by omega, by simpa using h2⟩
  · rintro ⟨h0, h1, h2⟩; exact ⟨x.toNat, ⟨by omega, h2⟩, by omega⟩
theorem keptTo_in (kept : Nat → Bool) (k i : Nat) (hi : i < k) : inC (keptTo kept k) i = kept i := by
  rw [inC, List.contains_eq_mem, Bool.eq_iff_iff, decide_eq_true_eq, keptTo_mem]
  simp [hi]
theorem keptTo_len (kept : Nat → Bool) (k : Nat) : (keptTo kept k).length ≤ k := by
  rw [keptTo, List.length_map]
  exact Nat.le_trans (List.length_filter_le _ _) (by simp)
theorem keptTo_asc (kept : Nat → Bool) (k : Nat) (hk : k ≤ 200) : Asc (keptTo kept k) (keptTo kept k).length :=
  asc_of (keptTo_up kept k) fun x hx => by have := keptTo_mem.1 hx; omega
theorem range_asc (k : Nat) (hk : k ≤ 200) : Asc ((List.range k).map (fun i : Nat => (i : Int))) ((List.range k).map (fun i : Nat => (i : Int))).length :=
  asc_of (by rw [List.pairwise_map]; exact List.pairwise_lt_range.imp fun h => by omega) fun x hx => by
    simp only [List.mem_map, List.mem_range] at hx
    obtain ⟨i, hi, rfl⟩ := hx; omega
/-- With all counters none is lost. -/
theorem range_gaps (k : Nat) : gapsTo ((List.range k).map (fun i : Nat => (i : Int))) (((List.range k).map (fun i : Nat => (i : Int))).length - 1) = [] := by
  rw [List.eq_nil_iff_forall_not_mem]
  intro x hx
  obtain ⟨i, hi, h1, h2⟩ := (gapsTo_mem _ _ x).1 hx
  simp only [List.length_map, List.length_range] at hi
  rw [List.getElem?_map, List.getElem?_range (by omega)] at h1 h2
  simp at h1 h2
  omega
theorem keptTo_gaps (kept : Nat → Bool) (k : Nat) (hk : k ≤ 200) : gapsTo (keptTo kept k) ((keptTo kept k).length - 1) = wantTo (keptTo kept k) k :=
  gaps_want (keptTo_asc kept k hk) fun _ hx => (keptTo_mem.1 hx).2.1

/-- A counter of station 7 that comes next is none of those before. -/
theorem counts_next {L : List Tel} {k : Nat} (hk : k < L.length) (h : (countsOf L 7).Pairwise (· < ·)) (hs : (L[k]?.getD tel0).s = 7) : (L[k]?.getD tel0).c ∉ countsOf (L.take k) 7 := by
  have e : L = L.take k ++ L.drop k := (List.take_append_drop k L).symm
  rw [e, counts_append, List.pairwise_append] at h
  intro hm
  have hm2 : L[k] ∈ L.drop k := by rw [List.drop_eq_getElem_cons hk]; exact List.mem_cons_self
  rw [List.getElem?_eq_getElem hk] at hs hm
  simp only [Option.getD_some] at hs hm
  have := h.2.2 _ hm L[k].c (by
    simp only [countsOf, List.mem_map, List.mem_filter]
    exact ⟨L[k], ⟨hm2, by simp [hs]⟩, rfl⟩)
  omega
theorem headOf_snoc (C : List Int) (c : Int) : headOf (C ++ [c]) = if C.length = 0 then c else headOf C := by
  unfold headOf
  split
  · rename_i h; have : C = [] := List.length_eq_zero_iff.1 h; subst this; rfl
  · rename_i h; rw [List.getElem?_append_left (by omega)]
theorem endOf_snoc (C : List Int) (c : Int) : endOf (C ++ [c]) = c := by
  unfold endOf; simp
theorem headOf_neg {C : List Int} (h : ∀ x ∈ C, 0 ≤ x) : (headOf C < 0 ↔ C.length = 0) ∧ -1 ≤ headOf C := by
  unfold headOf
  by_cases h0 : C.length = 0
  · have : C = [] := List.length_eq_zero_iff.1 h0
    subst this; simp
  · rw [List.getElem?_eq_getElem (by omega)]
    have := h _ (List.getElem_mem (show 0 < C.length by omega))
    simp only [Option.getD_some]
    omega
theorem inC_snoc (C : List Int) (c : Int) (i : Nat) : inC (C ++ [c]) i = (inC C i || decide ((i : Int) = c)) := by
  simp [inC, List.contains_eq_mem]

/-- The samples that came, and those that are left: word by word. -/
def againW (lev : List Int) (sm : Int → Nat) (C : List Int) (j : Nat) : Nat := if inC C (j / 3) then sm (lev[j]?.getD 0) else 0
def restW (xs : List Nat) (C : List Int) (j : Nat) : Nat := if inC C (j / 3) then 0 else xs[j]?.getD 0
def againK (lev : List Int) (C : List Int) (j : Nat) : Int := if inC C (j / 3) then lev[j]?.getD 0 else 0
def restK (lev : List Int) (C : List Int) (j : Nat) : Int := if inC C (j / 3) then 0 else lev[j]?.getD 0
theorem againK_restK (lev : List Int) (C : List Int) (j : Nat) : againK lev C j + restK lev C j = lev[j]?.getD 0 := by
  unfold againK restK; split <;> omega
theorem sum_two (f g h : Nat → Int) (e : ∀ j, f j + g j = h j) : ∀ n, ((List.range n).map f).sum + ((List.range n).map g).sum = ((List.range n).map h).sum
  | 0 => rfl
  | n + 1 => by
    have := sum_two f g h e n
    have := e n
    simp only [List.range_succ, List.map_append, List.sum_append, List.map_cons, List.map_nil, List.sum_cons, List.sum_nil]
    omega
theorem map_range_getD (ks : List Int) (n : Nat) (h : ks.length = n) : (List.range n).map (fun j => ks[j]?.getD 0) = ks := by
  subst h
  refine List.ext_getElem (by simp) fun j h1 h2 => ?_
  simp [List.getElem?_eq_getElem h2]
end Go.Proofs.Ytfdkmmllemkogaa

/-
  Contract of emberSmall at 36 samples up to 1024: it returns a bool; if it is true the map is right and has at most 36 samples.
-/
namespace Go.Proofs.Ytfdkmmllemkogaa
open Go.RowKit
set_option linter.unusedVariables false

def SmallPost (w : World) (W H : Int) (n : Nat) (xs : List Nat) (e : Ending) (w' : World) : Prop :=
  ∃ r : Bool, e = .returned (.bool r) ∧ (r = true → RightSays W H n xs ∧ n ≤ 36) ∧ Below w.heap.size w w'

set_option maxRecDepth 100000 in
set_option maxHeartbeats 3200000 in
theorem emberSmall_any {w : World} (W H : Int) (a : Option Addr) (n c : Nat) (xs : List Nat)
    (hs : ∀ j, j < n → ∃ b o, a = some ⟨b, o, none⟩ ∧ b < w.heap.size ∧ ∀ j, j < n → w.cell? ⟨b, o + j, none⟩ = some (.float .f32 (xs[j]?.getD 0))) (hm : n ≤ 4611686018427387904) :
    Calls Try.prog 4 #[.agg #[.int .i64 W, .int .i64 H, .slice a n c], .int .i64 36, .float .f32 1149239296] w (SmallPost w W H n xs) := by
  by_cases h36 : n ≤ 36
  · have t1 : ((36 : Int) < (n : Int)) = False := by simp; omega
    have K : ∀ w1 : World, Below w.heap.size w w1 → Calls Try.prog 17 #[.agg #[.int .i64 W, .int .i64 H, .slice a n c]] w1 fun e w' => ∃ r, e = .returned (.int .i64 r) ∧ Hid (r = 0 → RightSays W H n xs) ∧ Below w1.heap.size w1 w' := fun w1 h =>
      refCheckMap_any W H a n c xs (by omega) w1 (fun j hj => by
        obtain ⟨b, o, ha, hb, hc⟩ := hs j hj
        exact ⟨b, o, ha, by have := h.size; omega, fun j hj => (h.cell (by exact hb)).trans (hc j hj)⟩)
    have HK := Lib.hid K
    have Hs := Lib.hid hs
    clear K hs
    go_enter Try.func4, Try.ntmps4
    go_wp2_with fail
    refine (HK.out _ ?_).mono ?_
    · exact (Below.refl _ w).alloc (Nat.le_refl _) _
    rintro e w1 ⟨r, rfl, hr, hb1⟩
    have hB : Below w.heap.size w w1 := ((Below.refl _ w).alloc (Nat.le_refl _) _).trans (hb1.mono (by simp))
    have s2 : w1.cell? ⟨w.heap.size, 2, none⟩ = some (.slice a n c) := by rw [hb1.cell (by simp)]; simp [go_sem]
    have HB := Lib.hid hB
    clear hb1 hB
    by_cases h0 : r = 0
    · have e0 : (r != 0) = false := by simp [h0]
      have H0 := Lib.hid h0
      clear h0
      go_wp2
      go_loop [22] (fun i => ∃ k : Nat, k ≤ n ∧ i = .int .i64 k) (fun i => n - (intOf i).toNat)
      case atStart => exact ⟨0, Nat.zero_le _, rfl⟩
      case round =>
        obtain ⟨k, hk, rfl⟩ := hrel
        by_cases hlt : k < n
        · obtain ⟨b, o, rfl, hb, hc⟩ := Hs.out k hlt
          have hcell : w1.cell? ⟨b, o + k, none⟩ = some (.float .f32 (xs[k]?.getD 0)) := (HB.out.cell (p := ⟨b, o + k, none⟩) hb).trans (hc k hlt)
          clear hc Hs
          have hun : ∀ w : World, (Op.unary .neg (.float .f32 1149239296)).run Try.prog w = .ok (.float .f32 3296722944) w := fun w => by kernel_rfl
          go_wp2
          all_goals first
            | (go_ret; exact ⟨false, rfl, fun h => (by cases h), HB.out⟩)
            | (go_round
               case rel => exact ⟨k + 1, by omega, by go_num⟩
               case measure => simp [intOf]; omega)
        · go_wp2
          go_ret
          exact ⟨true, rfl, fun _ => ⟨hr.out H0.out, h36⟩, HB.out⟩
    · have e0 : (r != 0) = true := by simp [h0]
      clear h0
      go_wp2
      go_ret
      exact ⟨false, rfl, fun h => (by cases h), HB.out⟩
  · have t1 : (36 : Int) < (n : Int) := by omega
    go_enter Try.func4, Try.ntmps4
    go_wp2
    go_ret
    exact ⟨false, rfl, fun h => (by cases h), (Below.refl _ w).alloc (Nat.le_refl _) _⟩
end Go.Proofs.Ytfdkmmllemkogaa
