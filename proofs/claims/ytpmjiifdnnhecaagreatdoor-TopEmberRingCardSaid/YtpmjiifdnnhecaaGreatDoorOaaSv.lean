/-
  Texts: what a text of a map is: the first bad line, or the rows; plain facts on its lines and words.
-/
import Derived.Test.YtpmjiifdnnhecaaGreatDoorOaaSu
import Derived.Lib.ItoaNum
import Derived.Lib.Join
import Derived.Test.YtpmjiifdnnhecaaGreatDoorOaaZy
import Derived.Test.YtpmjiifdnnhecaaGreatDoorOaaBr
import Derived.Test.YtpmjiifdnnhecaaGreatDoorOaaZk
namespace Go.Proofs.YtpmjiifdnnhecaaGreatDoor
open Go.RowKit
set_option linter.unusedVariables false
set_option linter.unusedSimpArgs false

/-- The rows of a text: the integers of all lines but the first one. -/
noncomputable def rowsR (L : List ByteArray) : List (List Int) := (L.drop 1).map (fun x => intsV (tailL x))
/-- The first two integers of the first line. -/
noncomputable def widR (L : List ByteArray) : Int := ((L[0]?.map (fun x => (intsV (tailL x))[0]?.getD 0)).getD 0)
noncomputable def heiR (L : List ByteArray) : Int := ((L[0]?.map (fun x => (intsV (tailL x))[1]?.getD 0)).getD 0)
/-- All lines before one have their form. -/
def okTo (L : List ByteArray) (k : Nat) : Prop := ∀ (j : Nat) (x : ByteArray), j < k → L[j]? = some x → okL j x = true
/-- What a text's result is: the index, the error, the size and the integers. -/
def ParseR (L : List ByteArray) (idx err W H : Int) (ls : List Int) : Prop :=
  (∃ (k : Nat) (x : ByteArray), L[k]? = some x ∧ okTo L k ∧ okL k x = false ∧ idx = k ∧ err = 25) ∨
  (L.length = 0 ∧ idx = 0 ∧ err = 25) ∨
  (0 < L.length ∧ okTo L L.length ∧ W = widR L ∧ H = heiR L ∧ ls = (rowsR L).flatten ∧ err = asmErr (widR L) (heiR L) (rowsR L) ∧ idx = if asmErr (widR L) (heiR L) (rowsR L) = 0 then 0 else (L.length : Int))
theorem parseR_fun {L : List ByteArray} {i e W H i' e' W' H' : Int} {ls ls' : List Int} (h : ParseR L i e W H ls) (h' : ParseR L i' e' W' H' ls') : i = i' ∧ e = e' ∧ (e = 0 → W = W' ∧ H = H' ∧ ls = ls') := by
  rcases h with ⟨k, x, h1, h2, h3, rfl, rfl⟩ | ⟨h1, rfl, rfl⟩ | ⟨h1, h2, rfl, rfl, rfl, rfl, rfl⟩
  · rcases h' with ⟨k', x', h1', h2', h3', rfl, rfl⟩ | ⟨h1', rfl, rfl⟩ | ⟨h1', h2', rfl, rfl, rfl, rfl, rfl⟩
    · have : k = k' := by
        rcases Nat.lt_trichotomy k k' with hl | he | hl
        · have := h2' k x hl h1; rw [h3] at this; cases this
        · exact he
        · have := h2 k' x' hl h1'; rw [h3'] at this; cases this
      subst this
      exact ⟨rfl, rfl, fun h => by cases h⟩
    · have := (List.getElem?_eq_some_iff.1 h1).1; omega
    · have := h2' k x (List.getElem?_eq_some_iff.1 h1).1 h1; rw [h3] at this; cases this
  · rcases h' with ⟨k', x', h1', h2', h3', rfl, rfl⟩ | ⟨h1', rfl, rfl⟩ | ⟨h1', h2', rfl, rfl, rfl, rfl, rfl⟩
    · have := (List.getElem?_eq_some_iff.1 h1').1; omega
    · exact ⟨rfl, rfl, fun h => by cases h⟩
    · omega
  · rcases h' with ⟨k', x', h1', h2', h3', rfl, rfl⟩ | ⟨h1', rfl, rfl⟩ | ⟨h1', h2', rfl, rfl, rfl, rfl, rfl⟩
    · have := h2 k' x' (List.getElem?_eq_some_iff.1 h1').1 h1'; rw [h3'] at this; cases this
    · omega
    · exact ⟨rfl, rfl, fun _ => ⟨rfl, rfl, rfl⟩⟩

/-- The bytes of pieces. -/
def sumL (L : List (List UInt8)) : Nat := (L.map List.length).sum
theorem pieces_sum (c : UInt8) : ∀ l, sumL (pieces c l) + (pieces c l).length = l.length + 1
  | [] => rfl
  | b :: r => by
    have ih := pieces_sum c r
    obtain ⟨P, q, hP⟩ := pieces_ex c r
    show sumL (if b = c then [] :: pieces c r else match pieces c r with | [] => [[b]] | p :: ps => (b :: p) :: ps) + _ = _
    by_cases e : b = c
    · rw [if_pos e]
      have e2 : pieces c (b :: r) = [] :: pieces c r := by show (if b = c then _ else _) = _; rw [if_pos e]
      rw [e2]
      unfold sumL at ih ⊢
      simp only [List.map_cons, List.sum_cons, List.length_nil, List.length_cons]
      omega
    · rw [if_neg e]
      have e2 : pieces c (b :: r) = match pieces c r with | [] => [[b]] | p :: ps => (b :: p) :: ps := by show (if b = c then _ else _) = _; rw [if_neg e]; rfl
      rw [e2]
      cases hpc : pieces c r with
      | nil => rw [hpc] at hP; simp at hP
      | cons p ps =>
        rw [hpc] at ih
        unfold sumL at ih ⊢
        simp only [List.map_cons, List.sum_cons, List.length_cons] at ih ⊢
        omega
theorem tailL_le (x : ByteArray) : (tailL x).length ≤ x.size := by
  have h1 := trim_le x
  rw [strB_size] at h1
  have h2 := pieces_sum 32 (bodyL x)
  rw [pieces_cut] at h2
  unfold tailL headL wordsL
  by_cases hm : (Lib.cut (bodyL x) [32]).2.2 = true
  · rw [if_pos hm] at h2 ⊢
    rw [listB_strB]
    simp only [List.length_cons] at h2
    omega
  · rw [if_neg hm]; simp
theorem lines_sum (s : ByteArray) : ((linesL s).map ByteArray.size).sum ≤ s.size := by
  have h := pieces_sum 10 (listB s)
  rw [head_last, listB_len] at h
  have e : ∀ P : List (List UInt8), ((P.map (fun p => strB (p ++ [10]))).map ByteArray.size).sum = sumL P + P.length := by
    intro P
    induction P with
    | nil => rfl
    | cons p P ih =>
      unfold sumL at ih ⊢
      simp only [List.map_cons, List.sum_cons, List.length_cons, ih, strB_size, List.length_append, List.length_nil]
      omega
  have h2 : sumL (headP s ++ [lastP s]) = sumL (headP s) + (lastP s).length := by unfold sumL; simp
  rw [h2, List.length_append] at h
  have h3 := e (headP s)
  unfold linesL
  split
  · rw [h3]; simp at h; omega
  · unfold allL
    rw [List.map_append, List.sum_append, h3]
    simp [strB_size] at h ⊢; omega
theorem sum_le {α : Type} (f g : α → Nat) (h : ∀ x, f x ≤ g x) : ∀ L : List α, (L.map f).sum ≤ (L.map g).sum
  | [] => Nat.le_refl _
  | x :: r => by
    have := sum_le f g h r
    have := h x
    simp only [List.map_cons, List.sum_cons]; omega
theorem rows_le (s : ByteArray) : (rowsR (linesL s)).flatten.length ≤ s.size := by
  unfold rowsR
  rw [List.length_flatten, List.map_map]
  have h1 := sum_le (List.length ∘ fun x => intsV (tailL x)) ByteArray.size (fun x => by show (intsV (tailL x)).length ≤ _; unfold intsV; rw [List.length_map]; exact tailL_le x) ((linesL s).drop 1)
  have h2 := lines_sum s
  have h3 : (((linesL s).drop 1).map ByteArray.size).sum ≤ ((linesL s).map ByteArray.size).sum := by
    cases linesL s with
    | nil => exact Nat.le_refl _
    | cons x r => simp
  omega
end Go.Proofs.YtpmjiifdnnhecaaGreatDoor

/-
  Texts: the lines of both sides are the same, and have the same form.
-/

namespace Go.Proofs.YtpmjiifdnnhecaaGreatDoor
open Go.RowKit
set_option linter.unusedVariables false
set_option linter.unusedSimpArgs false

/-- A line of the reference, as the program has it. -/
def lineOf (x : ByteArray) : ByteArray := strB (listB x ++ [10])
theorem has_end (l : List UInt8) : Lib.hasSuffix (l ++ [10]) [10] = true := by
  unfold Lib.hasSuffix
  rw [List.isSuffixOf_iff_suffix]
  exact ⟨l, rfl⟩
theorem body_end (x : ByteArray) : bodyL (lineOf x) = listB x := by
  unfold bodyL lineOf
  rw [listB_strB]
  unfold Lib.trimSuffix
  rw [if_pos (has_end _)]
  simp
theorem words_line (x : ByteArray) : splitL x 32 = strB (headL (lineOf x)).1 :: (tailL (lineOf x)).map strB := by
  apply map_listB_inj
  have h := splitL_pieces x 32
  have h3 : ((32 : UInt8).toNat : Int) = 32 := rfl
  rw [h3] at h
  rw [h, pieces_cut]
  unfold tailL headL wordsL
  rw [body_end]
  cases hm : (Lib.cut (listB x) [32]).2.2
  · simp [listB_strB]
  · simp only [if_true, List.map_cons, listB_strB]
    rw [List.map_map]
    congr 1
    have : (listB ∘ strB) = id := by funext l; rfl
    rw [this, List.map_id]
end Go.Proofs.YtpmjiifdnnhecaaGreatDoor

/-
  Texts: a word that is read as an integer is that integer's numeral, and a numeral is read as its integer.
-/
namespace Go.Proofs.YtpmjiifdnnhecaaGreatDoor
open Go.RowKit
set_option linter.unusedVariables false
set_option linter.unusedSimpArgs false

theorem dec_big {u : Nat} (h : ¬ u < 10) : Lib.decDigits u = Lib.decDigits (u / 10) ++ [UInt8.ofNat (48 + u % 10)] := by rw [Lib.decDigits, dif_neg h]
theorem dec_dgt (u : Nat) : ∀ c ∈ Lib.decDigits u, 48 ≤ c.toNat ∧ c.toNat ≤ 57 := by
  induction u using Nat.strongRecOn with
  | _ u ih =>
    intro c hc
    by_cases h : u < 10
    · rw [Lib.decDigits_one h] at hc
      rw [List.mem_singleton] at hc; subst hc
      rw [UInt8.toNat_ofNat']; omega
    · rw [dec_big h] at hc
      rcases List.mem_append.1 hc with hc | hc
      · exact ih (u / 10) (by omega) c hc
      · rw [List.mem_singleton] at hc; subst hc
        rw [UInt8.toNat_ofNat']; omega
theorem nd_le : ∀ (k u : Nat), u < 10 ^ (k + 1) → Lib.nDigits u ≤ k + 1
  | 0, u, h => by rw [Lib.nDigits_small (by simpa using h)]; omega
  | k + 1, u, h => by
    by_cases hu : u < 10
    · rw [Lib.nDigits_small hu]; omega
    · rw [Lib.nDigits_big hu]
      rw [Nat.pow_succ] at h
      have := nd_le k (u / 10) (by omega)
      omega
theorem byteI_get {s : ByteArray} {k : Nat} {b : UInt8} (h : (listB s)[k]? = some b) : k < s.size ∧ byteI s k = (b.toNat : Int) := by
  have hk : k < s.size := by rw [← listB_len]; exact (List.getElem?_eq_some_iff.1 h).1
  obtain ⟨b', h1, h2⟩ := byteI_list hk
  rw [h] at h1
  cases h1
  exact ⟨hk, h2⟩
theorem take_next {l : List UInt8} {k : Nat} {b : UInt8} (h : l[k]? = some b) : l.take (k + 1) = l.take k ++ [b] := by rw [List.take_add_one, h]; rfl

/-- A numeral's digits are its number. -/
theorem dec_digits {s : ByteArray} (u : Nat) : ∀ k, k ≤ s.size → (listB s).take k = Lib.decDigits u → digTo s k ∧ digV s k = (u : Int) ∧ (byteI s 0 = 48 → u = 0) := by
  induction u using Nat.strongRecOn with
  | _ u ih =>
    intro k hk he
    have hl := congrArg List.length he
    rw [List.length_take, listB_len, Nat.min_eq_left hk, Lib.decDigits_length] at hl
    by_cases h : u < 10
    · rw [Lib.nDigits_small h] at hl
      subst hl
      rw [Lib.decDigits_one h] at he
      have hb : (listB s)[0]? = some (UInt8.ofNat (48 + u)) := by
        have := congrArg (fun l => l[0]?) he
        simpa using this
      obtain ⟨-, h2⟩ := byteI_get hb
      rw [UInt8.toNat_ofNat'] at h2
      have h3 : byteI s 0 = 48 + (u : Int) := by rw [h2]; omega
      refine ⟨fun i hi => ?_, ?_, fun h0 => by omega⟩
      · obtain rfl : i = 0 := by omega
        unfold dgt; omega
      · show 10 * (0 : Int) + (byteI s 0 - 48) = _; omega
    · rw [Lib.nDigits_big h] at hl
      obtain ⟨m, rfl⟩ : ∃ m, k = m + 1 := ⟨k - 1, by have := Lib.nDigits_pos (u / 10); omega⟩
      obtain ⟨b, h1, h2⟩ := byteI_list (s := s) (k := m) (by omega)
      rw [take_next h1, dec_big h] at he
      obtain ⟨e1, e2⟩ := snoc_inj he
      obtain ⟨i1, i2, i3⟩ := ih (u / 10) (by omega) m (by omega) e1
      have h3 : byteI s m = 48 + ((u % 10 : Nat) : Int) := by rw [h2, e2, UInt8.toNat_ofNat']; omega
      refine ⟨fun i hi => ?_, ?_, fun h0 => by have := i3 h0; omega⟩
      · by_cases him : i = m
        · subst him; unfold dgt; omega
        · exact i1 i (by omega)
      · show 10 * digV s m + (byteI s m - 48) = _
        rw [i2, h3]; omega
theorem dec_nat {s : ByteArray} {u : Nat} (hu : u < 1000000000) (h : listB s = Lib.decDigits u) : natP s ∧ natV s = (u : Int) := by
  have hl := congrArg List.length h
  rw [listB_len, Lib.decDigits_length] at hl
  have h1 := Lib.nDigits_pos u
  have h2 := nd_le 8 u (by simpa using hu)
  obtain ⟨a, b, c⟩ := dec_digits (s := s) u s.size (Nat.le_refl _) (by rw [← listB_len, List.take_length]; exact h)
  have hp : natP s := ⟨by omega, by omega, fun h0 => by
    have := c h0; subst this
    rw [hl]; exact Lib.nDigits_small (by decide), a⟩
  exact ⟨hp, by unfold natV; rw [if_pos hp]; exact b⟩
theorem natB_iff {s : ByteArray} : natB s = true ↔ natP s := by unfold natB; simp
theorem listB_rest {s : ByteArray} : listB (restB s) = (listB s).drop 1 := by
  unfold restB
  rw [listB_extract, ← listB_len, List.take_length]
/-- A numeral is read as its integer. -/
theorem dec_int {s : ByteArray} {k : Int} (hk : k.natAbs < 1000000000) (h : listB s = Lib.itoa k) : intB s = true ∧ intV s = k := by
  unfold Lib.itoa at h
  by_cases h0 : k < 0
  · rw [if_pos h0] at h
    have hs : s.size = (Lib.decDigits k.natAbs).length + 1 := by rw [← listB_len, h]; rfl
    have hm : minusP s := by
      refine ⟨by omega, ?_⟩
      obtain ⟨-, h2⟩ := byteI_get (s := s) (k := 0) (b := 45) (by rw [h]; rfl)
      rw [h2]; rfl
    have hr : listB (restB s) = Lib.decDigits k.natAbs := by rw [listB_rest, h]; rfl
    obtain ⟨h1, h2⟩ := dec_nat hk hr
    have h3 : natV (restB s) ≠ 0 := by rw [h2]; omega
    unfold intB intV
    rw [if_pos hm, if_pos hm, natB_iff.2 h1]
    exact ⟨by simp [h3], by rw [h2]; omega⟩
  · rw [if_neg h0] at h
    obtain ⟨h1, h2⟩ := dec_nat (by omega) h
    have hm : ¬ minusP s := fun hm => by
      have h3 := h1.2.2.2 0 (by have := h1.1; omega)
      unfold dgt at h3
      have := hm.2; omega
    unfold intB intV
    rw [if_neg hm, if_neg hm]
    exact ⟨natB_iff.2 h1, by rw [h2]; omega⟩
theorem itoa_bytes (k : Int) : ∀ c ∈ Lib.itoa k, c = 45 ∨ 48 ≤ c.toNat := by
  intro c hc
  unfold Lib.itoa at hc
  by_cases h : k < 0
  · rw [if_pos h] at hc
    rcases List.mem_cons.1 hc with h | h
    · exact .inl h
    · exact .inr (dec_dgt _ c h).1
  · rw [if_neg h] at hc
    exact .inr (dec_dgt _ c hc).1
theorem itoa_no32 (k : Int) : (32 : UInt8) ∉ Lib.itoa k := fun h => by
  rcases itoa_bytes k _ h with h | h
  · cases h
  · have : (32 : UInt8).toNat = 32 := rfl
    omega
theorem itoa_no10 (k : Int) : (10 : UInt8) ∉ Lib.itoa k := fun h => by
  rcases itoa_bytes k _ h with h | h
  · cases h
  · have : (10 : UInt8).toNat = 10 := rfl
    omega
end Go.Proofs.YtpmjiifdnnhecaaGreatDoor

/-
  Texts: a line that has its form is the line of its integers, and the line of integers is read as them.
-/

namespace Go.Proofs.YtpmjiifdnnhecaaGreatDoor
open Go.RowKit
set_option linter.unusedVariables false
set_option linter.unusedSimpArgs false

theorem pieces_app (c : UInt8) (l : List UInt8) : ∀ x : List UInt8, c ∉ x → pieces c (x ++ c :: l) = x :: pieces c l
  | [], _ => by show (if c = c then _ else _) = _; rw [if_pos rfl]
  | b :: x, h => by
    have hb : b ≠ c := fun e => h (by rw [e]; exact List.mem_cons.2 (.inl rfl))
    have ih := pieces_app c l x (fun h' => h (List.mem_cons.2 (.inr h')))
    show (if b = c then _ else match pieces c (x ++ c :: l) with | [] => [[b]] | p :: ps => (b :: p) :: ps) = _
    rw [if_neg hb, ih]
theorem pieces_own (c : UInt8) : ∀ x : List UInt8, c ∉ x → pieces c x = [x]
  | [], _ => rfl
  | b :: x, h => by
    have hb : b ≠ c := fun e => h (by rw [e]; exact List.mem_cons.2 (.inl rfl))
    have ih := pieces_own c x (fun h' => h (List.mem_cons.2 (.inr h')))
    show (if b = c then _ else match pieces c x with | [] => [[b]] | p :: ps => (b :: p) :: ps) = _
    rw [if_neg hb, ih]
theorem pieces_join (c : UInt8) : ∀ (x : List UInt8) (r : List (List UInt8)), c ∉ x → (∀ y ∈ r, c ∉ y) → pieces c (Lib.join (x :: r) [c]) = x :: r
  | x, [], h, _ => by rw [Lib.join_one]; exact pieces_own c x h
  | x, y :: r, h, hr => by
    have ih := pieces_join c y r (hr y (List.mem_cons.2 (.inl rfl))) (fun z hz => hr z (List.mem_cons.2 (.inr hz)))
    have e : Lib.join (x :: y :: r) [c] = x ++ c :: Lib.join (y :: r) [c] := by
      rw [Lib.join_cons, Lib.join_cons]
      simp [Lib.joinTail]
    rw [e, pieces_app c _ x h, ih]
/-- The words of a line, as the first one and the others. -/
theorem line_pieces (x : ByteArray) : pieces 32 (listB x) = (headL (lineOf x)).1 :: tailL (lineOf x) := by
  have h := splitL_pieces x 32
  have h3 : ((32 : UInt8).toNat : Int) = 32 := rfl
  rw [h3, words_line, List.map_cons, List.map_map] at h
  have : (listB ∘ strB) = id := by funext l; rfl
  rw [this, List.map_id] at h
  exact h.symm
theorem listB_lineOf (x : ByteArray) : listB (lineOf x) = listB x ++ [10] := rfl
theorem itoa_ints : ∀ ks : List Int, (∀ k ∈ ks, k.natAbs < 1000000000) → intsB (ks.map Lib.itoa) = true ∧ intsV (ks.map Lib.itoa) = ks
  | [], _ => ⟨rfl, rfl⟩
  | k :: r, h => by
    obtain ⟨i1, i2⟩ := itoa_ints r (fun k hk => h k (List.mem_cons.2 (.inr hk)))
    obtain ⟨e1, e2⟩ := dec_int (s := strB (Lib.itoa k)) (h k (List.mem_cons.2 (.inl rfl))) rfl
    unfold intsB at i1 ⊢
    unfold intsV at i2 ⊢
    rw [List.map_cons, List.all_cons, List.map_cons, i1, i2, e1, e2]
    exact ⟨rfl, rfl⟩
theorem kind_no32 (j : Nat) : (32 : UInt8) ∉ listB (kindW j) := by unfold kindW; split <;> decide
theorem kind_no10 (j : Nat) : (10 : UInt8) ∉ listB (kindW j) := by unfold kindW; split <;> decide
/-- The words of integers' line. -/
theorem line_words (j : Nat) (ks : List Int) : ∃ x, strB (lineL (listB (kindW j)) ks) = lineOf x ∧ (headL (lineOf x)).1 = listB (kindW j) ∧ tailL (lineOf x) = ks.map Lib.itoa := by
  refine ⟨strB (Lib.join (listB (kindW j) :: ks.map Lib.itoa) [32]), rfl, ?_⟩
  have h := line_pieces (strB (Lib.join (listB (kindW j) :: ks.map Lib.itoa) [32]))
  have e := pieces_join 32 (listB (kindW j)) (ks.map Lib.itoa) (kind_no32 j) (fun y hy => by
    obtain ⟨k, -, rfl⟩ := List.mem_map.1 hy
    exact itoa_no32 k)
  rw [listB_strB, e] at h
  exact ⟨(List.cons.inj h).1.symm, (List.cons.inj h).2.symm⟩
/-- The line of integers is read as them. -/
theorem line_reads (j : Nat) (ks : List Int) (h : ∀ k ∈ ks, k.natAbs < 1000000000) (hf : fitsB j ks.length = true) :
    okL j (strB (lineL (listB (kindW j)) ks)) = true ∧ intsV (tailL (strB (lineL (listB (kindW j)) ks))) = ks := by
  obtain ⟨x, e, h1, h2⟩ := line_words j ks
  obtain ⟨i1, i2⟩ := itoa_ints ks h
  rw [e]
  refine ⟨?_, by rw [h2, i2]⟩
  unfold okL lineOk
  rw [h1, h2, i1, List.length_map, hf, listB_lineOf, has_end]
  simp
/-- The line of integers, without its end. -/
def bareL (wd : List UInt8) (ks : List Int) : List UInt8 := Lib.join (wd :: ks.map Lib.itoa) [32]
theorem joinTail_no (c d : UInt8) (hcd : c ≠ d) : ∀ r : List (List UInt8), (∀ y ∈ r, c ∉ y) → c ∉ Lib.joinTail [d] r
  | [], _ => by simp [Lib.joinTail]
  | y :: r, h => by
    have ih := joinTail_no c d hcd r (fun z hz => h z (List.mem_cons.2 (.inr hz)))
    have h1 := h y (List.mem_cons.2 (.inl rfl))
    have e : Lib.joinTail [d] (y :: r) = d :: (y ++ Lib.joinTail [d] r) := by simp [Lib.joinTail]
    rw [e]
    simp only [List.mem_cons, List.mem_append, not_or]
    exact ⟨hcd, h1, ih⟩
theorem bare_no10 (j : Nat) (ks : List Int) : (10 : UInt8) ∉ bareL (listB (kindW j)) ks := by
  unfold bareL
  rw [Lib.join_cons]
  simp only [List.mem_append, not_or]
  exact ⟨kind_no10 j, joinTail_no 10 32 (by decide) _ (fun y hy => by
    obtain ⟨k, -, rfl⟩ := List.mem_map.1 hy
    exact itoa_no10 k)⟩
/-- Lines with their ends, cut again. -/
theorem pieces_lines (c : UInt8) (q : List UInt8) (hq : c ∉ q) : ∀ P : List (List UInt8), (∀ p ∈ P, c ∉ p) → pieces c (P.flatMap (· ++ [c]) ++ q) = P ++ [q]
  | [], _ => by rw [List.flatMap_nil, List.nil_append]; exact pieces_own c q hq
  | p :: P, h => by
    have ih := pieces_lines c q hq P (fun z hz => h z (List.mem_cons.2 (.inr hz)))
    have e : (p :: P).flatMap (· ++ [c]) ++ q = p ++ c :: (P.flatMap (· ++ [c]) ++ q) := by simp [List.flatMap_cons]
    rw [e, pieces_app c _ p (h p (List.mem_cons.2 (.inl rfl))), ih]; rfl
theorem lines_text {s : ByteArray} {P : List (List UInt8)} {q : List UInt8} (h : listB s = P.flatMap (· ++ [10]) ++ q) (hP : ∀ p ∈ P, (10 : UInt8) ∉ p) (hq : (10 : UInt8) ∉ q) : headP s = P ∧ lastP s = q := by
  have h1 := pieces_lines 10 q hq P hP
  rw [← h, head_last] at h1
  exact snoc_inj h1
end Go.Proofs.YtpmjiifdnnhecaaGreatDoor

/-
  Texts: the printed text of a right map is read as it; a text that is read without an error is the printed text of what it is read as; a printed text without its last byte is refused at its last line.
-/

namespace Go.Proofs.YtpmjiifdnnhecaaGreatDoor
open Go.RowKit
set_option linter.unusedVariables false
set_option linter.unusedSimpArgs false

theorem kind_succ (y : Nat) : kindW (y + 1) = kindW 1 := by unfold kindW; rw [if_neg (by omega), if_neg (by omega)]
/-- The rows of a text, and its lines, without their ends. -/
def rowParts (W m : Nat) (ks : List Int) : List (List UInt8) := (List.range m).map (fun y => bareL (listB (kindW 1)) (rowOf W ks y))
def partsL (W H m : Nat) (ks : List Int) : List (List UInt8) := bareL (listB (kindW 0)) [(W : Int), (H : Int)] :: rowParts W m ks
theorem text_parts (W H : Nat) (ks : List Int) : textL W H ks = (partsL W H H ks).flatMap (· ++ [10]) := by
  unfold textL partsL rowParts rowsL
  rw [List.flatMap_cons, List.flatMap_map]; rfl
theorem parts_no10 (W H m : Nat) (ks : List Int) : ∀ p ∈ partsL W H m ks, (10 : UInt8) ∉ p := by
  intro p hp
  rcases List.mem_cons.1 hp with rfl | hp
  · exact bare_no10 0 _
  · obtain ⟨y, -, rfl⟩ := List.mem_map.1 hp
    exact bare_no10 1 _
theorem parts_len (W H m : Nat) (ks : List Int) : (partsL W H m ks).length = m + 1 := by unfold partsL rowParts; simp
theorem text_heads (W H : Nat) (ks : List Int) : headP (strB (textL W H ks)) = partsL W H H ks ∧ lastP (strB (textL W H ks)) = [] :=
  lines_text (by rw [listB_strB, text_parts, List.append_nil]) (parts_no10 W H H ks) (by simp)
/-- A line of a text of a right map. -/
theorem part_ok {W H m : Nat} {ks : List Int} (hW : 1 ≤ W ∧ W ≤ 64) (hH : H ≤ 64) (hm : m * W ≤ ks.length) (hk : ∀ k ∈ ks, k.natAbs ≤ 16384) {j : Nat} {p : List UInt8} (hp : (partsL W H m ks)[j]? = some p) :
    okL j (strB (p ++ [10])) = true ∧ intsV (tailL (strB (p ++ [10]))) = if j = 0 then [(W : Int), (H : Int)] else rowOf W ks (j - 1) := by
  cases j with
  | zero =>
    have e : bareL (listB (kindW 0)) [(W : Int), (H : Int)] = p := by simpa [partsL] using hp
    subst e
    rw [if_pos rfl]
    refine line_reads 0 _ (fun k hk => ?_) rfl
    simp at hk
    rcases hk with rfl | rfl <;> omega
  | succ y =>
    unfold partsL rowParts at hp
    rw [List.getElem?_cons_succ, List.getElem?_map] at hp
    by_cases hy : y < m
    · rw [List.getElem?_range hy] at hp
      have e : bareL (listB (kindW 1)) (rowOf W ks y) = p := by simpa using hp
      subst e
      rw [if_neg (by omega), Nat.add_sub_cancel, ← kind_succ y]
      refine line_reads (y + 1) _ (fun k hk' => ?_) ?_
      · have := hk k (rowOf_mem hk'); omega
      · have h2 : (y + 1) * W ≤ m * W := Nat.mul_le_mul_right W (by omega)
        rw [Nat.add_mul, Nat.one_mul] at h2
        rw [rowOf_len W ks y (by omega)]
        unfold fitsB; rw [if_neg (by omega)]; simp; omega
    · rw [List.getElem?_eq_none (by simp; omega)] at hp; cases hp
theorem rowOf_succ (W : Nat) (ks : List Int) (y : Nat) : rowOf W ks (y + 1) = rowOf W (ks.drop W) y := by
  unfold rowOf; rw [List.drop_drop, Nat.add_mul, Nat.one_mul, Nat.add_comm]
theorem rowOf_zero (W : Nat) (ks : List Int) : rowOf W ks 0 = ks.take W := by unfold rowOf; rw [Nat.zero_mul, List.drop_zero]
theorem range_cut {α : Type} (f : Nat → α) (m : Nat) : (List.range (m + 1)).map f = f 0 :: (List.range m).map (fun y => f (y + 1)) := by
  rw [List.range_succ_eq_map, List.map_cons, List.map_map]; rfl
theorem rows_flat (W : Nat) : ∀ (H : Nat) (ks : List Int), W * H = ks.length → ((List.range H).map (rowOf W ks)).flatten = ks
  | 0, ks, h => by
    have : ks = [] := List.length_eq_zero_iff.1 (by rw [← h]; rfl)
    subst this; rfl
  | H + 1, ks, h => by
    rw [range_cut, List.flatten_cons, rowOf_zero]
    have e : (fun y => rowOf W ks (y + 1)) = rowOf W (ks.drop W) := by funext y; exact rowOf_succ W ks y
    rw [Nat.mul_add, Nat.mul_one] at h
    rw [e, rows_flat W H (ks.drop W) (by rw [List.length_drop]; omega), List.take_append_drop]
theorem smp_inj {x : Nat} {k l : Int} (h : Smp x k) (h' : Smp x l) : k = l := by
  have h1 := Smp.order h h'
  have h2 := Smp.order h h
  rw [h1] at h2
  have h3 : compare k l = compare k k := Option.some.inj h2
  have h4 : compare k k = .eq := by simp
  rw [h4] at h3
  simpa using h3
theorem smpErr_small {x : Nat} {k : Int} (h : Smp x k) (hk : k.natAbs ≤ 16384) : smpErr x = 0 := by
  obtain ⟨s, hn, -, -⟩ := h
  rw [smpErr_num hn]
  have h1 : k.natAbs * 2 ^ 145 ≤ 1024 * 2 ^ 149 := by
    have e2 : 1024 * 2 ^ 149 = 16384 * 2 ^ 145 := by decide +kernel
    rw [e2]; exact Nat.mul_le_mul_right _ hk
  rw [if_pos ⟨h1, Nat.mul_mod_left _ _⟩]
theorem firstNZ_zero : ∀ {l : List Int}, (∀ x ∈ l, x = 0) → firstNZ l = 0
  | [], _ => rfl
  | x :: r, h => by
    have h1 := h x (List.mem_cons.2 (.inl rfl))
    have ih := firstNZ_zero (l := r) (fun y hy => h y (List.mem_cons.2 (.inr hy)))
    unfold firstNZ
    simp [h1, ih]
theorem mapErr_ok {W H : Int} {n : Nat} {ks : List Int} (hW : 1 ≤ W ∧ W ≤ 64) (hH : 1 ≤ H ∧ H ≤ 64) (ha : W * H = n) (hk : ∀ k ∈ ks, k.natAbs ≤ 16384) : mapErr W H n (ks.map smpOf) = 0 := by
  unfold mapErr
  have h1 : firstNZ [rangeErr W 1 64, rangeErr H 1 64] = 0 := by
    refine firstNZ_zero (fun x hx => ?_)
    simp at hx
    rcases hx with rfl | rfl
    · unfold rangeErr; simp; omega
    · unfold rangeErr; simp; omega
  rw [if_pos h1, if_pos ha]
  refine firstNZ_zero (fun x hx => ?_)
  obtain ⟨y, hy, rfl⟩ := List.mem_map.1 hx
  obtain ⟨k, hk', rfl⟩ := List.mem_map.1 hy
  have := hk k hk'
  exact smpErr_small (smpOf_smp k (by omega)) this
theorem kOf_smpOf {k : Int} (hk : k.natAbs ≤ 16384) : kOf (smpOf k) = k :=
  smp_inj (smp_kOf (smpErr_small (smpOf_smp k (by omega)) hk)).1 (smpOf_smp k (by omega))
theorem kOf_smps : ∀ {ks : List Int}, (∀ k ∈ ks, k.natAbs ≤ 16384) → (ks.map smpOf).map kOf = ks
  | [], _ => rfl
  | k :: r, h => by rw [List.map_cons, List.map_cons, kOf_smpOf (h k (List.mem_cons.2 (.inl rfl))), kOf_smps (fun y hy => h y (List.mem_cons.2 (.inr hy)))]

/-- The printed text of a right map is read as it. -/
theorem text_reads {W H : Nat} {ks : List Int} (hW : 1 ≤ W ∧ W ≤ 64) (hH : 1 ≤ H ∧ H ≤ 64) (ha : W * H = ks.length) (hk : ∀ k ∈ ks, k.natAbs ≤ 16384) : ParseR (linesL (strB (textL W H ks))) 0 0 W H ks := by
  obtain ⟨hP, hl⟩ := text_heads W H ks
  have hL : linesL (strB (textL W H ks)) = (partsL W H H ks).map (fun p => strB (p ++ [10])) := by unfold linesL; rw [if_pos hl, hP]
  have hm : H * W ≤ ks.length := by rw [Nat.mul_comm]; omega
  have hlen : (linesL (strB (textL W H ks))).length = H + 1 := by rw [hL, List.length_map, parts_len]
  have hat : ∀ (j : Nat) (x : ByteArray), (linesL (strB (textL W H ks)))[j]? = some x → ∃ p : List UInt8, (partsL W H H ks)[j]? = some p ∧ x = strB (p ++ [10]) := by
    intro j x hx
    rw [hL, List.getElem?_map] at hx
    cases hp : (partsL W H H ks)[j]? with
    | none => rw [hp] at hx; cases hx
    | some p => rw [hp] at hx; exact ⟨p, rfl, (Option.some.inj hx).symm⟩
  have h0 : (linesL (strB (textL W H ks)))[0]? = some (strB (bareL (listB (kindW 0)) [(W : Int), (H : Int)] ++ [10])) := by rw [hL]; rfl
  have h0v := (part_ok (H := H) (m := H) hW hH.2 hm hk (j := 0) (p := bareL (listB (kindW 0)) [(W : Int), (H : Int)]) rfl).2
  rw [if_pos rfl] at h0v
  have hwid : widR (linesL (strB (textL W H ks))) = W := by unfold widR; rw [h0]; show (intsV (tailL _))[0]?.getD 0 = _; rw [h0v]; rfl
  have hhei : heiR (linesL (strB (textL W H ks))) = H := by unfold heiR; rw [h0]; show (intsV (tailL _))[1]?.getD 0 = _; rw [h0v]; rfl
  have hrows : rowsR (linesL (strB (textL W H ks))) = (List.range H).map (rowOf W ks) := by
    unfold rowsR
    apply List.ext_getElem?
    intro y
    rw [List.getElem?_map, List.getElem?_drop, List.getElem?_map, hL, List.getElem?_map]
    by_cases hy : y < H
    · have hp : (partsL W H H ks)[1 + y]? = some (bareL (listB (kindW 1)) (rowOf W ks y)) := by
        unfold partsL rowParts
        rw [Nat.add_comm, List.getElem?_cons_succ, List.getElem?_map, List.getElem?_range hy]; rfl
      have h2 := (part_ok (H := H) hW hH.2 hm hk hp).2
      rw [if_neg (by omega), Nat.add_sub_cancel_left] at h2
      rw [hp, List.getElem?_range hy]
      show some (intsV (tailL _)) = some _
      rw [h2]
    · rw [List.getElem?_eq_none (by rw [parts_len]; omega), List.getElem?_eq_none (l := List.range H) (by simp; omega)]; rfl
  have hasm : asmErr W H ((List.range H).map (rowOf W ks)) = 0 := by
    unfold asmErr
    rw [if_pos ⟨by simp, fun r hr => by
      obtain ⟨y, hy, rfl⟩ := List.mem_map.1 hr
      have hy' := List.mem_range.1 hy
      have h2 : (y + 1) * W ≤ H * W := Nat.mul_le_mul_right W (by omega)
      rw [Nat.add_mul, Nat.one_mul] at h2
      rw [rowOf_len W ks y (by omega)]⟩, rows_flat W H ks ha]
    have hlg : largeErr ks.length ks = 0 := by
      unfold largeErr
      rw [if_pos (fun j hj => by rw [List.getElem?_eq_getElem hj]; exact hk _ (List.getElem_mem _))]
    unfold cellErr
    rw [if_pos hlg]
    exact mapErr_ok (by omega) (by omega) (by rw [← ha]; simp) hk
  refine .inr (.inr ⟨by omega, fun j x _ hx => ?_, hwid.symm, hhei.symm, ?_, ?_, ?_⟩)
  · obtain ⟨p, hp, rfl⟩ := hat j x hx
    exact (part_ok hW hH.2 hm hk hp).1
  · rw [hrows, rows_flat W H ks ha]
  · rw [hwid, hhei, hrows, hasm]
  · rw [hwid, hhei, hrows, hasm, if_pos rfl]
end Go.Proofs.YtpmjiifdnnhecaaGreatDoor

/-
  Streams: the bytes of a right map's stream, whole and without the last one, as Unpack takes them.
-/

namespace Go.Proofs.YtpmjiifdnnhecaaGreatDoor
open Go.RowKit
set_option linter.unusedVariables false
set_option linter.unusedSimpArgs false

theorem num_word {v : Int} (h0 : 0 ≤ v) (h1 : v ≤ 4294967295) : numOf (wordOf v) = v := by
  unfold numOf wordOf byt
  simp only [List.foldl_cons, List.foldl_nil]
  omega
theorem packS_len (W H : Nat) (ks : List Int) : (packS W H ks).length = 6 + 4 * ks.length := by
  unfold packS; rw [List.length_append, packBody_len]; rfl
theorem packLen (W H : Nat) (ks : List Int) : (packL W H ks).length = 10 + 4 * ks.length := by
  unfold packL; rw [List.length_append, packS_len]
  have : (wordOf (chkOf (packS W H ks))).length = 4 := rfl
  omega
theorem body_word (T : List Int) : ∀ (ks : List Int) (i : Nat), i < ks.length → ((packBody ks ++ T).drop (4 * i)).take 4 = wordOf (smpOf (ks[i]?.getD 0))
  | [], i, h => by simp at h
  | k :: r, 0, _ => by
    have e : packBody (k :: r) = wordOf (smpOf k) ++ packBody r := by unfold packBody; rw [List.flatMap_cons]
    rw [e]; rfl
  | k :: r, i + 1, h => by
    have ih := body_word T r i (by simp at h; omega)
    have e : packBody (k :: r) = wordOf (smpOf k) ++ packBody r := by unfold packBody; rw [List.flatMap_cons]
    have hd : (wordOf (smpOf k) ++ packBody r ++ T).drop (4 + 4 * i) = (packBody r ++ T).drop (4 * i) := by rw [← List.drop_drop]; rfl
    rw [e, show 4 * (i + 1) = 4 + 4 * i by omega, hd, ih]; rfl
theorem smpOf_not_neg {k : Int} (hk : k.natAbs ≤ 16384) : smpOf k ≠ 2147483648 := fun h => by
  have h1 := smpOf_smp k (by omega)
  have h0 := smpOf_smp 0 (by decide)
  rw [smpOf_zero] at h0
  have h2 := Smp.order h1 h0
  rw [h] at h2
  have h3 : Ieee.single.order 2147483648 0 = some .eq := by decide +kernel
  rw [h3] at h2
  have h4 : compare k 0 = .eq := (Option.some.inj h2).symm
  have h5 : k = 0 := by simpa using h4
  subst h5
  rw [smpOf_zero] at h
  exact absurd h (by decide)
theorem smpOf_w (n : Int) (hn : n.natAbs < 2 ^ 24) : smpOf n < 2 ^ 32 := by
  have := floatBits_wf (smpOf_run n hn)
  simpa [Lit.wf] using this
theorem pack_W (W H : Nat) (ks : List Int) : unW (packL W H ks) = (W : Int) ∧ unH (packL W H ks) = (H : Int) ∧ unN (packL W H ks) = W * H := by
  have h1 : unW (packL W H ks) = (W : Int) := rfl
  have h2 : unH (packL W H ks) = (H : Int) := rfl
  refine ⟨h1, h2, ?_⟩
  unfold unN; rw [h1, h2, Int.toNat_natCast, Int.toNat_natCast]
theorem pack_Xs {W H : Nat} {ks : List Int} (ha : W * H = ks.length) (hk : ∀ k ∈ ks, k.natAbs ≤ 16384) : unXs (packL W H ks) = ks.map smpOf := by
  unfold unXs
  rw [(pack_W W H ks).2.2, ha]
  apply List.ext_getElem?
  intro i
  rw [List.getElem?_map, List.getElem?_map]
  by_cases hi : i < ks.length
  · rw [List.getElem?_range hi, List.getElem?_eq_getElem hi]
    show some (wordAt (packL W H ks) i) = some (smpOf ks[i])
    have hki := hk _ (List.getElem_mem hi)
    have hw := smpOf_w ks[i] (by omega)
    have e : quad (packL W H ks) i = wordOf (smpOf ks[i]) := by
      have h := body_word (wordOf (chkOf (packS W H ks))) ks i hi
      rw [List.getElem?_eq_getElem hi] at h
      have hd : (packL W H ks).drop (6 + 4 * i) = (packBody ks ++ wordOf (chkOf (packS W H ks))).drop (4 * i) := by rw [← List.drop_drop]; rfl
      unfold quad
      rw [hd]; exact h
    unfold wordAt
    rw [e, num_word (by omega) (by omega), Int.toNat_natCast]
  · rw [List.getElem?_eq_none (by simp; omega), List.getElem?_eq_none (by omega)]; rfl
/-- The stream of a right map has no error, and gives the map back. -/
theorem pack_reads {W H : Nat} {ks : List Int} (hW : 1 ≤ W ∧ W ≤ 64) (hH : 1 ≤ H ∧ H ≤ 64) (ha : W * H = ks.length) (hk : ∀ k ∈ ks, k.natAbs ≤ 16384) : unErr (packL W H ks) = 0 ∧ unL (packL W H ks) = ks := by
  obtain ⟨e1, e2, e3⟩ := pack_W W H ks
  have hx := pack_Xs ha hk
  have hend : unEnd (packL W H ks) = (packS W H ks).length := by unfold unEnd; rw [e3, packS_len, ha]
  have hl := packLen W H ks
  have hc := chk_bd (packS W H ks)
  have h0 : unErr0 (packL W H ks) = 0 := by
    unfold unErr0
    have hm : ¬ ((packL W H ks).take 4 ≠ magicL) := fun h => h rfl
    have hd : (packL W H ks).drop (unEnd (packL W H ks)) = wordOf (chkOf (packS W H ks)) := by rw [hend]; unfold packL; exact List.drop_left
    have ht : (packL W H ks).take (unEnd (packL W H ks)) = packS W H ks := by rw [hend]; unfold packL; exact List.take_left
    rw [if_neg (by omega), if_neg hm, if_neg (by omega), if_neg (by rw [hend, packS_len]; omega), if_neg (by rw [hend, packS_len]; omega), hd, ht, num_word hc.1 (by omega), if_neg (fun h => h rfl)]
  refine ⟨?_, by unfold unL; rw [hx]; exact kOf_smps hk⟩
  unfold unErr
  have h1 : mapErr (unW (packL W H ks)) (unH (packL W H ks)) (unN (packL W H ks)) (unXs (packL W H ks)) = 0 := by
    rw [e1, e2, e3, hx]
    exact mapErr_ok (by omega) (by omega) (by simp) hk
  rw [if_pos h0, if_pos h1, hx]
  refine firstNZ_zero (fun x hx => ?_)
  obtain ⟨y, hy, rfl⟩ := List.mem_map.1 hx
  obtain ⟨k, hk', rfl⟩ := List.mem_map.1 hy
  unfold zeroErr
  rw [if_neg (smpOf_not_neg (hk k hk'))]
theorem pack_bytes {W H : Nat} {ks : List Int} (hW : W ≤ 64) (hH : H ≤ 64) : BytesV (packL W H ks) (10 + 4 * ks.length) := by
  refine ⟨packLen W H ks, fun v hv => ?_⟩
  unfold packL at hv
  rcases List.mem_append.1 hv with h | h
  · exact byte_bd hW hH v h
  · unfold wordOf at h
    simp at h
    rcases h with rfl | rfl | rfl | rfl <;> exact byt_bd _ _
end Go.Proofs.YtpmjiifdnnhecaaGreatDoor
