/-
  Texts: what a number's word is (natP, digV), and the reference's Digits and Signed of every string.
-/
import Derived.LoopTactic
import Derived.Test.YtpmjiifdnnhecaaGreatDoorOaaWc
import Derived.Stop.BytesEq
import Derived.Deep.MidRow
import Derived.Test.YtpmjiifdnnhecaaGreatDoorOaaWk
namespace Go.Proofs.YtpmjiifdnnhecaaGreatDoor
open Go.RowKit
set_option linter.unusedVariables false
set_option linter.unusedSimpArgs false

/-- The byte at a place, 0 behind the end. -/
def byteI (s : ByteArray) (k : Nat) : Int := if h : k < s.size then ((s[k]'h).toNat : Int) else 0
theorem byteI_at {s : ByteArray} {k : Nat} (h : k < s.size) : byteI s k = ((s[k]'h).toNat : Int) := by unfold byteI; rw [dif_pos h]
/-- A byte of a digit. -/
def dgt (c : Int) : Prop := 48 ≤ c ∧ c ≤ 57
/-- The integer of the first so many digits. -/
def digV (s : ByteArray) : Nat → Int
  | 0 => 0
  | k + 1 => 10 * digV s k + (byteI s k - 48)
/-- The first so many places are digits. -/
def digTo (s : ByteArray) (k : Nat) : Prop := ∀ i, i < k → dgt (byteI s i)
/-- A word of one to nine digits without a leading zero. -/
def natP (s : ByteArray) : Prop := 1 ≤ s.size ∧ s.size ≤ 9 ∧ (byteI s 0 = 48 → s.size = 1) ∧ digTo s s.size
open Classical in
noncomputable def natB (s : ByteArray) : Bool := decide (natP s)
open Classical in
noncomputable def natV (s : ByteArray) : Int := if natP s then digV s s.size else 0
/-- What Digits answers. -/
noncomputable def natR (s : ByteArray) : Value := .tuple #[.int .i64 (natV s), .bool (natB s)]
theorem natR_yes {s : ByteArray} (h : natP s) : natR s = .tuple #[.int .i64 (digV s s.size), .bool true] := by unfold natR natB natV; simp [h]
theorem natR_no {s : ByteArray} (h : ¬ natP s) : natR s = .tuple #[.int .i64 0, .bool false] := by unfold natR natB natV; simp [h]

theorem digV_nonneg {s : ByteArray} : ∀ k, digTo s k → 0 ≤ digV s k
  | 0, _ => by unfold digV; omega
  | k + 1, h => by
    have h1 := digV_nonneg k (fun i hi => h i (by omega))
    have h2 := h k (by omega)
    unfold dgt at h2
    unfold digV; omega
theorem digV_lt {s : ByteArray} : ∀ k, digTo s k → digV s k < 10 ^ k
  | 0, _ => by unfold digV; decide
  | k + 1, h => by
    have h1 := digV_lt k (fun i hi => h i (by omega))
    have h2 := h k (by omega)
    unfold dgt at h2
    unfold digV
    rw [Int.pow_succ]; omega
theorem pow_le {k : Nat} : ∀ d, (10 : Int) ^ k ≤ 10 ^ (k + d)
  | 0 => Int.le_refl _
  | d + 1 => by
    have := pow_le (k := k) d
    have h0 : (0 : Int) < 10 ^ (k + d) := Int.pow_pos (by decide)
    rw [← Nat.add_assoc, Int.pow_succ]; omega
theorem digV_small {s : ByteArray} {k : Nat} (hk : k ≤ 9) (h : digTo s k) : 0 ≤ digV s k ∧ digV s k < 1000000000 := by
  refine ⟨digV_nonneg k h, ?_⟩
  have h1 := digV_lt k h
  have h2 := pow_le (k := k) (9 - k)
  rw [Nat.add_sub_cancel' hk] at h2
  have h3 : (10 : Int) ^ 9 = 1000000000 := by decide
  omega
theorem digTo_step {s : ByteArray} {k : Nat} (h : k < s.size) (hd : digTo s k) (h1 : 48 ≤ ((s[k]'h).toNat : Int)) (h2 : ((s[k]'h).toNat : Int) ≤ 57) : digTo s (k + 1) := fun i hi => by
  by_cases e : i = k
  · subst e; unfold dgt; rw [byteI_at h]; exact ⟨h1, h2⟩
  · exact hd i (by omega)
theorem not_dgt {s : ByteArray} {k : Nat} (h : k < s.size) (h1 : ((s[k]'h).toNat : Int) < 48 ∨ 57 < ((s[k]'h).toNat : Int)) : ¬ natP s := fun hp => by
  have := hp.2.2.2 k h
  unfold dgt at this; rw [byteI_at h] at this; omega
theorem ret_nat {s : ByteArray} {a b : Value} (h : natR s = .tuple #[a, b]) : Ending.returned (.tuple #[a, b]) = .returned (natR s) := by rw [h]

theorem empty_list (s : ByteArray) : s.toList.isEmpty = decide (s.size = 0) := by
  rw [ByteArray.toList_eq]
  cases s with | mk d =>
    cases d with | mk l => cases l <;> simp [ByteArray.size]

/-- The word behind a sign. -/
def restB (s : ByteArray) : ByteArray := s.extract 1 s.size
theorem restB_size {s : ByteArray} (h : 0 < s.size) : (restB s).size = s.size - 1 := by unfold restB; rw [ByteArray.size_extract]; omega
/-- A word with a sign. -/
def minusP (s : ByteArray) : Prop := 1 ≤ s.size ∧ byteI s 0 = 45
open Classical in
noncomputable def intB (s : ByteArray) : Bool := if minusP s then natB (restB s) && !(natV (restB s) == 0) else natB s
open Classical in
noncomputable def intV (s : ByteArray) : Int := if minusP s then -natV (restB s) else natV s
/-- What Signed answers. -/
noncomputable def intR (s : ByteArray) : Value := .tuple #[.int .i64 (if intB s then intV s else 0), .bool (intB s)]
theorem natV_no {s : ByteArray} (h : natB s = false) : natV s = 0 := by
  unfold natB at h; unfold natV; rw [if_neg (by simpa using h)]
theorem intR_plain {s : ByteArray} (h : ¬ minusP s) : intR s = natR s := by
  unfold intR intB intV natR
  rw [if_neg h, if_neg h]
  cases e : natB s
  · rw [natV_no e]; rfl
  · rfl
theorem intR_minus {s : ByteArray} (h : minusP s) (h1 : natB (restB s) = true) (h2 : natV (restB s) ≠ 0) : intR s = .tuple #[.int .i64 (-natV (restB s)), .bool true] := by
  unfold intR intB intV
  rw [if_pos h, if_pos h, h1]; simp [h2]
theorem intR_no {s : ByteArray} (h : minusP s) (h1 : natB (restB s) = false ∨ natV (restB s) = 0) : intR s = .tuple #[.int .i64 0, .bool false] := by
  unfold intR intB intV
  rw [if_pos h, if_pos h]; rcases h1 with h1 | h1 <;> simp [h1]
theorem natV_small (s : ByteArray) : 0 ≤ natV s ∧ natV s < 1000000000 := by
  unfold natV
  by_cases h : natP s
  · rw [if_pos h]; exact digV_small h.2.1 h.2.2.2
  · rw [if_neg h]; omega

end Go.Proofs.YtpmjiifdnnhecaaGreatDoor

/-
  Texts: the pieces of a string between bytes (splitL), and the reference's Split of every string.
-/
namespace Go.Proofs.YtpmjiifdnnhecaaGreatDoor
open Go.RowKit
set_option linter.unusedVariables false
set_option linter.unusedSimpArgs false

/-- The pieces that end among the first so many bytes, and where the next one begins. -/
def splitTo (s : ByteArray) (c : Int) : Nat → List ByteArray × Nat
  | 0 => ([], 0)
  | k + 1 => if byteI s k = c then ((splitTo s c k).1 ++ [s.extract (splitTo s c k).2 k], k + 1) else splitTo s c k
def splitL (s : ByteArray) (c : Int) : List ByteArray := (splitTo s c s.size).1 ++ [s.extract (splitTo s c s.size).2 s.size]
theorem splitTo_hit {s : ByteArray} {c : Int} {k : Nat} (h : byteI s k = c) : splitTo s c (k + 1) = ((splitTo s c k).1 ++ [s.extract (splitTo s c k).2 k], k + 1) := by
  show (if byteI s k = c then _ else _) = _
  rw [if_pos h]
theorem splitTo_miss {s : ByteArray} {c : Int} {k : Nat} (h : byteI s k ≠ c) : splitTo s c (k + 1) = splitTo s c k := by
  show (if byteI s k = c then _ else _) = _
  rw [if_neg h]
theorem splitTo_le (s : ByteArray) (c : Int) : ∀ k, (splitTo s c k).2 ≤ k ∧ (splitTo s c k).1.length ≤ k
  | 0 => ⟨Nat.le_refl _, Nat.le_refl _⟩
  | k + 1 => by
    have h := splitTo_le s c k
    by_cases e : byteI s k = c
    · rw [splitTo_hit e]; simp; omega
    · rw [splitTo_miss e]; omega

end Go.Proofs.YtpmjiifdnnhecaaGreatDoor

/-
  Texts: the reference's parsed: the integers of a line, of every string.
-/

namespace Go.Proofs.YtpmjiifdnnhecaaGreatDoor
open Go.RowKit
set_option linter.unusedVariables false
set_option linter.unusedSimpArgs false

theorem intR_yes {s : ByteArray} (h : intB s = true) : intR s = .tuple #[.int .i64 (intV s), .bool true] := by unfold intR; rw [h]; simp
theorem intR_bad {s : ByteArray} (h : intB s = false) : intR s = .tuple #[.int .i64 0, .bool false] := by unfold intR; rw [h]; simp
theorem splitL_len (s : ByteArray) (c : Int) : 1 ≤ (splitL s c).length ∧ (splitL s c).length ≤ s.size + 1 := by
  unfold splitL
  have := (splitTo_le s c s.size).2
  simp; omega

def mapW : ByteArray := ⟨#[109, 97, 112]⟩
def rowW : ByteArray := ⟨#[114, 111, 119]⟩
theorem bytes_eq {a b : ByteArray} : (a.toList == b.toList) = decide (a = b) := by
  by_cases h : a = b
  · subst h; simp
  · rw [decide_eq_false h]
    simp only [beq_eq_false_iff_ne, ne_eq, ByteArray.toList_eq]
    intro e; apply h
    cases a with | mk a => cases b with | mk b =>
      simp at e; rw [e]
end Go.Proofs.YtpmjiifdnnhecaaGreatDoor

/-
  Texts: the pieces of a list of bytes, and the reference's pieces (splitL).
-/

namespace Go.Proofs.YtpmjiifdnnhecaaGreatDoor
open Go.RowKit
set_option linter.unusedVariables false
set_option linter.unusedSimpArgs false

/-- The pieces of bytes between those of one kind. -/
def pieces (c : UInt8) : List UInt8 → List (List UInt8)
  | [] => [[]]
  | b :: r => if b = c then [] :: pieces c r else
    match pieces c r with
    | [] => [[b]]
    | p :: ps => (b :: p) :: ps
theorem pieces_ex (c : UInt8) (l : List UInt8) : ∃ P q, pieces c l = P ++ [q] := by
  have h : pieces c l ≠ [] := by
    cases l with
    | nil => simp [pieces]
    | cons b r =>
      unfold pieces
      split
      · simp
      · split <;> simp
  exact ⟨_, _, (List.dropLast_concat_getLast h).symm⟩
theorem snoc_inj {α : Type} {P P' : List α} {q q' : α} (h : P ++ [q] = P' ++ [q']) : P = P' ∧ q = q' := by
  have := List.append_inj' h rfl
  exact ⟨this.1, by simpa using this.2⟩
theorem pieces_snoc (c b : UInt8) : ∀ (l : List UInt8) P q, pieces c l = P ++ [q] → pieces c (l ++ [b]) = if b = c then P ++ [q, []] else P ++ [q ++ [b]] := by
  intro l
  induction l with
  | nil =>
    intro P q h
    have h : ([] : List (List UInt8)) ++ [[]] = P ++ [q] := h
    obtain ⟨rfl, rfl⟩ := snoc_inj h
    by_cases e : b = c <;> simp [pieces, e]
  | cons a r ih =>
    intro P q h
    obtain ⟨P', q', h'⟩ := pieces_ex c r
    have ih := ih P' q' h'
    by_cases ea : a = c
    · have h1 : pieces c (a :: r) = ([] :: P') ++ [q'] := by show (if a = c then _ else _) = _; rw [if_pos ea, h']; rfl
      obtain ⟨rfl, rfl⟩ := snoc_inj (h1.symm.trans h)
      show (if a = c then [] :: pieces c (r ++ [b]) else _) = _
      rw [if_pos ea, ih]
      by_cases e : b = c <;> simp [e]
    · cases P' with
      | nil =>
        have h1 : pieces c (a :: r) = [] ++ [a :: q'] := by show (if a = c then _ else _) = _; rw [if_neg ea, h']; rfl
        obtain ⟨rfl, rfl⟩ := snoc_inj (h1.symm.trans h)
        show (if a = c then _ else match pieces c (r ++ [b]) with | [] => [[a]] | p :: ps => (a :: p) :: ps) = _
        rw [if_neg ea, ih]
        by_cases e : b = c <;> simp [e]
      | cons p P'' =>
        have h1 : pieces c (a :: r) = ((a :: p) :: P'') ++ [q'] := by show (if a = c then _ else _) = _; rw [if_neg ea, h']; rfl
        obtain ⟨rfl, rfl⟩ := snoc_inj (h1.symm.trans h)
        show (if a = c then _ else match pieces c (r ++ [b]) with | [] => [[a]] | p :: ps => (a :: p) :: ps) = _
        rw [if_neg ea, ih]
        by_cases e : b = c <;> simp [e]

def listB (s : ByteArray) : List UInt8 := s.data.toList
theorem listB_len (s : ByteArray) : (listB s).length = s.size := by unfold listB; rw [Array.length_toList]; rfl
theorem listB_extract (s : ByteArray) (f k : Nat) : listB (s.extract f k) = ((listB s).take k).drop f := by
  unfold listB
  rw [ByteArray.data_extract, Array.toList_extract, List.drop_take]
theorem byteI_list {s : ByteArray} {k : Nat} (h : k < s.size) : ∃ b, (listB s)[k]? = some b ∧ byteI s k = (b.toNat : Int) := by
  refine ⟨s[k]'h, ?_, byteI_at h⟩
  unfold listB
  rw [List.getElem?_eq_getElem (by rw [Array.length_toList]; exact h), Array.getElem_toList]
  rfl
theorem splitTo_pieces (s : ByteArray) (c : UInt8) : ∀ k, k ≤ s.size → pieces c ((listB s).take k) = (splitTo s (c.toNat : Int) k).1.map listB ++ [((listB s).take k).drop (splitTo s (c.toNat : Int) k).2]
  | 0, _ => rfl
  | k + 1, h => by
    have ih := splitTo_pieces s c k (by omega)
    obtain ⟨b, hb, hbi⟩ := byteI_list (s := s) (k := k) (by omega)
    have ht : (listB s).take (k + 1) = (listB s).take k ++ [b] := by rw [List.take_add_one, hb]; rfl
    have hp := pieces_snoc c b _ _ _ ih
    rw [ht, hp]
    by_cases e : b = c
    · rw [if_pos e, splitTo_hit (by rw [hbi, e]), List.map_append, List.map_singleton, listB_extract, List.append_assoc]
      have hl : ((listB s).take k ++ [b]).drop (k + 1) = [] := List.drop_eq_nil_of_le (by rw [List.length_append, List.length_take, listB_len]; simp; omega)
      rw [hl]; rfl
    · have hne : byteI s k ≠ (c.toNat : Int) := by
        rw [hbi]; intro h'
        exact e (UInt8.toNat_inj.1 (by omega))
      have hf := (splitTo_le s (c.toNat : Int) k).1
      rw [if_neg e, splitTo_miss hne, List.drop_append_of_le_length (by rw [List.length_take, listB_len]; omega)]
/-- The reference's pieces. -/
theorem splitL_pieces (s : ByteArray) (c : UInt8) : (splitL s (c.toNat : Int)).map listB = pieces c (listB s) := by
  have h := splitTo_pieces s c s.size (Nat.le_refl _)
  rw [List.take_of_length_le (by rw [listB_len]; exact Nat.le_refl _)] at h
  unfold splitL
  rw [h, List.map_append, List.map_singleton, listB_extract, List.take_of_length_le (by rw [listB_len]; exact Nat.le_refl _)]
end Go.Proofs.YtpmjiifdnnhecaaGreatDoor
