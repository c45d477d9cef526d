/-
  Texts: what a number's word is (natP, digV), and the reference's Digits and Signed of every string.
-/
import Derived.LoopTactic
import Derived.Test.YtfdkmmllemkogaaGreatDoorOWa
import Derived.Test.YtfdkmmllemkogaaGreatDoorOWs
import Derived.Test.YtfdkmmllemkogaaGreatDoorOWk
import Derived.Lib.IndexMore
import Derived.Test.YtfdkmmllemkogaaGreatDoorOWp
import Derived.Laws.RangeString
import Derived.Laws.RangeAny
namespace Go.Proofs.YtfdkmmllemkogaaGreatDoor
open Go.RowKit
set_option linter.unusedVariables false
set_option linter.unusedSimpArgs false

/-- The byte at a place, 0 behind the end. -/
def byteI (s : ByteArray) (k : Nat) : Int := if h : k < s.size then ((s[k]'h).toNat : Int) else 0
theorem byteI_at {s : ByteArray} {k : Nat} (h : k < s.size) : byteI s k = ((s[k]'h).toNat : Int) := by unfold byteI; rw [dif_pos h]
/-- A byte of a digit. -/
def dgt (c : Int) : Prop := 48 ≤ c ∧ c ≤ 57
/-- The integer of the first so many digits. -/
def digV (s : ByteArray) : Nat → Int
  | 0 => 0
  | k + 1 => 10 * digV s k + (byteI s k - 48)
/-- The first so many places are digits. -/
def digTo (s : ByteArray) (k : Nat) : Prop := ∀ i, i < k → dgt (byteI s i)
/-- A word of one to nine digits without a leading zero. -/
def natP (s : ByteArray) : Prop := 1 ≤ s.size ∧ s.size ≤ 9 ∧ (byteI s 0 = 48 → s.size = 1) ∧ digTo s s.size
open Classical in
noncomputable def natB (s : ByteArray) : Bool := decide (natP s)
open Classical in
noncomputable def natV (s : ByteArray) : Int := if natP s then digV s s.size else 0
/-- What Digits answers. -/
noncomputable def natR (s : ByteArray) : Value := .tuple #[.int .i64 (natV s), .bool (natB s)]
theorem natR_yes {s : ByteArray} (h : natP s) : natR s = .tuple #[.int .i64 (digV s s.size), .bool true] := by unfold natR natB natV; simp [h]
theorem natR_no {s : ByteArray} (h : ¬ natP s) : natR s = .tuple #[.int .i64 0, .bool false] := by unfold natR natB natV; simp [h]

theorem digV_nonneg {s : ByteArray} : ∀ k, digTo s k → 0 ≤ digV s k
  | 0, _ => by unfold digV; omega
  | k + 1, h => by
    have h1 := digV_nonneg k (fun i hi => h i (by omega))
    have h2 := h k (by omega)
    unfold dgt at h2
    unfold digV; omega
theorem digV_lt {s : ByteArray} : ∀ k, digTo s k → digV s k < 10 ^ k
  | 0, _ => by unfold digV; decide
  | k + 1, h => by
    have h1 := digV_lt k (fun i hi => h i (by omega))
    have h2 := h k (by omega)
    unfold dgt at h2
    unfold digV
    rw [Int.pow_succ]; omega
theorem pow_le {k : Nat} : ∀ d, (10 : Int) ^ k ≤ 10 ^ (k + d)
  | 0 => Int.le_refl _
  | d + 1 => by
    have := pow_le (k := k) d
    have h0 : (0 : Int) < 10 ^ (k + d) := Int.pow_pos (by decide)
    rw [← Nat.add_assoc, Int.pow_succ]; omega
theorem digV_small {s : ByteArray} {k : Nat} (hk : k ≤ 9) (h : digTo s k) : 0 ≤ digV s k ∧ digV s k < 1000000000 := by
  refine ⟨digV_nonneg k h, ?_⟩
  have h1 := digV_lt k h
  have h2 := pow_le (k := k) (9 - k)
  rw [Nat.add_sub_cancel' hk] at h2
  have h3 : (10 : Int) ^ 9 = 1000000000 := by decide
  omega
theorem digTo_step {s : ByteArray} {k : Nat} (h : k < s.size) (hd : digTo s k) (h1 : 48 ≤ ((s[k]'h).toNat : Int)) (h2 : ((s[k]'h).toNat : Int) ≤ 57) : digTo s (k + 1) := fun i hi => by
  by_cases e : i = k
  · subst e; unfold dgt; rw [byteI_at h]; exact ⟨h1, h2⟩
  · exact hd i (by omega)
theorem not_dgt {s : ByteArray} {k : Nat} (h : k < s.size) (h1 : ((s[k]'h).toNat : Int) < 48 ∨ 57 < ((s[k]'h).toNat : Int)) : ¬ natP s := fun hp => by
  have := hp.2.2.2 k h
  unfold dgt at this; rw [byteI_at h] at this; omega
theorem ret_nat {s : ByteArray} {a b : Value} (h : natR s = .tuple #[a, b]) : Ending.returned (.tuple #[a, b]) = .returned (natR s) := by rw [h]

theorem empty_list (s : ByteArray) : s.toList.isEmpty = decide (s.size = 0) := by
  rw [ByteArray.toList_eq]
  cases s with | mk d =>
    cases d with | mk l => cases l <;> simp [ByteArray.size]

/-- The word behind a sign. -/
def restB (s : ByteArray) : ByteArray := s.extract 1 s.size
theorem restB_size {s : ByteArray} (h : 0 < s.size) : (restB s).size = s.size - 1 := by unfold restB; rw [ByteArray.size_extract]; omega
/-- A word with a sign. -/
def minusP (s : ByteArray) : Prop := 1 ≤ s.size ∧ byteI s 0 = 45
open Classical in
noncomputable def intB (s : ByteArray) : Bool := if minusP s then natB (restB s) && !(natV (restB s) == 0) else natB s
open Classical in
noncomputable def intV (s : ByteArray) : Int := if minusP s then -natV (restB s) else natV s
/-- What Signed answers. -/
noncomputable def intR (s : ByteArray) : Value := .tuple #[.int .i64 (if intB s then intV s else 0), .bool (intB s)]
theorem natV_no {s : ByteArray} (h : natB s = false) : natV s = 0 := by
  unfold natB at h; unfold natV; rw [if_neg (by simpa using h)]
theorem intR_plain {s : ByteArray} (h : ¬ minusP s) : intR s = natR s := by
  unfold intR intB intV natR
  rw [if_neg h, if_neg h]
  cases e : natB s
  · rw [natV_no e]; rfl
  · rfl
theorem intR_minus {s : ByteArray} (h : minusP s) (h1 : natB (restB s) = true) (h2 : natV (restB s) ≠ 0) : intR s = .tuple #[.int .i64 (-natV (restB s)), .bool true] := by
  unfold intR intB intV
  rw [if_pos h, if_pos h, h1]; simp [h2]
theorem intR_no {s : ByteArray} (h : minusP s) (h1 : natB (restB s) = false ∨ natV (restB s) = 0) : intR s = .tuple #[.int .i64 0, .bool false] := by
  unfold intR intB intV
  rw [if_pos h, if_pos h]; rcases h1 with h1 | h1 <;> simp [h1]
theorem natV_small (s : ByteArray) : 0 ≤ natV s ∧ natV s < 1000000000 := by
  unfold natV
  by_cases h : natP s
  · rw [if_pos h]; exact digV_small h.2.1 h.2.2.2
  · rw [if_neg h]; omega

end Go.Proofs.YtfdkmmllemkogaaGreatDoor

/-
  Texts: the pieces of a string between bytes (splitL), and the reference's Split of every string.
-/

namespace Go.Proofs.YtfdkmmllemkogaaGreatDoor
open Go.RowKit
set_option linter.unusedVariables false
set_option linter.unusedSimpArgs false

/-- The pieces that end among the first so many bytes, and where the next one begins. -/
def splitTo (s : ByteArray) (c : Int) : Nat → List ByteArray × Nat
  | 0 => ([], 0)
  | k + 1 => if byteI s k = c then ((splitTo s c k).1 ++ [s.extract (splitTo s c k).2 k], k + 1) else splitTo s c k
def splitL (s : ByteArray) (c : Int) : List ByteArray := (splitTo s c s.size).1 ++ [s.extract (splitTo s c s.size).2 s.size]
theorem splitTo_hit {s : ByteArray} {c : Int} {k : Nat} (h : byteI s k = c) : splitTo s c (k + 1) = ((splitTo s c k).1 ++ [s.extract (splitTo s c k).2 k], k + 1) := by
  show (if byteI s k = c then _ else _) = _
  rw [if_pos h]
theorem splitTo_miss {s : ByteArray} {c : Int} {k : Nat} (h : byteI s k ≠ c) : splitTo s c (k + 1) = splitTo s c k := by
  show (if byteI s k = c then _ else _) = _
  rw [if_neg h]
theorem splitTo_le (s : ByteArray) (c : Int) : ∀ k, (splitTo s c k).2 ≤ k ∧ (splitTo s c k).1.length ≤ k
  | 0 => ⟨Nat.le_refl _, Nat.le_refl _⟩
  | k + 1 => by
    have h := splitTo_le s c k
    by_cases e : byteI s k = c
    · rw [splitTo_hit e]; simp; omega
    · rw [splitTo_miss e]; omega

theorem Tryz.infoStrS : (Tryz.prog.info? 9).map (fun i => (i.zero, i.size, i.bytes)) = some (some (.string ⟨#[]⟩), 1, 16) := by kernel_rfl

set_option maxRecDepth 100000 in
set_option maxHeartbeats 3200000 in
theorem refSplit_any (s : ByteArray) (c : Int) (w : World) (hm : s.size ≤ 1099511627776) (hc0 : 0 ≤ c) (hc1 : c ≤ 255) :
    Calls Tryz.prog 102 #[.string s, .int .u8 c] w fun e w' => ∃ u, e = .returned u ∧ w'.ownsRow w.heap.size 9 1 u (splitL s c).length ((splitL s c).map Value.string) ∧ Below w.heap.size w w' := by
  obtain ⟨i0, hi, hz0, hz1, hz2⟩ := info_parts Tryz.infoStrS
  go_enter Tryz.func102, Tryz.ntmps102
  go_wp2
  go_loopw [5, 6, 7] (fun out f i wr => ∃ k : Nat, k ≤ s.size ∧ f = .int .i64 ((splitTo s c k).2 : Nat) ∧ i = .int .i64 k ∧ wr.ownsRow w.heap.size 9 1 out (splitTo s c k).1.length ((splitTo s c k).1.map Value.string) ∧ Below w.heap.size w wr)
    (fun _ _ i _ => s.size - (intOf i).toNat)
  case atStart => exact ⟨0, Nat.zero_le _, rfl, rfl, World.ownsRow_nil _ _ _ _, Below.refl _ _⟩
  case round =>
    obtain ⟨k, hk, rfl, rfl, hown, hnx⟩ := hrel
    have hsz : w.heap.size ≤ wr.heap.size := hnx.size
    obtain ⟨l1, l2⟩ := splitTo_le s c k
    have hhit := Lib.hid (splitTo_hit (s := s) (c := c) (k := k))
    have hmiss := Lib.hid (splitTo_miss (s := s) (c := c) (k := k))
    have hend : k = s.size → splitL s c = (splitTo s c k).1 ++ [s.extract (splitTo s c k).2 s.size] := fun h => by rw [h]; rfl
    obtain ⟨L, hL⟩ : ∃ L, (splitTo s c k).1 = L := ⟨_, rfl⟩
    obtain ⟨f, hf⟩ : ∃ f, (splitTo s c k).2 = f := ⟨_, rfl⟩
    rw [hL] at l2 hown hend hhit
    rw [hf] at l1 hend hhit ⊢
    have HE := Lib.hid hend
    have HLF := Lib.hid (And.intro hL hf)
    clear hend hL hf
    by_cases hlt : k < s.size
    · have hb := byteI_at hlt
      by_cases he : byteI s k = c
      · have HS := Lib.hid (hhit.out he)
        have e1 : (((s[k]'hlt).toNat : Int) == c) = true := by rw [← hb]; simp [he]
        clear hb he hhit hmiss HE
        go_wp2_with (at_builtin; refine wpList_append_own _ rfl (.tmp 19) (.tmp 24) 166 rfl w.heap.size 9 i0 (.string ⟨#[]⟩) 1 16 Tryz.underlying166 hi hz0 hz1 hz2 rfl (by decide) _ L.length _ rfl (hown.alloc _) ⟨wr.heap.size, 0, none⟩ 1 1 [.string (s.extract f k)] rfl rfl (cell_one_new _ _ _) (by intro u hu; simp at hu; subst hu; rfl) (by unfold maxLen; omega) (by omega) (by simp; omega) ?_; intro v' w3 hown3 hgrow3 _)
        have hlt' := hown.lt
        go_roundw
        case rel => exact ⟨k + 1, by omega, by rw [HS.out]; go_num, by go_num, by rw [HS.out]; simpa using hown3, (hnx.alloc hsz _).grown hgrow3 (by simp; omega) (fun q hq => (hlt' q hq).1)⟩
        case measure => first | (simp [intOf]; done) | (simp [intOf]; omega)
      · have HS := Lib.hid (hmiss.out he)
        have e1 : (((s[k]'hlt).toNat : Int) == c) = false := by rw [← hb]; simp [he]
        clear hb he hhit hmiss HE
        go_wp2
        go_roundw
        case rel => exact ⟨k + 1, by omega, by rw [HS.out, HLF.out.2], by go_num, by rw [HS.out, HLF.out.1]; exact hown, hnx⟩
        case measure => first | (simp [intOf]; done) | (simp [intOf]; omega)
    · have ek : k = s.size := by omega
      have HS := Lib.hid (HE.out ek)
      clear hhit hmiss HE
      go_wp2_with (at_builtin; refine wpList_append_own _ rfl (.tmp 28) (.tmp 32) 166 rfl w.heap.size 9 i0 (.string ⟨#[]⟩) 1 16 Tryz.underlying166 hi hz0 hz1 hz2 rfl (by decide) _ L.length _ rfl (hown.alloc _) ⟨wr.heap.size, 0, none⟩ 1 1 [.string (s.extract f s.size)] rfl rfl (cell_one_new _ _ _) (by intro u hu; simp at hu; subst hu; rfl) (by unfold maxLen; omega) (by omega) (by simp; omega) ?_; intro v' w3 hown3 hgrow3 _)
      have hlt' := hown.lt
      have HX := Lib.hid ((hnx.alloc hsz _).grown hgrow3 (by simp; omega) (fun q hq => (hlt' q hq).1))
      go_ret
      exact ⟨_, rfl, by rw [HS.out]; simpa using hown3, HX.out⟩
end Go.Proofs.YtfdkmmllemkogaaGreatDoor

/-
  Texts: the reference's parsed: the integers of a line, of every string.
-/

namespace Go.Proofs.YtfdkmmllemkogaaGreatDoor
open Go.RowKit
set_option linter.unusedVariables false
set_option linter.unusedSimpArgs false

theorem intR_yes {s : ByteArray} (h : intB s = true) : intR s = .tuple #[.int .i64 (intV s), .bool true] := by unfold intR; rw [h]; simp
theorem intR_bad {s : ByteArray} (h : intB s = false) : intR s = .tuple #[.int .i64 0, .bool false] := by unfold intR; rw [h]; simp
theorem splitL_len (s : ByteArray) (c : Int) : 1 ≤ (splitL s c).length ∧ (splitL s c).length ≤ s.size + 1 := by
  unfold splitL
  have := (splitTo_le s c s.size).2
  simp; omega

def mapW : ByteArray := ⟨#[109, 97, 112]⟩
def rowW : ByteArray := ⟨#[114, 111, 119]⟩
theorem bytes_eq {a b : ByteArray} : (a.toList == b.toList) = decide (a = b) := by
  by_cases h : a = b
  · subst h; simp
  · rw [decide_eq_false h]
    simp only [beq_eq_false_iff_ne, ne_eq, ByteArray.toList_eq]
    intro e; apply h
    cases a with | mk a => cases b with | mk b =>
      simp at e; rw [e]
end Go.Proofs.YtfdkmmllemkogaaGreatDoor

/-
  Texts: the pieces of a list of bytes, and the reference's pieces (splitL).
-/

namespace Go.Proofs.YtfdkmmllemkogaaGreatDoor
open Go.RowKit
set_option linter.unusedVariables false
set_option linter.unusedSimpArgs false

/-- The pieces of bytes between those of one kind. -/
def pieces (c : UInt8) : List UInt8 → List (List UInt8)
  | [] => [[]]
  | b :: r => if b = c then [] :: pieces c r else
    match pieces c r with
    | [] => [[b]]
    | p :: ps => (b :: p) :: ps
theorem pieces_ex (c : UInt8) (l : List UInt8) : ∃ P q, pieces c l = P ++ [q] := by
  have h : pieces c l ≠ [] := by
    cases l with
    | nil => simp [pieces]
    | cons b r =>
      unfold pieces
      split
      · simp
      · split <;> simp
  exact ⟨_, _, (List.dropLast_concat_getLast h).symm⟩
theorem snoc_inj {α : Type} {P P' : List α} {q q' : α} (h : P ++ [q] = P' ++ [q']) : P = P' ∧ q = q' := by
  have := List.append_inj' h rfl
  exact ⟨this.1, by simpa using this.2⟩
theorem pieces_snoc (c b : UInt8) : ∀ (l : List UInt8) P q, pieces c l = P ++ [q] → pieces c (l ++ [b]) = if b = c then P ++ [q, []] else P ++ [q ++ [b]] := by
  intro l
  induction l with
  | nil =>
    intro P q h
    have h : ([] : List (List UInt8)) ++ [[]] = P ++ [q] := h
    obtain ⟨rfl, rfl⟩ := snoc_inj h
    by_cases e : b = c <;> simp [pieces, e]
  | cons a r ih =>
    intro P q h
    obtain ⟨P', q', h'⟩ := pieces_ex c r
    have ih := ih P' q' h'
    by_cases ea : a = c
    · have h1 : pieces c (a :: r) = ([] :: P') ++ [q'] := by show (if a = c then _ else _) = _; rw [if_pos ea, h']; rfl
      obtain ⟨rfl, rfl⟩ := snoc_inj (h1.symm.trans h)
      show (if a = c then [] :: pieces c (r ++ [b]) else _) = _
      rw [if_pos ea, ih]
      by_cases e : b = c <;> simp [e]
    · cases P' with
      | nil =>
        have h1 : pieces c (a :: r) = [] ++ [a :: q'] := by show (if a = c then _ else _) = _; rw [if_neg ea, h']; rfl
        obtain ⟨rfl, rfl⟩ := snoc_inj (h1.symm.trans h)
        show (if a = c then _ else match pieces c (r ++ [b]) with | [] => [[a]] | p :: ps => (a :: p) :: ps) = _
        rw [if_neg ea, ih]
        by_cases e : b = c <;> simp [e]
      | cons p P'' =>
        have h1 : pieces c (a :: r) = ((a :: p) :: P'') ++ [q'] := by show (if a = c then _ else _) = _; rw [if_neg ea, h']; rfl
        obtain ⟨rfl, rfl⟩ := snoc_inj (h1.symm.trans h)
        show (if a = c then _ else match pieces c (r ++ [b]) with | [] => [[a]] | p :: ps => (a :: p) :: ps) = _
        rw [if_neg ea, ih]
        by_cases e : b = c <;> simp [e]

def listB (s : ByteArray) : List UInt8 := s.data.toList
theorem listB_len (s : ByteArray) : (listB s).length = s.size := by unfold listB; rw [Array.length_toList]; rfl
theorem listB_extract (s : ByteArray) (f k : Nat) : listB (s.extract f k) = ((listB s).take k).drop f := by
  unfold listB
  rw [ByteArray.data_extract, Array.toList_extract, List.drop_take]
theorem byteI_list {s : ByteArray} {k : Nat} (h : k < s.size) : ∃ b, (listB s)[k]? = some b ∧ byteI s k = (b.toNat : Int) := by
  refine ⟨s[k]'h, ?_, byteI_at h⟩
  unfold listB
  rw [List.getElem?_eq_getElem (by rw [Array.length_toList]; exact h), Array.getElem_toList]
  rfl
theorem splitTo_pieces (s : ByteArray) (c : UInt8) : ∀ k, k ≤ s.size → pieces c ((listB s).take k) = (splitTo s (c.toNat : Int) k).1.map listB ++ [((listB s).take k).drop (splitTo s (c.toNat : Int) k).2]
  | 0, _ => rfl
  | k + 1, h => by
    have ih := splitTo_pieces s c k (by omega)
    obtain ⟨b, hb, hbi⟩ := byteI_list (s := s) (k := k) (by omega)
    have ht : (listB s).take (k + 1) = (listB s).take k ++ [b] := by rw [List.take_add_one, hb]; rfl
    have hp := pieces_snoc c b _ _ _ ih
    rw [ht, hp]
    by_cases e : b = c
    · rw [if_pos e, splitTo_hit (by rw [hbi, e]), List.map_append, List.map_singleton, listB_extract, List.append_assoc]
      have hl : ((listB s).take k ++ [b]).drop (k + 1) = [] := List.drop_eq_nil_of_le (by rw [List.length_append, List.length_take, listB_len]; simp; omega)
      rw [hl]; rfl
    · have hne : byteI s k ≠ (c.toNat : Int) := by
        rw [hbi]; intro h'
        exact e (UInt8.toNat_inj.1 (by omega))
      have hf := (splitTo_le s (c.toNat : Int) k).1
      rw [if_neg e, splitTo_miss hne, List.drop_append_of_le_length (by rw [List.length_take, listB_len]; omega)]
/-- The reference's pieces. -/
theorem splitL_pieces (s : ByteArray) (c : UInt8) : (splitL s (c.toNat : Int)).map listB = pieces c (listB s) := by
  have h := splitTo_pieces s c s.size (Nat.le_refl _)
  rw [List.take_of_length_le (by rw [listB_len]; exact Nat.le_refl _)] at h
  unfold splitL
  rw [h, List.map_append, List.map_singleton, listB_extract, List.take_of_length_le (by rw [listB_len]; exact Nat.le_refl _)]
end Go.Proofs.YtfdkmmllemkogaaGreatDoor

/-
  Texts: the pieces of a list of bytes are those that strings.Cut takes one after the other.
-/
namespace Go.Proofs.YtfdkmmllemkogaaGreatDoor
open Go.RowKit Go.Lib
set_option linter.unusedVariables false
set_option linter.unusedSimpArgs false

theorem cut_nil (c : UInt8) : Lib.cut [] [c] = ([], [], false) := by have h : Lib.index [] [c] = -1 := rfl; unfold Lib.cut; rw [h]; rfl
theorem cut_cons (c b : UInt8) (l : List UInt8) : Lib.cut (b :: l) [c] = if b = c then ([], l, true) else (b :: (Lib.cut l [c]).1, (Lib.cut l [c]).2.1, (Lib.cut l [c]).2.2) := by
  have hi : Lib.index (b :: l) [c] = if b = c then 0 else if Lib.index l [c] = -1 then -1 else Lib.index l [c] + 1 := by
    show (if List.isPrefixOf [c] (b :: l) then _ else _) = _
    by_cases e : b = c
    · subst e; simp [List.isPrefixOf]
    · have e' : ¬ c = b := fun h => e h.symm
      simp [List.isPrefixOf, e, e']
  have hge := Lib.index_ge l [c]
  unfold Lib.cut
  rw [hi]
  by_cases e : b = c
  · simp [e]
  · rw [if_neg e, if_neg e]
    by_cases h : Lib.index l [c] = -1
    · simp [h]
    · have h0 : 0 ≤ Lib.index l [c] := by omega
      obtain ⟨i, hii⟩ : ∃ i : Nat, Lib.index l [c] = i := ⟨(Lib.index l [c]).toNat, by omega⟩
      rw [if_neg h, hii, if_pos (by omega), if_pos (by omega)]
      have : ((i : Int) + 1).toNat = i + 1 := by omega
      rw [this]; simp
theorem pieces_cut (c : UInt8) : ∀ l, pieces c l = if (Lib.cut l [c]).2.2 = true then (Lib.cut l [c]).1 :: pieces c (Lib.cut l [c]).2.1 else [(Lib.cut l [c]).1]
  | [] => by rw [cut_nil]; rfl
  | b :: l => by
    have ih := pieces_cut c l
    rw [cut_cons]
    show (if b = c then [] :: pieces c l else match pieces c l with | [] => [[b]] | p :: ps => (b :: p) :: ps) = _
    by_cases e : b = c
    · simp [e]
    · rw [if_neg e, if_neg e, ih]
      by_cases h : (Lib.cut l [c]).2.2 = true
      · rw [if_pos h]; simp [h]
      · rw [if_neg h]; simp [h]
end Go.Proofs.YtfdkmmllemkogaaGreatDoor

/-
  Texts: Next takes the words of a line one after the other (given CutC: what strings.Cut answers at a space).
-/

namespace Go.Proofs.YtfdkmmllemkogaaGreatDoor
open Go.RowKit
set_option linter.unusedVariables false
set_option linter.unusedSimpArgs false

/-- The library's bound lies at its place. -/
def MaxAt (w : World) : Prop := ∃ m : Int, w.cell? ⟨1, 0, none⟩ = some (.int .i64 m)
theorem MaxAt.on {w w' : World} (h : MaxAt w) (hb : Below w.heap.size w w') : MaxAt w' := by
  obtain ⟨m, hm⟩ := h
  have hl := World.block_lt_of_cell? _ _ hm
  exact ⟨m, (hb.cell (p := ⟨1, 0, none⟩) hl).trans hm⟩

def strB (l : List UInt8) : ByteArray := ⟨l.toArray⟩
theorem listB_strB (l : List UInt8) : listB (strB l) = l := rfl
theorem strB_listB (s : ByteArray) : strB (listB s) = s := by cases s; unfold strB listB; simp
theorem strB_size (l : List UInt8) : (strB l).size = l.length := rfl

/-- What strings.Cut answers at a space. -/
def CutC : Prop := ∀ (s : ByteArray) (w : World), s.size ≤ 1000001 → MaxAt w →
  Calls Tryz.prog 242 #[.string s, .string ⟨#[32]⟩] w fun e w' => e = .returned (.tuple #[.string (strB (Lib.cut (listB s) [32]).1), .string (strB (Lib.cut (listB s) [32]).2.1), .bool (Lib.cut (listB s) [32]).2.2]) ∧ Below w.heap.size w w'

/-- A block of words: what is left of a line. -/
def WordsBlk (w : World) (g : Nat) (rest : ByteArray) (more : Bool) : Prop := w.heap[g]? = some (.cells #[.string rest, .bool more] 281 (0, 0))
/-- The words that are left, as lists of bytes. -/
def wordsL (rest : ByteArray) (more : Bool) : List (List UInt8) := if more then pieces 32 (listB rest) else []

theorem WordsBlk.cells {w : World} {g : Nat} {rest : ByteArray} {more : Bool} (h : WordsBlk w g rest more) : w.cell? ⟨g, 0, none⟩ = some (.string rest) ∧ w.cell? ⟨g, 1, none⟩ = some (.bool more) ∧ w.frozen? ⟨g, 0, none⟩ = false ∧ w.frozen? ⟨g, 1, none⟩ = false ∧ g < w.heap.size := by
  unfold WordsBlk at h
  refine ⟨?_, ?_, ?_, ?_, (Array.getElem?_eq_some_iff.1 h).1⟩
  · rw [cell_of_row w g 0 _ _ (0, 0) h]; rfl
  · rw [cell_of_row w g 1 _ _ (0, 0) h]; rfl
  · exact frozen_of_row w g 0 _ _ h
  · exact frozen_of_row w g 1 _ _ h
theorem WordsBlk.set0 {w : World} {g : Nat} {rest : ByteArray} {more : Bool} (h : WordsBlk w g rest more) (r : ByteArray) : WordsBlk (w.setCell ⟨g, 0, none⟩ (.string r)) g r more := by
  unfold WordsBlk at h ⊢
  obtain ⟨hlt, hk⟩ := Array.getElem?_eq_some_iff.1 h
  show (w.heap.modify g _)[g]? = _
  rw [Array.getElem?_eq_getElem (by rw [Array.size_modify]; exact hlt), Array.getElem_modify_self, hk]
  rfl
theorem WordsBlk.set1 {w : World} {g : Nat} {rest : ByteArray} {more : Bool} (h : WordsBlk w g rest more) (m : Bool) : WordsBlk (w.setCell ⟨g, 1, none⟩ (.bool m)) g rest m := by
  unfold WordsBlk at h ⊢
  obtain ⟨hlt, hk⟩ := Array.getElem?_eq_some_iff.1 h
  show (w.heap.modify g _)[g]? = _
  rw [Array.getElem?_eq_getElem (by rw [Array.size_modify]; exact hlt), Array.getElem_modify_self, hk]
  rfl
theorem WordsBlk.set {w : World} {g : Nat} {rest : ByteArray} {more : Bool} (h : WordsBlk w g rest more) (r : ByteArray) (m : Bool) : WordsBlk ((w.setCell ⟨g, 0, none⟩ (.string r)).setCell ⟨g, 1, none⟩ (.bool m)) g r m := (h.set0 r).set1 m
theorem WordsBlk.kept {w w' : World} {g : Nat} {rest : ByteArray} {more : Bool} (h : WordsBlk w g rest more) {row : Option Nat} (hg : w.grownBy w' row) (hne : some g ≠ row) : WordsBlk w' g rest more := (hg.block g h.cells.2.2.2.2 hne).trans h
theorem WordsBlk.on {w w' : World} {g : Nat} {rest : ByteArray} {more : Bool} {B : Nat} (h : WordsBlk w g rest more) (hb : Below B w w') (hB : g < B) : WordsBlk w' g rest more := (hb.block g hB).trans h
theorem grown_below {w w' : World} {row : Option Nat} (hb : Below w.heap.size w w') : w.grownBy w' row := ⟨hb.os, hb.tape, hb.output, hb.size, fun k hk _ => hb.block k hk⟩
theorem grown_set (w : World) (g j : Nat) (v : Value) : w.grownBy (w.setCell ⟨g, j, none⟩ v) (some g) := (OnlyBlk.set w g j v).1

/-- What Next answers, and what it leaves. -/
def NextV (w : World) (g : Nat) (rest : ByteArray) (e : Ending) (w' : World) : Prop :=
  e = .returned (.tuple #[.string (strB (Lib.cut (listB rest) [32]).1), .bool true]) ∧ WordsBlk w' g (strB (Lib.cut (listB rest) [32]).2.1) (Lib.cut (listB rest) [32]).2.2 ∧ w.grownBy w' (some g)

set_option maxRecDepth 100000 in
set_option maxHeartbeats 1600000 in
theorem next_yes (hC : CutC) (g : Nat) (rest : ByteArray) (w : World) (hs : rest.size ≤ 1000001) (hm : MaxAt w) (h : WordsBlk w g rest true) :
    Calls Tryz.prog 223 #[.pointer (some ⟨g, 0, none⟩)] w (NextV w g rest) := by
  obtain ⟨c0, c1, f0, f1, hlt⟩ := h.cells
  have K := Lib.hid (hC rest w hs hm)
  have H := Lib.hid h
  clear hC h hm
  obtain ⟨C, hCC⟩ : ∃ C, Lib.cut (listB rest) [32] = C := ⟨_, rfl⟩
  rw [hCC] at K
  have HC := Lib.hid hCC
  clear hCC
  go_enter Tryz.func223, Tryz.ntmps223
  go_wp2_with fail
  refine K.out.mono ?_
  rintro e w1 ⟨rfl, hb1⟩
  have c0' : w1.cell? ⟨g, 0, none⟩ = some (.string rest) := by rw [hb1.cell (by exact hlt)]; exact c0
  have c1' : w1.cell? ⟨g, 1, none⟩ = some (.bool true) := by rw [hb1.cell (by exact hlt)]; exact c1
  have f0' : w1.frozen? ⟨g, 0, none⟩ = false := by rw [hb1.frozen (by exact hlt)]; exact f0
  have f1' : w1.frozen? ⟨g, 1, none⟩ = false := by rw [hb1.frozen (by exact hlt)]; exact f1
  have H1 := Lib.hid (H.out.on hb1 hlt)
  have HB := Lib.hid hb1
  clear hb1
  go_wp2
  go_ret2
  refine ⟨by rw [HC.out]; rfl, ?_, ?_⟩
  · rw [HC.out]; exact H1.out.set _ _
  · exact ((grown_below HB.out).trans (grown_set w1 g 0 _)).trans (grown_set _ g 1 _)

set_option maxRecDepth 100000 in
set_option maxHeartbeats 1600000 in
theorem next_no (g : Nat) (rest : ByteArray) (w : World) (h : WordsBlk w g rest false) :
    Calls Tryz.prog 223 #[.pointer (some ⟨g, 0, none⟩)] w fun e w' => e = .returned (.tuple #[.string ⟨#[]⟩, .bool false]) ∧ w = w' := by
  obtain ⟨c0, c1, f0, f1, hlt⟩ := h.cells
  clear h
  go_enter Tryz.func223, Tryz.ntmps223
  go_wp2
  go_ret2
  exact ⟨rfl, rfl⟩
end Go.Proofs.YtfdkmmllemkogaaGreatDoor

/-
  Texts: WordsOf of every line (given CutC and CutSuffixC: what strings.CutSuffix answers at a line's end).
-/

namespace Go.Proofs.YtfdkmmllemkogaaGreatDoor
open Go.RowKit
set_option linter.unusedVariables false
set_option linter.unusedSimpArgs false

/-- What strings.CutSuffix answers at a line's end. -/
def CutSuffixC : Prop := ∀ (s : ByteArray) (w : World), s.size ≤ 1000001 →
  Calls Tryz.prog 238 #[.string s, .string ⟨#[10]⟩] w fun e w' => e = .returned (.tuple #[.string (strB (Lib.trimSuffix (listB s) [10])), .bool (Lib.hasSuffix (listB s) [10])]) ∧ w = w'

/-- A line without its end. -/
def bodyL (s : ByteArray) : List UInt8 := Lib.trimSuffix (listB s) [10]
/-- Its first word and what stands behind it. -/
def headL (s : ByteArray) : List UInt8 × List UInt8 × Bool := Lib.cut (bodyL s) [32]
/-- The line has an end and a first word. -/
def lineOk (s first : ByteArray) : Bool := Lib.hasSuffix (listB s) [10] && decide ((headL s).1 = listB first)
/-- What WordsOf answers. -/
def WordsOfV (w : World) (s first : ByteArray) (e : Ending) (w' : World) : Prop :=
  (lineOk s first = true → e = .returned (.tuple #[.agg #[.string (strB (headL s).2.1), .bool (headL s).2.2], .bool true])) ∧
  (lineOk s first = false → e = .returned (.tuple #[.agg #[.string ⟨#[]⟩, .bool false], .bool false])) ∧ Below w.heap.size w w'
theorem trim_le (s : ByteArray) : (strB (bodyL s)).size ≤ s.size := by
  rw [strB_size]; unfold bodyL Lib.trimSuffix
  have := listB_len s
  split
  · rw [List.length_take]; omega
  · omega
theorem str_ne (l : List UInt8) (s : ByteArray) : ((strB l).toList == s.toList) = decide (l = listB s) := by
  rw [bytes_eq]
  by_cases h : l = listB s
  · rw [decide_eq_true h, decide_eq_true (by rw [h, strB_listB])]
  · rw [decide_eq_false h, decide_eq_false (fun e => h (by rw [← e]; rfl))]
theorem wordsOf_no {w w' : World} {s first : ByteArray} (h : lineOk s first = false) (hb : Below w.heap.size w w') : WordsOfV w s first (.returned (.tuple #[.agg #[.string ⟨#[]⟩, .bool false], .bool false])) w' :=
  ⟨fun h' => (by rw [h] at h'; cases h'), fun _ => rfl, hb⟩
theorem wordsOf_yes {w w' : World} {s first : ByteArray} (h : lineOk s first = true) (hb : Below w.heap.size w w') : WordsOfV w s first (.returned (.tuple #[.agg #[.string (strB (headL s).2.1), .bool (headL s).2.2], .bool true])) w' :=
  ⟨fun _ => rfl, fun h' => (by rw [h] at h'; cases h'), hb⟩

set_option maxRecDepth 100000 in
set_option maxHeartbeats 400000 in
theorem wordsIn_any (s : ByteArray) (w : World) :
    Calls Tryz.prog 239 #[.string s] w fun e w' => e = .returned (.agg #[.string s, .bool true]) ∧ Below w.heap.size w w' := by
  go_enter Tryz.func239, Tryz.ntmps239
  go_wp2
  refine bodyPost_ret (v := .agg #[.string s, .bool true]) (by simp [results, Tryz.results239, go_sem]) rfl ⟨rfl, ?_⟩
  first
    | exact (Below.refl _ w).alloc (Nat.le_refl _) _
    | exact (((Below.refl _ w).alloc (Nat.le_refl _) _).setCell (by simp) _).setCell (by simp) _

set_option maxRecDepth 100000 in
set_option maxHeartbeats 3200000 in
theorem wordsOf_any (hC : CutC) (hS : CutSuffixC) (s first : ByteArray) (w : World) (hs : s.size ≤ 1000001) (hm : MaxAt w) :
    Calls Tryz.prog 221 #[.string s, .string first] w (WordsOfV w s first) := by
  have K1 := Lib.hid (fun w => hS s w hs)
  have K2 : Hid (∀ (g : Nat) (W : World), Below w.heap.size w W → WordsBlk W g (strB (bodyL s)) true → Calls Tryz.prog 223 #[.pointer (some ⟨g, 0, none⟩)] W (NextV W g (strB (bodyL s)))) :=
    Lib.hid fun g W hb h => next_yes hC g _ W (Nat.le_trans (trim_le s) hs) (hm.on hb) h
  clear hC hS hm
  obtain ⟨b, hb⟩ : ∃ b, Lib.hasSuffix (listB s) [10] = b := ⟨_, rfl⟩
  obtain ⟨B, hB⟩ : ∃ B, strB (bodyL s) = B := ⟨_, rfl⟩
  have HB1 := Lib.hid hB
  have eB : strB (Lib.trimSuffix (listB s) [10]) = B := hB
  have hl : lineOk s first = (b && decide ((headL s).1 = listB first)) := by unfold lineOk; rw [hb]
  rw [hb, eB] at K1
  rw [hB] at K2
  have eC : Lib.cut (listB B) [32] = headL s := by rw [← hB]; rfl
  obtain ⟨C, hCC⟩ : ∃ C, headL s = C := ⟨_, rfl⟩
  have hst := str_ne C.1 first
  rw [hCC] at hl eC
  have HL := Lib.hid hl
  have HC := Lib.hid hCC
  have HE := Lib.hid eC
  clear hb hB eB hl hCC eC
  have hcase : (b = false ∧ lineOk s first = false) ∨ (b = true ∧ ((strB C.1).toList == first.toList) = false ∧ lineOk s first = false) ∨ (b = true ∧ ((strB C.1).toList == first.toList) = true ∧ lineOk s first = true) := by
    rw [hst]
    have hl := HL.out
    cases b
    · exact .inl ⟨rfl, by rw [hl]; rfl⟩
    · by_cases h : C.1 = listB first
      · exact .inr (.inr ⟨rfl, decide_eq_true h, by rw [hl, decide_eq_true h]; rfl⟩)
      · exact .inr (.inl ⟨rfl, decide_eq_false h, by rw [hl, decide_eq_false h]; rfl⟩)
  clear hst HL
  rcases hcase with ⟨rfl, hl⟩ | ⟨rfl, hq, hl⟩ | ⟨rfl, hq, hl⟩
  all_goals
    have HL := Lib.hid hl
    clear hl
    go_enter Tryz.func221, Tryz.ntmps221
    go_upto_region 2 with (go_at_call 238; refine (K1.out _).mono ?_; rintro e w9 ⟨rfl, rfl⟩)
    go_wp2_with (go_at_call 239; refine (wordsIn_any _ _).mono ?_; rintro e w5 ⟨rfl, hb5⟩)
    have hB5 : Below w.heap.size w w5 := ((Below.refl _ w).alloc (Nat.le_refl _) _).trans (hb5.mono (by simp))
    have hk5 : w5.heap[w.heap.size]? = some (.cells #[.string ⟨#[]⟩, .bool false] 281 (0, 0)) := (hb5.block w.heap.size (by simp)).trans (heap_alloc_new w _)
    have hS5 : w.heap.size < w5.heap.size := by have := hb5.size; simp at this; omega
    have hk1 : WordsBlk (w5.alloc (.cells #[.string B, .bool true] 281)) w5.heap.size B true := heap_alloc_new w5 _
    have hk0 : (w5.alloc (.cells #[.string B, .bool true] 281)).heap[w.heap.size]? = some (.cells #[.string ⟨#[]⟩, .bool false] 281 (0, 0)) := by
      rw [Below.heap_alloc _ _ _ hS5]; exact hk5
    have hB0 : Below w.heap.size w (w5.alloc (.cells #[.string B, .bool true] 281)) := hB5.alloc hB5.size _
    have hlt0 : w5.heap.size < (w5.alloc (.cells #[.string B, .bool true] 281)).heap.size := by simp
    obtain ⟨W0, hW0⟩ : ∃ W0, w5.alloc (.cells #[.string B, .bool true] 281) = W0 := ⟨_, rfl⟩
    rw [hW0] at hk1 hk0 hB0 hlt0
    try rw [hW0]
    have K3 := Lib.hid (K2.out _ W0 hB0 hk1)
    have HB0 := Lib.hid hB0
    have HK0 := Lib.hid hk0
    have HL5 := Lib.hid hlt0
    have HS5 := Lib.hid hS5
    clear hB5 hk5 hk1 hk0 hB0 hb5 hlt0 hS5
    refine K3.out.mono ?_
    rintro e w1 ⟨rfl, hw1, hg1⟩
    rw [HE.out] at hw1 ⊢
    obtain ⟨d0, d1, d2, d3, d4⟩ := hw1.cells
    have hk := (hg1.block w.heap.size (by have := HL5.out; have := HS5.out; omega) (by simp; have := HS5.out; omega)).trans HK0.out
    have c0 : w1.cell? ⟨w.heap.size, 0, none⟩ = some (.string ⟨#[]⟩) := by rw [cell_of_row w1 w.heap.size 0 _ _ (0, 0) hk]; rfl
    have c1 : w1.cell? ⟨w.heap.size, 1, none⟩ = some (.bool false) := by rw [cell_of_row w1 w.heap.size 1 _ _ (0, 0) hk]; rfl
    have f0 : w1.frozen? ⟨w.heap.size, 0, none⟩ = false := frozen_of_row w1 w.heap.size 0 _ _ hk
    have f1 : w1.frozen? ⟨w.heap.size, 1, none⟩ = false := frozen_of_row w1 w.heap.size 1 _ _ hk
    have HB1 : Hid (Below w.heap.size w w1) := Lib.hid (HB0.out.grown hg1 HB0.out.size (fun k h => by have := Option.some.inj h; have := HS5.out; omega))
    clear hk hw1 hg1
    go_wp2
  · refine bodyPost_ret (v := .tuple #[.agg #[.string ⟨#[]⟩, .bool false], .bool false]) (by simp [results, Tryz.results221, go_sem, c0, c1]) rfl (wordsOf_no HL.out ?_)
    exact (HB1.out.setCell (p := ⟨w.heap.size, 0, none⟩) (Nat.le_refl _) _).setCell (p := ⟨w.heap.size, 1, none⟩) (Nat.le_refl _) _
  · refine bodyPost_ret (v := .tuple #[.agg #[.string ⟨#[]⟩, .bool false], .bool false]) (by simp [results, Tryz.results221, go_sem, c0, c1]) rfl (wordsOf_no HL.out ?_)
    exact (HB1.out.setCell (p := ⟨w.heap.size, 0, none⟩) (Nat.le_refl _) _).setCell (p := ⟨w.heap.size, 1, none⟩) (Nat.le_refl _) _
  · have HY := wordsOf_yes (w := w) (w' := (w1.setCell ⟨w.heap.size, 0, none⟩ (.string (strB C.2.1))).setCell ⟨w.heap.size, 1, none⟩ (.bool C.2.2)) HL.out ((HB1.out.setCell (p := ⟨w.heap.size, 0, none⟩) (Nat.le_refl _) _).setCell (p := ⟨w.heap.size, 1, none⟩) (Nat.le_refl _) _)
    rw [HC.out] at HY
    exact bodyPost_ret (v := .tuple #[.agg #[.string (strB C.2.1), .bool C.2.2], .bool true]) (by simp [results, Tryz.results221, go_sem, c0, c1]) rfl HY
end Go.Proofs.YtfdkmmllemkogaaGreatDoor

/-
  Contracts of the checks of a name, of the program and of the reference: both answer nameB, for every string.
-/
namespace Go.Proofs.YtfdkmmllemkogaaGreatDoor
open Go.RowKit
set_option linter.unusedVariables false
set_option linter.unusedSimpArgs false

def digP (c : Int) : Prop := 48 ≤ c ∧ c ≤ 57
theorem ret_bool {a b : Bool} (h : a = b) : Ending.returned (.bool a) = .returned (.bool b) := by rw [h]

set_option maxHeartbeats 800000 in
theorem isDigit_yes (c : Int) (h : digP c) (w : World) :
    Calls Tryz.prog 113 #[.int .i32 c] w fun e w' => e = .returned (.bool true) ∧ w = w' := by
  obtain ⟨h1, h2⟩ := h
  go_enter Tryz.func113, Tryz.ntmps113
  go_wp2
  go_ret
  exact ⟨rfl, rfl⟩

set_option maxHeartbeats 800000 in
theorem isDigit_no (c : Int) (h : ¬ digP c) (w : World) :
    Calls Tryz.prog 113 #[.int .i32 c] w fun e w' => e = .returned (.bool false) ∧ w = w' := by
  have hc : c < 48 ∨ 57 < c := by unfold digP at h; omega
  clear h
  rcases hc with h | h
  ·
    go_enter Tryz.func113, Tryz.ntmps113
    go_wp2
    go_ret
    exact ⟨ret_bool (by simp; try omega), rfl⟩
  ·
    go_enter Tryz.func113, Tryz.ntmps113
    go_wp2
    go_ret
    exact ⟨ret_bool (by simp; try omega), rfl⟩

end Go.Proofs.YtfdkmmllemkogaaGreatDoor

/-
  Texts: Natural of every word (where Atoi answers as it should: AtoiC), and Integer.
-/

namespace Go.Proofs.YtfdkmmllemkogaaGreatDoor
open Go.RowKit
set_option linter.unusedVariables false
set_option linter.unusedSimpArgs false

/-- What strconv.Atoi answers where a word is a number. -/
def AtoiC : Prop := ∀ (s : ByteArray) (w : World), natP s → Calls Tryz.prog 263 #[.string s] w fun e w' => e = .returned (.tuple #[.int .i64 (digV s s.size), .nilIface]) ∧ Below w.heap.size w w'

theorem list_one {s : ByteArray} : (s.toList == [48]) = decide (s.size = 1 ∧ byteI s 0 = 48) := by
  rw [Bool.eq_iff_iff, decide_eq_true_iff, beq_iff_eq, ByteArray.toList_eq]
  cases s with | mk d =>
    cases d with | mk l =>
      constructor
      · intro h
        simp at h; subst h
        exact ⟨rfl, by rw [byteI_at (show 0 < (⟨⟨[48]⟩⟩ : ByteArray).size from Nat.zero_lt_one)]; rfl⟩
      · rintro ⟨h1, h2⟩
        match l, h1, h2 with
        | [b], _, h2 =>
          rw [byteI_at (show 0 < (⟨⟨[b]⟩⟩ : ByteArray).size from Nat.zero_lt_one)] at h2
          have h3 : b.toNat = 48 := by have : ((b.toNat : Nat) : Int) = 48 := h2; omega
          have : b = 48 := UInt8.toNat_inj.1 h3
          rw [this]

set_option maxRecDepth 100000 in
set_option maxHeartbeats 3200000 in
theorem natural_any (hA : AtoiC) (s : ByteArray) (w : World) (hm : s.size ≤ maxLen) :
    Calls Tryz.prog 251 #[.string s, .int .i64 9] w fun e w' => e = .returned (natR s) ∧ Below w.heap.size w w' := by
  unfold maxLen at hm
  have KA := Lib.hid hA
  clear hA
  by_cases h0 : s.size = 0
  · have H := Lib.hid (natR_no (s := s) (fun h => by have := h.1; omega))
    have e0 : ((s.size : Int) == 0) = true := by simp [h0]
    clear h0
    go_enter Tryz.func251, Tryz.ntmps251
    go_wp2
    go_ret2
    exact ⟨ret_nat H.out, Below.refl _ _⟩
  have e0 : ((s.size : Int) == 0) = false := by simp [h0]
  by_cases h1 : 9 < s.size
  · have H := Lib.hid (natR_no (s := s) (fun h => by have := h.2.1; omega))
    go_enter Tryz.func251, Tryz.ntmps251
    go_wp2
    go_ret2
    exact ⟨ret_nat H.out, Below.refl _ _⟩
  have h00 : 0 < s.size := by omega
  have el := list_one (s := s)
  by_cases hz : ((s[0]'h00).toNat : Int) = 48 ∧ 1 < s.size
  · have H := Lib.hid (natR_no (s := s) (fun h => by have h3 := h.2.2.1; rw [byteI_at h00] at h3; have := h3 hz.1; omega))
    obtain ⟨hz1, hz2⟩ := hz
    have ez : (((s[0]'h00).toNat : Int) == 48) = true := by simp [hz1]
    rw [decide_eq_false (by omega)] at el
    clear hz1
    go_enter Tryz.func251, Tryz.ntmps251
    go_wp2
    go_ret2
    exact ⟨ret_nat H.out, Below.refl _ _⟩
  have hz' := Lib.hid (show byteI s 0 = 48 → s.size = 1 from fun h => by rw [byteI_at h00] at h; omega)
  have hgo : (((s[0]'h00).toNat : Int) == 48) = false ∨ ((((s[0]'h00).toNat : Int) == 48) = true ∧ (s.toList == [48]) = true) := by
    by_cases h2 : ((s[0]'h00).toNat : Int) = 48
    · exact .inr ⟨by simp [h2], by rw [el]; exact decide_eq_true ⟨by omega, by rw [byteI_at h00]; exact h2⟩⟩
    · exact .inl (by simp [h2])
  clear hz el
  have KD : Hid (∀ (c : Int) (w : World), digP c → Calls Tryz.prog 113 #[.int .i32 c] w fun e w' => e = .returned (.bool true) ∧ w = w') := Lib.hid fun c w h => isDigit_yes c h w
  have KE : Hid (∀ (c : Int) (w : World), ¬ digP c → Calls Tryz.prog 113 #[.int .i32 c] w fun e w' => e = .returned (.bool false) ∧ w = w') := Lib.hid fun c w h => isDigit_no c h w
  rcases hgo with ez | ⟨ez, es⟩
  all_goals
    go_enter Tryz.func251, Tryz.ntmps251
    go_wp2
    go_loopw [7] (fun i wr => ∃ k : Nat, k ≤ s.size ∧ wr = w.iter s k ∧ Hid (digTo s k)) (fun _ wr => s.size - wr.iterPos w.heap.size)
    case atStart => exact ⟨0, Nat.zero_le _, rfl, Lib.hid (fun i hi => by omega)⟩
    case round =>
      obtain ⟨k, hk, rfl, hh⟩ := hrel
      have hbw : Below w.heap.size w (w.iter s k) := (Below.refl _ w).alloc (Nat.le_refl _) _
      have HBW := Lib.hid hbw
      clear hbw
      by_cases hlt : k < s.size
      · have hnd := Lib.hid (not_dgt hlt)
        have hst := Lib.hid (digTo_step hlt hh.out)
        by_cases ha : (s[k]'hlt).toNat < 128
        · have hnx : ∀ ty, (Instr.next (.pointer (some ⟨w.heap.size, 0, none⟩)) true ty).run Tryz.prog (w.iter s k) = _ := fun ty => run_next_ascii w s k ty hlt ha
          have hz : Hid (Below w.heap.size w (w.iter s (k + 1))) := Lib.hid ((Below.refl _ w).alloc (Nat.le_refl _) _)
          obtain ⟨c, hc⟩ : ∃ c : Int, ((s[k]'hlt).toNat : Int) = c := ⟨_, rfl⟩
          by_cases hd : digP c
          · have HD := Lib.hid hd
            have HS := Lib.hid (hst.out (by rw [hc]; exact hd.1) (by rw [hc]; exact hd.2))
            clear hd
            go_wp2_with (go_at_call 113; refine (KD.out _ _ HD.out).mono ?_; rintro e w9 ⟨rfl, rfl⟩)
            go_roundw
            case rel => exact ⟨k + 1, by omega, rfl, HS⟩
            case measure => simp; omega
          · have HD := Lib.hid hd
            have H := Lib.hid (natR_no (hnd.out (by unfold digP at hd; omega)))
            clear hd
            go_wp2_with (go_at_call 113; refine (KE.out _ _ HD.out).mono ?_; rintro e w9 ⟨rfl, rfl⟩)
            go_ret2
            exact ⟨ret_nat H.out, hz.out⟩
        · have hnx : ∀ ty, (Instr.next (.pointer (some ⟨w.heap.size, 0, none⟩)) true ty).run Tryz.prog (w.iter s k) = _ := fun ty => run_next_any w s k ty hlt
          have hz : Hid (Below w.heap.size w (w.iter s (k + (Utf8.decode s k).2))) := Lib.hid ((Below.refl _ w).alloc (Nat.le_refl _) _)
          have hh8 := (decode_high s k hlt (by omega)).1
          have H := Lib.hid (natR_no (hnd.out (by omega)))
          obtain ⟨c, hc⟩ : ∃ c : Int, ((Utf8.decode s k).1 : Int) = c := ⟨_, rfl⟩
          have hc8 : 128 ≤ c := by omega
          have HD : Hid (¬ digP c) := Lib.hid (by unfold digP; omega)
          clear ha hh8
          go_wp2_with (go_at_call 113; refine (KE.out _ _ HD.out).mono ?_; rintro e w9 ⟨rfl, rfl⟩)
          go_ret2
          exact ⟨ret_nat H.out, hz.out⟩
      · obtain rfl : k = s.size := by omega
        have hnx : ∀ ty, (Instr.next (.pointer (some ⟨w.heap.size, 0, none⟩)) true ty).run Tryz.prog (w.iter s s.size) = _ := fun ty => run_next_end w s s.size ty hlt
        have hp : natP s := ⟨by omega, by omega, hz'.out, hh.out⟩
        have H := Lib.hid (natR_yes hp)
        have K := Lib.hid (fun w => KA.out s w hp)
        clear hp
        go_wp2_with (go_at_call 263; refine (K.out _).mono ?_; rintro e w9 ⟨rfl, hb9⟩; have HB9 := Lib.hid (Below.trans HBW.out (Below.mono hb9 (Below.size HBW.out))); clear hb9)
        go_ret2
        exact ⟨ret_nat H.out, HB9.out⟩
end Go.Proofs.YtfdkmmllemkogaaGreatDoor

/-
  Texts: Integer of every word (given AtoiC and CutPrefixC: what strings.CutPrefix answers for a sign).
-/

namespace Go.Proofs.YtfdkmmllemkogaaGreatDoor
open Go.RowKit
set_option linter.unusedVariables false
set_option linter.unusedSimpArgs false

/-- What strings.CutPrefix answers for a sign. -/
def CutPrefixC : Prop := ∀ (s : ByteArray) (w : World),
  (minusP s → Calls Tryz.prog 250 #[.string s, .string ⟨#[45]⟩] w fun e w' => e = .returned (.tuple #[.string (restB s), .bool true]) ∧ w' = w) ∧
  (¬ minusP s → Calls Tryz.prog 250 #[.string s, .string ⟨#[45]⟩] w fun e w' => e = .returned (.tuple #[.string s, .bool false]) ∧ w' = w)

set_option maxRecDepth 100000 in
set_option maxHeartbeats 3200000 in
theorem integerW_any (hA : AtoiC) (hC : CutPrefixC) (s : ByteArray) (w : World) (hm : s.size ≤ maxLen) :
    Calls Tryz.prog 241 #[.string s] w fun e w' => e = .returned (intR s) ∧ Below w.heap.size w w' := by
  have hm0 := hm
  unfold maxLen at hm
  by_cases hp : minusP s
  · have h00 : 0 < s.size := hp.1
    have K1 := Lib.hid ((hC s w).1 hp)
    have K2 := Lib.hid (natural_any hA (restB s) w (by unfold maxLen; rw [restB_size h00]; omega))
    by_cases hb : natB (restB s) = true
    · obtain ⟨n0, n1⟩ := natV_small (restB s)
      by_cases hv : natV (restB s) = 0
      · have H := Lib.hid (intR_no hp (.inr hv))
        unfold natR at K2
        rw [hb] at K2
        obtain ⟨v, hvv⟩ : ∃ v, natV (restB s) = v := ⟨_, rfl⟩
        rw [hvv] at hv K2
        have ev : (v == 0) = true := by simp [hv]
        clear hv hvv hp hb n0 n1 hA hC
        go_enter Tryz.func241, Tryz.ntmps241
        go_wp2_with (first
          | (go_at_call 250; refine K1.out.mono ?_; rintro e w9 ⟨rfl, rfl⟩)
          | (go_at_call 251; refine K2.out.mono ?_; rintro e w9 ⟨rfl, hb9⟩; have HB := Lib.hid hb9; clear hb9))
        go_ret2
        exact ⟨(congrArg Ending.returned H.out).symm, HB.out⟩
      · have H := Lib.hid (intR_minus hp hb hv)
        unfold natR at K2
        rw [hb] at K2
        obtain ⟨v, hvv⟩ : ∃ v, natV (restB s) = v := ⟨_, rfl⟩
        rw [hvv] at hv n0 n1 H K2
        have ev : (v == 0) = false := by simp [hv]
        clear hvv hp hb hA hC
        go_enter Tryz.func241, Tryz.ntmps241
        go_wp2_with (first
          | (go_at_call 250; refine K1.out.mono ?_; rintro e w9 ⟨rfl, rfl⟩)
          | (go_at_call 251; refine K2.out.mono ?_; rintro e w9 ⟨rfl, hb9⟩; have HB := Lib.hid hb9; clear hb9))
        go_ret2
        exact ⟨(congrArg Ending.returned H.out).symm, HB.out⟩
    · have hb : natB (restB s) = false := by simpa using hb
      have H := Lib.hid (intR_no hp (.inl hb))
      unfold natR at K2
      rw [hb] at K2
      clear hp hb hA hC
      go_enter Tryz.func241, Tryz.ntmps241
      go_wp2_with (first
        | (go_at_call 250; refine K1.out.mono ?_; rintro e w9 ⟨rfl, rfl⟩)
        | (go_at_call 251; refine K2.out.mono ?_; rintro e w9 ⟨rfl, hb9⟩; have HB := Lib.hid hb9; clear hb9))
      go_ret2
      exact ⟨(congrArg Ending.returned H.out).symm, HB.out⟩
  · have K1 := Lib.hid ((hC s w).2 hp)
    have K2 := Lib.hid (natural_any hA s w hm0)
    by_cases hb : natB s = true
    · have H := Lib.hid (intR_plain hp)
      unfold natR at K2 H
      rw [hb] at K2 H
      clear hp hb hA hC
      go_enter Tryz.func241, Tryz.ntmps241
      go_wp2_with (first
        | (go_at_call 250; refine K1.out.mono ?_; rintro e w9 ⟨rfl, rfl⟩)
        | (go_at_call 251; refine K2.out.mono ?_; rintro e w9 ⟨rfl, hb9⟩; have HB := Lib.hid hb9; clear hb9))
      go_ret2
      exact ⟨(congrArg Ending.returned H.out).symm, HB.out⟩
    · have hb : natB s = false := by simpa using hb
      have H := Lib.hid ((intR_plain hp).trans (by unfold natR; rw [hb, natV_no hb]))
      unfold natR at K2
      rw [hb] at K2
      clear hp hb hA hC
      go_enter Tryz.func241, Tryz.ntmps241
      go_wp2_with (first
        | (go_at_call 250; refine K1.out.mono ?_; rintro e w9 ⟨rfl, rfl⟩)
        | (go_at_call 251; refine K2.out.mono ?_; rintro e w9 ⟨rfl, hb9⟩; have HB := Lib.hid hb9; clear hb9))
      go_ret2
      exact ⟨(congrArg Ending.returned H.out).symm, HB.out⟩
end Go.Proofs.YtfdkmmllemkogaaGreatDoor
