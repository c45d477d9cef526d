/-
  Texts: the pieces of a list of bytes are those that strings.Cut takes one after the other.
-/
import Derived.Lib.IndexMore
import Derived.Test.YtpmjiifdnnhecaaGreatDoorOaaSa
import Derived.Test.YtpmjiifdnnhecaaGreatDoorOaaWk
namespace Go.Proofs.YtpmjiifdnnhecaaGreatDoor
open Go.RowKit Go.Lib
set_option linter.unusedVariables false
set_option linter.unusedSimpArgs false

theorem cut_nil (c : UInt8) : Lib.cut [] [c] = ([], [], false) := by have h : Lib.index [] [c] = -1 := rfl; unfold Lib.cut; rw [h]; rfl
theorem cut_cons (c b : UInt8) (l : List UInt8) : Lib.cut (b :: l) [c] = if b = c then ([], l, true) else (b :: (Lib.cut l [c]).1, (Lib.cut l [c]).2.1, (Lib.cut l [c]).2.2) := by
  have hi : Lib.index (b :: l) [c] = if b = c then 0 else if Lib.index l [c] = -1 then -1 else Lib.index l [c] + 1 := by
    show (if List.isPrefixOf [c] (b :: l) then _ else _) = _
    by_cases e : b = c
    · subst e; simp [List.isPrefixOf]
    · have e' : ¬ c = b := fun h => e h.symm
      simp [List.isPrefixOf, e, e']
  have hge := Lib.index_ge l [c]
  unfold Lib.cut
  rw [hi]
  by_cases e : b = c
  · simp [e]
  · rw [if_neg e, if_neg e]
    by_cases h : Lib.index l [c] = -1
    · simp [h]
    · have h0 : 0 ≤ Lib.index l [c] := by omega
      obtain ⟨i, hii⟩ : ∃ i : Nat, Lib.index l [c] = i := ⟨(Lib.index l [c]).toNat, by omega⟩
      rw [if_neg h, hii, if_pos (by omega), if_pos (by omega)]
      have : ((i : Int) + 1).toNat = i + 1 := by omega
      rw [this]; simp
theorem pieces_cut (c : UInt8) : ∀ l, pieces c l = if (Lib.cut l [c]).2.2 = true then (Lib.cut l [c]).1 :: pieces c (Lib.cut l [c]).2.1 else [(Lib.cut l [c]).1]
  | [] => by rw [cut_nil]; rfl
  | b :: l => by
    have ih := pieces_cut c l
    rw [cut_cons]
    show (if b = c then [] :: pieces c l else match pieces c l with | [] => [[b]] | p :: ps => (b :: p) :: ps) = _
    by_cases e : b = c
    · simp [e]
    · rw [if_neg e, if_neg e, ih]
      by_cases h : (Lib.cut l [c]).2.2 = true
      · rw [if_pos h]; simp [h]
      · rw [if_neg h]; simp [h]
end Go.Proofs.YtpmjiifdnnhecaaGreatDoor

/-
  Texts: Next takes the words of a line one after the other (given CutC: what strings.Cut answers at a space).
-/

namespace Go.Proofs.YtpmjiifdnnhecaaGreatDoor
open Go.RowKit
set_option linter.unusedVariables false
set_option linter.unusedSimpArgs false

/-- The library's bound lies at its place. -/
def MaxAt (w : World) : Prop := ∃ m : Int, w.cell? ⟨2, 0, none⟩ = some (.int .i64 m)
theorem MaxAt.on {w w' : World} (h : MaxAt w) (hb : Below w.heap.size w w') : MaxAt w' := by
  obtain ⟨m, hm⟩ := h
  have hl := World.block_lt_of_cell? _ _ hm
  exact ⟨m, (hb.cell (p := ⟨2, 0, none⟩) hl).trans hm⟩

def strB (l : List UInt8) : ByteArray := ⟨l.toArray⟩
theorem listB_strB (l : List UInt8) : listB (strB l) = l := rfl
theorem strB_listB (s : ByteArray) : strB (listB s) = s := by cases s; unfold strB listB; simp
theorem strB_size (l : List UInt8) : (strB l).size = l.length := rfl

/-- What strings.Cut answers at a space. -/
def CutC : Prop := ∀ (s : ByteArray) (w : World), s.size ≤ 1000001 → MaxAt w →
  Calls Tryz.prog 223 #[.string s, .string ⟨#[32]⟩] w fun e w' => e = .returned (.tuple #[.string (strB (Lib.cut (listB s) [32]).1), .string (strB (Lib.cut (listB s) [32]).2.1), .bool (Lib.cut (listB s) [32]).2.2]) ∧ Below w.heap.size w w'

/-- A block of words: what is left of a line. -/
def WordsBlk (w : World) (g : Nat) (rest : ByteArray) (more : Bool) : Prop := w.heap[g]? = some (.cells #[.string rest, .bool more] 275 (0, 0))
/-- The words that are left, as lists of bytes. -/
def wordsL (rest : ByteArray) (more : Bool) : List (List UInt8) := if more then pieces 32 (listB rest) else []

theorem WordsBlk.cells {w : World} {g : Nat} {rest : ByteArray} {more : Bool} (h : WordsBlk w g rest more) : w.cell? ⟨g, 0, none⟩ = some (.string rest) ∧ w.cell? ⟨g, 1, none⟩ = some (.bool more) ∧ w.frozen? ⟨g, 0, none⟩ = false ∧ w.frozen? ⟨g, 1, none⟩ = false ∧ g < w.heap.size := by
  unfold WordsBlk at h
  refine ⟨?_, ?_, ?_, ?_, (Array.getElem?_eq_some_iff.1 h).1⟩
  · rw [cell_of_row w g 0 _ _ (0, 0) h]; rfl
  · rw [cell_of_row w g 1 _ _ (0, 0) h]; rfl
  · exact frozen_of_row w g 0 _ _ h
  · exact frozen_of_row w g 1 _ _ h
theorem WordsBlk.set0 {w : World} {g : Nat} {rest : ByteArray} {more : Bool} (h : WordsBlk w g rest more) (r : ByteArray) : WordsBlk (w.setCell ⟨g, 0, none⟩ (.string r)) g r more := by
  unfold WordsBlk at h ⊢
  obtain ⟨hlt, hk⟩ := Array.getElem?_eq_some_iff.1 h
  show (w.heap.modify g _)[g]? = _
  rw [Array.getElem?_eq_getElem (by rw [Array.size_modify]; exact hlt), Array.getElem_modify_self, hk]
  rfl
theorem WordsBlk.set1 {w : World} {g : Nat} {rest : ByteArray} {more : Bool} (h : WordsBlk w g rest more) (m : Bool) : WordsBlk (w.setCell ⟨g, 1, none⟩ (.bool m)) g rest m := by
  unfold WordsBlk at h ⊢
  obtain ⟨hlt, hk⟩ := Array.getElem?_eq_some_iff.1 h
  show (w.heap.modify g _)[g]? = _
  rw [Array.getElem?_eq_getElem (by rw [Array.size_modify]; exact hlt), Array.getElem_modify_self, hk]
  rfl
theorem WordsBlk.set {w : World} {g : Nat} {rest : ByteArray} {more : Bool} (h : WordsBlk w g rest more) (r : ByteArray) (m : Bool) : WordsBlk ((w.setCell ⟨g, 0, none⟩ (.string r)).setCell ⟨g, 1, none⟩ (.bool m)) g r m := (h.set0 r).set1 m
theorem WordsBlk.kept {w w' : World} {g : Nat} {rest : ByteArray} {more : Bool} (h : WordsBlk w g rest more) {row : Option Nat} (hg : w.grownBy w' row) (hne : some g ≠ row) : WordsBlk w' g rest more := (hg.block g h.cells.2.2.2.2 hne).trans h
theorem WordsBlk.on {w w' : World} {g : Nat} {rest : ByteArray} {more : Bool} {B : Nat} (h : WordsBlk w g rest more) (hb : Below B w w') (hB : g < B) : WordsBlk w' g rest more := (hb.block g hB).trans h
theorem grown_below {w w' : World} {row : Option Nat} (hb : Below w.heap.size w w') : w.grownBy w' row := ⟨hb.os, hb.tape, hb.output, hb.size, fun k hk _ => hb.block k hk⟩
theorem grown_set (w : World) (g j : Nat) (v : Value) : w.grownBy (w.setCell ⟨g, j, none⟩ v) (some g) := (OnlyBlk.set w g j v).1

/-- What Next answers, and what it leaves. -/
def NextV (w : World) (g : Nat) (rest : ByteArray) (e : Ending) (w' : World) : Prop :=
  e = .returned (.tuple #[.string (strB (Lib.cut (listB rest) [32]).1), .bool true]) ∧ WordsBlk w' g (strB (Lib.cut (listB rest) [32]).2.1) (Lib.cut (listB rest) [32]).2.2 ∧ w.grownBy w' (some g)

set_option maxRecDepth 100000 in
set_option maxHeartbeats 1600000 in
theorem next_yes (hC : CutC) (g : Nat) (rest : ByteArray) (w : World) (hs : rest.size ≤ 1000001) (hm : MaxAt w) (h : WordsBlk w g rest true) :
    Calls Tryz.prog 184 #[.pointer (some ⟨g, 0, none⟩)] w (NextV w g rest) := by
  obtain ⟨c0, c1, f0, f1, hlt⟩ := h.cells
  have K := Lib.hid (hC rest w hs hm)
  have H := Lib.hid h
  clear hC h hm
  obtain ⟨C, hCC⟩ : ∃ C, Lib.cut (listB rest) [32] = C := ⟨_, rfl⟩
  rw [hCC] at K
  have HC := Lib.hid hCC
  clear hCC
  go_enter Tryz.func184, Tryz.ntmps184
  go_wp2_with fail
  refine K.out.mono ?_
  rintro e w1 ⟨rfl, hb1⟩
  have c0' : w1.cell? ⟨g, 0, none⟩ = some (.string rest) := by rw [hb1.cell (by exact hlt)]; exact c0
  have c1' : w1.cell? ⟨g, 1, none⟩ = some (.bool true) := by rw [hb1.cell (by exact hlt)]; exact c1
  have f0' : w1.frozen? ⟨g, 0, none⟩ = false := by rw [hb1.frozen (by exact hlt)]; exact f0
  have f1' : w1.frozen? ⟨g, 1, none⟩ = false := by rw [hb1.frozen (by exact hlt)]; exact f1
  have H1 := Lib.hid (H.out.on hb1 hlt)
  have HB := Lib.hid hb1
  clear hb1
  go_wp2
  go_ret2
  refine ⟨by rw [HC.out]; rfl, ?_, ?_⟩
  · rw [HC.out]; exact H1.out.set _ _
  · exact ((grown_below HB.out).trans (grown_set w1 g 0 _)).trans (grown_set _ g 1 _)

set_option maxRecDepth 100000 in
set_option maxHeartbeats 1600000 in
theorem next_no (g : Nat) (rest : ByteArray) (w : World) (h : WordsBlk w g rest false) :
    Calls Tryz.prog 184 #[.pointer (some ⟨g, 0, none⟩)] w fun e w' => e = .returned (.tuple #[.string ⟨#[]⟩, .bool false]) ∧ w = w' := by
  obtain ⟨c0, c1, f0, f1, hlt⟩ := h.cells
  clear h
  go_enter Tryz.func184, Tryz.ntmps184
  go_wp2
  go_ret2
  exact ⟨rfl, rfl⟩
end Go.Proofs.YtpmjiifdnnhecaaGreatDoor

/-
  Texts: WordsOf of every line (given CutC and CutSuffixC: what strings.CutSuffix answers at a line's end).
-/

namespace Go.Proofs.YtpmjiifdnnhecaaGreatDoor
open Go.RowKit
set_option linter.unusedVariables false
set_option linter.unusedSimpArgs false

/-- What strings.CutSuffix answers at a line's end. -/
def CutSuffixC : Prop := ∀ (s : ByteArray) (w : World), s.size ≤ 1000001 →
  Calls Tryz.prog 221 #[.string s, .string ⟨#[10]⟩] w fun e w' => e = .returned (.tuple #[.string (strB (Lib.trimSuffix (listB s) [10])), .bool (Lib.hasSuffix (listB s) [10])]) ∧ w = w'

/-- A line without its end. -/
def bodyL (s : ByteArray) : List UInt8 := Lib.trimSuffix (listB s) [10]
/-- Its first word and what stands behind it. -/
def headL (s : ByteArray) : List UInt8 × List UInt8 × Bool := Lib.cut (bodyL s) [32]
/-- The line has an end and a first word. -/
def lineOk (s first : ByteArray) : Bool := Lib.hasSuffix (listB s) [10] && decide ((headL s).1 = listB first)
/-- What WordsOf answers. -/
def WordsOfV (w : World) (s first : ByteArray) (e : Ending) (w' : World) : Prop :=
  (lineOk s first = true → e = .returned (.tuple #[.agg #[.string (strB (headL s).2.1), .bool (headL s).2.2], .bool true])) ∧
  (lineOk s first = false → e = .returned (.tuple #[.agg #[.string ⟨#[]⟩, .bool false], .bool false])) ∧ Below w.heap.size w w'
theorem trim_le (s : ByteArray) : (strB (bodyL s)).size ≤ s.size := by
  rw [strB_size]; unfold bodyL Lib.trimSuffix
  have := listB_len s
  split
  · rw [List.length_take]; omega
  · omega
theorem str_ne (l : List UInt8) (s : ByteArray) : ((strB l).toList == s.toList) = decide (l = listB s) := by
  rw [bytes_eq]
  by_cases h : l = listB s
  · rw [decide_eq_true h, decide_eq_true (by rw [h, strB_listB])]
  · rw [decide_eq_false h, decide_eq_false (fun e => h (by rw [← e]; rfl))]
theorem wordsOf_no {w w' : World} {s first : ByteArray} (h : lineOk s first = false) (hb : Below w.heap.size w w') : WordsOfV w s first (.returned (.tuple #[.agg #[.string ⟨#[]⟩, .bool false], .bool false])) w' :=
  ⟨fun h' => (by rw [h] at h'; cases h'), fun _ => rfl, hb⟩
theorem wordsOf_yes {w w' : World} {s first : ByteArray} (h : lineOk s first = true) (hb : Below w.heap.size w w') : WordsOfV w s first (.returned (.tuple #[.agg #[.string (strB (headL s).2.1), .bool (headL s).2.2], .bool true])) w' :=
  ⟨fun _ => rfl, fun h' => (by rw [h] at h'; cases h'), hb⟩

set_option maxRecDepth 100000 in
set_option maxHeartbeats 400000 in
theorem wordsIn_any (s : ByteArray) (w : World) :
    Calls Tryz.prog 222 #[.string s] w fun e w' => e = .returned (.agg #[.string s, .bool true]) ∧ Below w.heap.size w w' := by
  go_enter Tryz.func222, Tryz.ntmps222
  go_wp2
  refine bodyPost_ret (v := .agg #[.string s, .bool true]) (by simp [results, Tryz.results222, go_sem]) rfl ⟨rfl, ?_⟩
  first
    | exact (Below.refl _ w).alloc (Nat.le_refl _) _
    | exact (((Below.refl _ w).alloc (Nat.le_refl _) _).setCell (by simp) _).setCell (by simp) _

set_option maxRecDepth 100000 in
set_option maxHeartbeats 3200000 in
theorem wordsOf_any (hC : CutC) (hS : CutSuffixC) (s first : ByteArray) (w : World) (hs : s.size ≤ 1000001) (hm : MaxAt w) :
    Calls Tryz.prog 183 #[.string s, .string first] w (WordsOfV w s first) := by
  have K1 := Lib.hid (fun w => hS s w hs)
  have K2 : Hid (∀ (g : Nat) (W : World), Below w.heap.size w W → WordsBlk W g (strB (bodyL s)) true → Calls Tryz.prog 184 #[.pointer (some ⟨g, 0, none⟩)] W (NextV W g (strB (bodyL s)))) :=
    Lib.hid fun g W hb h => next_yes hC g _ W (Nat.le_trans (trim_le s) hs) (hm.on hb) h
  clear hC hS hm
  obtain ⟨b, hb⟩ : ∃ b, Lib.hasSuffix (listB s) [10] = b := ⟨_, rfl⟩
  obtain ⟨B, hB⟩ : ∃ B, strB (bodyL s) = B := ⟨_, rfl⟩
  have HB1 := Lib.hid hB
  have eB : strB (Lib.trimSuffix (listB s) [10]) = B := hB
  have hl : lineOk s first = (b && decide ((headL s).1 = listB first)) := by unfold lineOk; rw [hb]
  rw [hb, eB] at K1
  rw [hB] at K2
  have eC : Lib.cut (listB B) [32] = headL s := by rw [← hB]; rfl
  obtain ⟨C, hCC⟩ : ∃ C, headL s = C := ⟨_, rfl⟩
  have hst := str_ne C.1 first
  rw [hCC] at hl eC
  have HL := Lib.hid hl
  have HC := Lib.hid hCC
  have HE := Lib.hid eC
  clear hb hB eB hl hCC eC
  have hcase : (b = false ∧ lineOk s first = false) ∨ (b = true ∧ ((strB C.1).toList == first.toList) = false ∧ lineOk s first = false) ∨ (b = true ∧ ((strB C.1).toList == first.toList) = true ∧ lineOk s first = true) := by
    rw [hst]
    have hl := HL.out
    cases b
    · exact .inl ⟨rfl, by rw [hl]; rfl⟩
    · by_cases h : C.1 = listB first
      · exact .inr (.inr ⟨rfl, decide_eq_true h, by rw [hl, decide_eq_true h]; rfl⟩)
      · exact .inr (.inl ⟨rfl, decide_eq_false h, by rw [hl, decide_eq_false h]; rfl⟩)
  clear hst HL
  rcases hcase with ⟨rfl, hl⟩ | ⟨rfl, hq, hl⟩ | ⟨rfl, hq, hl⟩
  all_goals
    have HL := Lib.hid hl
    clear hl
    go_enter Tryz.func183, Tryz.ntmps183
    go_upto_region 2 with (go_at_call 221; refine (K1.out _).mono ?_; rintro e w9 ⟨rfl, rfl⟩)
    go_wp2_with (go_at_call 222; refine (wordsIn_any _ _).mono ?_; rintro e w5 ⟨rfl, hb5⟩)
    have hB5 : Below w.heap.size w w5 := ((Below.refl _ w).alloc (Nat.le_refl _) _).trans (hb5.mono (by simp))
    have hk5 : w5.heap[w.heap.size]? = some (.cells #[.string ⟨#[]⟩, .bool false] 275 (0, 0)) := (hb5.block w.heap.size (by simp)).trans (heap_alloc_new w _)
    have hS5 : w.heap.size < w5.heap.size := by have := hb5.size; simp at this; omega
    have hk1 : WordsBlk (w5.alloc (.cells #[.string B, .bool true] 275)) w5.heap.size B true := heap_alloc_new w5 _
    have hk0 : (w5.alloc (.cells #[.string B, .bool true] 275)).heap[w.heap.size]? = some (.cells #[.string ⟨#[]⟩, .bool false] 275 (0, 0)) := by
      rw [Below.heap_alloc _ _ _ hS5]; exact hk5
    have hB0 : Below w.heap.size w (w5.alloc (.cells #[.string B, .bool true] 275)) := hB5.alloc hB5.size _
    have hlt0 : w5.heap.size < (w5.alloc (.cells #[.string B, .bool true] 275)).heap.size := by simp
    obtain ⟨W0, hW0⟩ : ∃ W0, w5.alloc (.cells #[.string B, .bool true] 275) = W0 := ⟨_, rfl⟩
    rw [hW0] at hk1 hk0 hB0 hlt0
    try rw [hW0]
    have K3 := Lib.hid (K2.out _ W0 hB0 hk1)
    have HB0 := Lib.hid hB0
    have HK0 := Lib.hid hk0
    have HL5 := Lib.hid hlt0
    have HS5 := Lib.hid hS5
    clear hB5 hk5 hk1 hk0 hB0 hb5 hlt0 hS5
    refine K3.out.mono ?_
    rintro e w1 ⟨rfl, hw1, hg1⟩
    rw [HE.out] at hw1 ⊢
    obtain ⟨d0, d1, d2, d3, d4⟩ := hw1.cells
    have hk := (hg1.block w.heap.size (by have := HL5.out; have := HS5.out; omega) (by simp; have := HS5.out; omega)).trans HK0.out
    have c0 : w1.cell? ⟨w.heap.size, 0, none⟩ = some (.string ⟨#[]⟩) := by rw [cell_of_row w1 w.heap.size 0 _ _ (0, 0) hk]; rfl
    have c1 : w1.cell? ⟨w.heap.size, 1, none⟩ = some (.bool false) := by rw [cell_of_row w1 w.heap.size 1 _ _ (0, 0) hk]; rfl
    have f0 : w1.frozen? ⟨w.heap.size, 0, none⟩ = false := frozen_of_row w1 w.heap.size 0 _ _ hk
    have f1 : w1.frozen? ⟨w.heap.size, 1, none⟩ = false := frozen_of_row w1 w.heap.size 1 _ _ hk
    have HB1 : Hid (Below w.heap.size w w1) := Lib.hid (HB0.out.grown hg1 HB0.out.size (fun k h => by have := Option.some.inj h; have := HS5.out; omega))
    clear hk hw1 hg1
    go_wp2
  · refine bodyPost_ret (v := .tuple #[.agg #[.string ⟨#[]⟩, .bool false], .bool false]) (by simp [results, Tryz.results183, go_sem, c0, c1]) rfl (wordsOf_no HL.out ?_)
    exact (HB1.out.setCell (p := ⟨w.heap.size, 0, none⟩) (Nat.le_refl _) _).setCell (p := ⟨w.heap.size, 1, none⟩) (Nat.le_refl _) _
  · refine bodyPost_ret (v := .tuple #[.agg #[.string ⟨#[]⟩, .bool false], .bool false]) (by simp [results, Tryz.results183, go_sem, c0, c1]) rfl (wordsOf_no HL.out ?_)
    exact (HB1.out.setCell (p := ⟨w.heap.size, 0, none⟩) (Nat.le_refl _) _).setCell (p := ⟨w.heap.size, 1, none⟩) (Nat.le_refl _) _
  · have HY := wordsOf_yes (w := w) (w' := (w1.setCell ⟨w.heap.size, 0, none⟩ (.string (strB C.2.1))).setCell ⟨w.heap.size, 1, none⟩ (.bool C.2.2)) HL.out ((HB1.out.setCell (p := ⟨w.heap.size, 0, none⟩) (Nat.le_refl _) _).setCell (p := ⟨w.heap.size, 1, none⟩) (Nat.le_refl _) _)
    rw [HC.out] at HY
    exact bodyPost_ret (v := .tuple #[.agg #[.string (strB C.2.1), .bool C.2.2], .bool true]) (by simp [results, Tryz.results183, go_sem, c0, c1]) rfl HY
end Go.Proofs.YtpmjiifdnnhecaaGreatDoor
