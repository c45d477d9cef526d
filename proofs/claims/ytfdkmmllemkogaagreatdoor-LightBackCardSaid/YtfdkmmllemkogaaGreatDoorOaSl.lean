/-
  Texts: readWords and Integers of every line's words (given CutC, AtoiC, CutPrefixC).
-/
import Derived.Test.YtfdkmmllemkogaaGreatDoorOaSa
import Derived.Lib.SplitLaws
import Derived.Test.YtfdkmmllemkogaaGreatDoorOBd
import Derived.Test.YtfdkmmllemkogaaGreatDoorOZa
import Derived.Test.YtfdkmmllemkogaaGreatDoorOWv
import Derived.BigQuiet
import Derived.Test.YtfdkmmllemkogaaGreatDoorOZk
import Derived.Deep.AppendLies
import Derived.Deep.RegionHeldLaw
import Derived.Deep.RegionLaw
namespace Go.Proofs.YtfdkmmllemkogaaGreatDoor
open Go.RowKit
set_option linter.unusedVariables false
set_option linter.unusedSimpArgs false

/-- Below N all is as it was but for the block g. -/
structure Hole (N g : Nat) (w w' : World) : Prop where
  os : w'.os = w.os
  tape : w'.tape = w.tape
  output : w'.output = w.output
  size : w.heap.size ≤ w'.heap.size
  block : ∀ k, k < N → k ≠ g → w'.heap[k]? = w.heap[k]?
theorem Hole.refl (N g : Nat) (w : World) : Hole N g w w := ⟨rfl, rfl, rfl, Nat.le_refl _, fun _ _ _ => rfl⟩
theorem Hole.trans {N g : Nat} {a b c : World} (h : Hole N g a b) (k : Hole N g b c) : Hole N g a c :=
  ⟨k.os.trans h.os, k.tape.trans h.tape, k.output.trans h.output, Nat.le_trans h.size k.size, fun i hi hg => (k.block i hi hg).trans (h.block i hi hg)⟩
theorem Hole.of_below {N g : Nat} {w w' : World} (h : Below N w w') : Hole N g w w' := ⟨h.os, h.tape, h.output, h.size, fun k hk _ => h.block k hk⟩
theorem Hole.of_grown {N g : Nat} {w w' : World} (h : w.grownBy w' (some g)) (hN : N ≤ w.heap.size) : Hole N g w w' := ⟨h.os, h.tape, h.output, h.size, fun k hk hg => h.block k (by omega) (fun e => hg (Option.some.inj e))⟩
theorem Hole.mono {N N' g : Nat} {w w' : World} (h : Hole N g w w') (hN : N' ≤ N) : Hole N' g w w' := ⟨h.os, h.tape, h.output, h.size, fun k hk => h.block k (by omega)⟩
theorem Hole.below {N g : Nat} {w w' : World} (h : Hole N g w w') (hg : N ≤ g) : Below N w w' := ⟨h.os, h.tape, h.output, h.size, fun k hk => h.block k hk (by omega)⟩
theorem MaxAt.hole {w w' : World} {g : Nat} {r : ByteArray} {m : Bool} (h : MaxAt w) (hg : WordsBlk w g r m) (hb : Hole w.heap.size g w w') : MaxAt w' := by
  obtain ⟨n, hn⟩ := h
  have hl := World.block_lt_of_cell? _ _ hn
  have hne : 1 ≠ g := by
    rintro rfl
    rw [hg.cells.1] at hn; cases hn
  refine ⟨n, ?_⟩
  rw [World.cell?_of_block (hb.block _ hl hne)]; exact hn

theorem MaxAt.late {w0 w w' : World} (h0 : MaxAt w0) (h : MaxAt w) (hb : Below w0.heap.size w w') : MaxAt w' := by
  obtain ⟨n, hn⟩ := h
  obtain ⟨n0, hn0⟩ := h0
  have hl := World.block_lt_of_cell? _ _ hn0
  exact ⟨n, by rw [World.cell?_of_block (hb.block _ hl)]; exact hn⟩
theorem owns_on {w w' : World} {B T sz n : Nat} {v : Value} {xs : List Value} (h : w.ownsRow B T sz v n xs) (hb : Below w.heap.size w w') : w'.ownsRow B T sz v n xs :=
  h.kept (grown_below (row := none) hb) (by cases v.ownBlock <;> simp)

theorem wordsL_step (rest : ByteArray) : wordsL rest true = (Lib.cut (listB rest) [32]).1 :: wordsL (strB (Lib.cut (listB rest) [32]).2.1) (Lib.cut (listB rest) [32]).2.2 := by
  show pieces 32 (listB rest) = _
  rw [pieces_cut]
  cases (Lib.cut (listB rest) [32]).2.2
  · rfl
  · rfl
theorem cut_sizes (l : List UInt8) : (Lib.cut l [32]).1.length ≤ l.length ∧ (Lib.cut l [32]).2.1.length ≤ l.length := by
  unfold Lib.cut
  split
  · rw [List.length_take, List.length_drop]; omega
  · simp
/-- How many words are left. -/
noncomputable def leftW (w : World) (g : Nat) : Nat :=
  match w.cell? ⟨g, 0, none⟩, w.cell? ⟨g, 1, none⟩ with
  | some (.string r), some (.bool m) => (wordsL r m).length
  | _, _ => 0
theorem leftW_eq {w : World} {g : Nat} {r : ByteArray} {m : Bool} (h : WordsBlk w g r m) : leftW w g = (wordsL r m).length := by
  unfold leftW; rw [h.cells.1, h.cells.2.1]
/-- All words are integers. -/
noncomputable def intsB (L : List (List UInt8)) : Bool := L.all fun x => intB (strB x)
noncomputable def intsV (L : List (List UInt8)) : List Int := L.map fun x => intV (strB x)
/-- What readWords answers, and what it leaves. -/
def ReadV (w : World) (g : Nat) (L : List (List UInt8)) (e : Ending) (w' : World) : Prop :=
  ∃ u, e = .returned (.tuple #[u, .bool (intsB L)]) ∧ (intsB L = true → w'.ownsRow w.heap.size 3 1 u L.length ((intsV L).map (Value.int .i64))) ∧ (intsB L = false → u = .slice none 0 0) ∧ Hole w.heap.size g w w'
theorem read_yes {w w' : World} {g : Nat} {L : List (List UInt8)} {u : Value} (h : intsB L = true) (hu : w'.ownsRow w.heap.size 3 1 u L.length ((intsV L).map (Value.int .i64))) (hb : Hole w.heap.size g w w') : ReadV w g L (.returned (.tuple #[u, .bool true])) w' :=
  ⟨u, by rw [h], fun _ => hu, fun h' => (by rw [h] at h'; cases h'), hb⟩
theorem read_no {w w' : World} {g : Nat} {L : List (List UInt8)} (h : intsB L = false) (hb : Hole w.heap.size g w w') : ReadV w g L (.returned (.tuple #[.slice none 0 0, .bool false])) w' :=
  ⟨_, by rw [h], fun h' => (by rw [h] at h'; cases h'), fun _ => rfl, hb⟩

set_option maxRecDepth 100000 in
set_option maxHeartbeats 3200000 in
theorem readWords_any (hC : CutC) (hA : AtoiC) (hP : CutPrefixC) (g : Nat) (rest : ByteArray) (more : Bool) (w : World) (hs : rest.size ≤ 1000001) (hm : MaxAt w) (h : WordsBlk w g rest more) :
    Calls Tryz.prog 240 #[.func (.func 223) #[.pointer (some ⟨g, 0, none⟩)] #[], .func (.func 241) #[] #[]] w (ReadV w g (wordsL rest more)) := by
  obtain ⟨i0, hi, hz0, hz1, hz2⟩ := info_parts Tryz.infoInt
  have hlt := h.cells.2.2.2.2
  obtain ⟨L, hL⟩ : ∃ L, wordsL rest more = L := ⟨_, rfl⟩
  have hlen : L.length ≤ 1000002 := by
    rw [← hL]; unfold wordsL; split
    · have h1 := (splitL_len rest 32).2
      have h2 := congrArg List.length (splitL_pieces rest 32)
      rw [List.length_map] at h2
      have h3 : ((32 : UInt8).toNat : Int) = 32 := rfl
      rw [h3] at h2; omega
    · simp
  have HI : Hid (∀ (s : ByteArray) (W : World), s.size ≤ 1000001 → Calls Tryz.prog 241 #[.string s] W fun e w' => e = .returned (intR s) ∧ Below W.heap.size W w') :=
    Lib.hid fun s W hs => integerW_any hA hP s W (by unfold maxLen; omega)
  have HN : Hid (∀ (r : ByteArray) (W : World), r.size ≤ 1000001 → MaxAt W → WordsBlk W g r true → Calls Tryz.prog 223 #[.pointer (some ⟨g, 0, none⟩)] W (NextV W g r)) :=
    Lib.hid fun r W h1 h2 h3 => next_yes hC g r W h1 h2 h3
  have HL := Lib.hid hL
  have H0 := Lib.hid h
  have HM := Lib.hid hm
  have HS := Lib.hid hs
  rw [hL]
  clear hL hC hA hP h hm hs
  go_enter Tryz.func240, Tryz.ntmps240
  go_wp2
  go_loopw [6] (fun out wr => ∃ (k : Nat) (r : ByteArray) (m : Bool), k ≤ L.length ∧ r.size ≤ 1000001 ∧ Hid (wordsL r m = L.drop k) ∧ WordsBlk wr g r m ∧ Hid (intsB (L.take k) = true) ∧ wr.ownsRow w.heap.size 3 1 out k (((intsV L).map (Value.int .i64)).take k) ∧ Hid (MaxAt wr) ∧ Hole w.heap.size g w wr)
    (fun _ wr => leftW wr g)
  case atStart => exact ⟨0, rest, more, Nat.zero_le _, HS.out, Lib.hid HL.out, H0.out, Lib.hid rfl, World.ownsRow_nil _ _ _ _, HM, Hole.refl _ _ _⟩
  case round =>
    obtain ⟨k, r, m, hk, hr, hw, hblk, ht, hown, hmx, hho⟩ := hrel
    have hsz := hho.size
    cases m with
    | false =>
      have hke : k = L.length := by
        have := congrArg List.length hw.out
        rw [List.length_drop] at this
        have e : (wordsL r false).length = 0 := rfl
        omega
      have HT : Hid (intsB L = true) := Lib.hid (by have := ht.out; rwa [hke, List.take_length] at this)
      have HO : Hid (wr.ownsRow w.heap.size 3 1 _ L.length ((intsV L).map (Value.int .i64))) := Lib.hid (by
        have := hown
        rwa [List.take_of_length_le (by unfold intsV; simp; omega), hke] at this)
      have HH := Lib.hid hho
      clear hown hho hke
      go_wp2_with fail
      refine (next_no g r _ hblk).mono ?_
      rintro e w9 ⟨rfl, rfl⟩
      clear hblk
      go_wp2
      go_ret2
      exact read_yes HT.out HO.out HH.out
    | true =>
      have hst := (wordsL_step r).symm.trans hw.out
      obtain ⟨c1, c2⟩ := cut_sizes (listB r)
      rw [listB_len] at c1 c2
      have KN := Lib.hid (HN.out r wr hr hmx.out hblk)
      obtain ⟨C, hC⟩ : ∃ C, Lib.cut (listB r) [32] = C := ⟨_, rfl⟩
      rw [hC] at hst c1 c2
      have HC := Lib.hid hC
      have hlt2 : k < L.length := by
        have := congrArg List.length hst
        rw [List.length_drop, List.length_cons] at this; omega
      have hxL : L[k]? = some C.1 := by
        have : (L.drop k)[0]? = some C.1 := by rw [← hst]; rfl
        rw [List.getElem?_drop] at this; simpa using this
      have hdrop : wordsL (strB C.2.1) C.2.2 = L.drop (k + 1) := by
        have : (L.drop k).drop 1 = wordsL (strB C.2.1) C.2.2 := by rw [← hst]; rfl
        rw [← this, List.drop_drop]
      have KI := Lib.hid (fun W => HI.out (strB C.1) W (by rw [strB_size]; omega))
      have htake : L.take (k + 1) = L.take k ++ [C.1] := by rw [List.take_add_one, hxL]; rfl
      have hvk : ((intsV L).map (Value.int .i64)).take (k + 1) = ((intsV L).map (Value.int .i64)).take k ++ [.int .i64 (intV (strB C.1))] := by
        rw [List.take_add_one]
        unfold intsV
        rw [List.getElem?_map, List.getElem?_map, hxL]; rfl
      have HD := Lib.hid hdrop
      have HV := Lib.hid hvk
      have hc2 : (strB C.2.1).size ≤ 1000001 := by rw [strB_size]; omega
      have hlm : (wordsL (strB C.2.1) C.2.2).length < (wordsL r true).length := by
        rw [hdrop, hw.out, List.length_drop, List.length_drop]; omega
      have HLM := Lib.hid hlm
      have hcl := leftW_eq hblk
      have HCL := Lib.hid hcl
      have hcase : (intB (strB C.1) = true ∧ intsB (L.take (k + 1)) = true) ∨ (intB (strB C.1) = false ∧ intsB L = false) := by
        cases hb : intB (strB C.1)
        · exact .inr ⟨rfl, by unfold intsB; rw [List.all_eq_false]; exact ⟨C.1, List.mem_of_getElem? hxL, by rw [hb]; decide⟩⟩
        · refine .inl ⟨rfl, ?_⟩
          have := ht.out
          unfold intsB at this ⊢
          rw [htake, List.all_append, this]; simp [hb]
      clear hdrop hvk htake hxL hst hC hlm hcl
      rcases hcase with ⟨hb, ht1⟩ | ⟨hb, ht1⟩
      · have HR := Lib.hid (intR_yes hb)
        have HT1 := Lib.hid ht1
        obtain ⟨v, hv⟩ : ∃ v, intV (strB C.1) = v := ⟨_, rfl⟩
        rw [hv] at HR HV
        clear hb ht1 hv
        go_wp2_with fail
        refine KN.out.mono ?_
        rintro e w1 ⟨rfl, hw1, hg1⟩
        rw [HC.out] at hw1 ⊢
        have hs1 := hg1.size
        have HW1 := Lib.hid hw1
        have HG1 := Lib.hid hg1
        have hown1 := hown.kept hg1 (by
          rcases hown.2 with ⟨e, _⟩ | ⟨gg, cap, cur, e, hbb, _⟩
          · rw [e]; exact .inl rfl
          · rw [e]; exact .inr (fun h => by have := Option.some.inj h; simp at this; omega))
        have hmx1 : Hid (MaxAt w1) := Lib.hid (hmx.out.hole hblk (Hole.of_grown hg1 (Nat.le_refl _)))
        have hho1 : Hid (Hole w.heap.size g w w1) := Lib.hid (hho.trans (Hole.of_grown hg1 hsz))
        clear hown hho hmx hblk hw1 hg1
        go_wp2_with fail
        refine (KI.out _).mono ?_
        rintro e w2 ⟨rfl, hb2⟩
        rw [HR.out]
        have hs2 := hb2.size
        have hown2 := owns_on hown1 hb2
        have HW2 := Lib.hid (HW1.out.on hb2 HW1.out.cells.2.2.2.2)
        have hmx2 := Lib.hid (hmx1.out.on hb2)
        have hho2 : Hid (Hole w.heap.size g w w2) := Lib.hid (hho1.out.trans ((Hole.of_below hb2).mono (by omega)))
        clear hown1 hb2
        go_wp2_with (at_builtin; refine wpList_append_own _ rfl (.tmp 27) (.tmp 29) 25 rfl w.heap.size 3 i0 (.int .i64 0) 1 8 Tryz.underlying25 hi hz0 hz1 hz2 rfl (by decide) _ k _ rfl (hown2.alloc _) ⟨w2.heap.size, 0, none⟩ 1 1 [.int .i64 v] rfl rfl (cell_one_new _ _ _) (by intro u hu; simp at hu; subst hu; rfl) (by unfold maxLen; omega) (by omega) (by simp; omega) ?_; intro v' w3 hown3 hgrow3 _)
        have hbl : Below w.heap.size w2 w3 := ((Below.refl _ w2).alloc (by omega) _).grown hgrow3 (by simp; omega) (fun q hq => (hown2.lt q hq).1)
        have HBL := Lib.hid hbl
        clear hbl
        go_roundw
        case rel => exact ⟨k + 1, strB C.2.1, C.2.2, by omega, hc2, HD, HW2.out.on HBL.out hlt, HT1, by rw [HV.out]; exact hown3, Lib.hid (HM.out.late hmx2.out HBL.out), hho2.out.trans (Hole.of_below HBL.out)⟩
        case measure => rw [leftW_eq (HW2.out.on HBL.out hlt), HCL.out]; exact HLM.out
      · have HR := Lib.hid (intR_bad hb)
        have HT1 := Lib.hid ht1
        clear hb ht1
        go_wp2_with fail
        refine KN.out.mono ?_
        rintro e w1 ⟨rfl, hw1, hg1⟩
        rw [HC.out] at hw1 ⊢
        have hho1 : Hid (Hole w.heap.size g w w1) := Lib.hid (hho.trans (Hole.of_grown hg1 hsz))
        have hs1 := hg1.size
        clear hown hho hmx hblk hw1 hg1
        go_wp2_with fail
        refine (KI.out _).mono ?_
        rintro e w2 ⟨rfl, hb2⟩
        rw [HR.out]
        have hho2 : Hid (Hole w.heap.size g w w2) := Lib.hid (hho1.out.trans ((Hole.of_below hb2).mono (by omega)))
        clear hb2
        go_wp2
        go_ret2
        exact read_no HT1.out hho2.out
end Go.Proofs.YtfdkmmllemkogaaGreatDoor

/-
  Texts: the lines of strings.SplitAfter are the pieces, each but the last one with its end.
-/
namespace Go.Proofs.YtfdkmmllemkogaaGreatDoor
open Go.RowKit Go.Lib
set_option linter.unusedVariables false
set_option linter.unusedSimpArgs false

/-- Pieces with their ends, the last one without. -/
def ended (c : UInt8) : List (List UInt8) → List (List UInt8)
  | [] => []
  | p :: ps => if ps = [] then [p] else (p ++ [c]) :: ended c ps
theorem index_cons (c b : UInt8) (l : List UInt8) : Lib.index (b :: l) [c] = if b = c then 0 else if Lib.index l [c] = -1 then -1 else Lib.index l [c] + 1 := by
  show (if List.isPrefixOf [c] (b :: l) then _ else _) = _
  by_cases e : b = c
  · subst e; simp [List.isPrefixOf]
  · have e' : ¬ c = b := fun h => e h.symm
    simp [List.isPrefixOf, e, e']
theorem index_at (c : UInt8) : ∀ (l : List UInt8) (i : Nat), Lib.index l [c] = i → l[i]? = some c
  | [], i, h => by
    have : Lib.index [] [c] = -1 := rfl
    omega
  | b :: l, i, h => by
    rw [index_cons] at h
    by_cases e : b = c
    · rw [if_pos e] at h
      have : i = 0 := by omega
      subst this; rw [e]; rfl
    · rw [if_neg e] at h
      have hge := Lib.index_ge l [c]
      by_cases hm : Lib.index l [c] = -1
      · rw [if_pos hm] at h; omega
      · rw [if_neg hm] at h
        obtain ⟨j, rfl⟩ : ∃ j, i = j + 1 := ⟨i - 1, by omega⟩
        have := index_at c l j (by omega)
        simpa using this
theorem lines_pieces (c : UInt8) : ∀ (k : Nat) (l : List UInt8), Lib.count l [c] = k → Lib.splitK [c] 1 k l = ended c (pieces c l)
  | 0, l, h => by
    have hge := Lib.index_ge l [c]
    have hm : Lib.index l [c] = -1 := by
      by_cases hm : Lib.index l [c] = -1
      · exact hm
      · have := Lib.count_hit (s := l) (sub := [c]) (i := (Lib.index l [c]).toNat) (by simp) (by omega)
        omega
    have hc : Lib.cut l [c] = (l, [], false) := by unfold Lib.cut; rw [hm]; rfl
    rw [pieces_cut, hc]; rfl
  | k + 1, l, h => by
    have hge := Lib.index_ge l [c]
    by_cases hm : Lib.index l [c] = -1
    · rw [Lib.count_miss hm] at h; omega
    · obtain ⟨i, hi⟩ : ∃ i : Nat, Lib.index l [c] = i := ⟨(Lib.index l [c]).toNat, by omega⟩
      have hh := Lib.count_hit (s := l) (sub := [c]) (i := i) (by simp) hi
      have hc : Lib.cut l [c] = (l.take i, l.drop (i + 1), true) := by unfold Lib.cut; rw [hi, if_pos (by omega)]; simp
      have ih := lines_pieces c k (l.drop (i + 1)) (by
        have : ([c] : List UInt8).length = 1 := rfl
        rw [this] at hh; omega)
      have hat := index_at c l i hi
      have ht : l.take (i + 1) = l.take i ++ [c] := by rw [List.take_add_one, hat]; rfl
      obtain ⟨P, q, hP⟩ := pieces_ex c (l.drop (i + 1))
      have hne : pieces c (l.drop (i + 1)) ≠ [] := by rw [hP]; simp
      rw [pieces_cut c l, hc]
      show (if (Lib.index l [c] == -1) = true then [l] else l.take ((Lib.index l [c]).toNat + 1) :: Lib.splitK [c] 1 k (l.drop ((Lib.index l [c]).toNat + 1))) = ended c (l.take i :: pieces c (l.drop (i + 1)))
      have e1 : (Lib.index l [c]).toNat = i := by omega
      rw [if_neg (by simpa using hm), e1, ih, ht]
      show _ = if _ then _ else _
      rw [if_neg hne]
end Go.Proofs.YtfdkmmllemkogaaGreatDoor

/-
  Contracts of At and Total for every map: the error of the map, or of the place, or the sample and the light.
-/

namespace Go.Proofs.YtfdkmmllemkogaaGreatDoor
open Go.RowKit
open Ieee (Format single)
set_option linter.unusedVariables false
set_option linter.unusedSimpArgs false

/-- The integer of a sample's word. -/
def kOf (x : Nat) : Int :=
  match single.read x with
  | .number s m e => sgn s (m * 2 ^ (e - single.leastPlace).toNat / 2 ^ 145)
  | _ => 0

theorem smp_kOf {x : Nat} (h : smpErr x = 0) : Smp x (kOf x) ∧ (kOf x).natAbs ≤ 16384 := by
  rcases smp_class x with ⟨a, b, hd⟩ | ⟨s, hd⟩ | ⟨s, v, hn, _⟩
  · rw [smpErr_nan hd] at h; cases h
  · rw [smpErr_inf hd] at h; cases h
  · rw [smpErr_num hn] at h
    split at h
    · rename_i hh
      obtain ⟨h1, h2⟩ := hh
      have e : v = v / 2 ^ 145 * 2 ^ 145 := by
        have := Nat.div_add_mod v (2 ^ 145)
        rw [h2, Nat.add_zero, Nat.mul_comm] at this; exact this.symm
      have hq : v / 2 ^ 145 ≤ 16384 := by
        have := Nat.div_le_div_right (c := 2 ^ 145) h1
        have e2 : 1024 * 2 ^ 149 = 16384 * 2 ^ 145 := by decide +kernel
        rwa [e2, Nat.mul_div_cancel _ (Nat.two_pow_pos _)] at this
      have hk : kOf x = sgn s (v / 2 ^ 145) := by
        obtain ⟨m, i, k1, _, _, k4⟩ := hn
        unfold kOf
        rw [k1]
        dsimp only
        rw [k4]
      rw [hk]
      generalize v / 2 ^ 145 = p at e hq
      have hpa : (sgn s p).natAbs = p := by unfold sgn; cases s <;> simp
      refine ⟨⟨s, ?_, ?_, ?_⟩, by rw [hpa]; exact hq⟩
      · rw [hpa, ← e]; exact hn
      · intro hs; unfold sgn at hs; cases s
        · simp only [Bool.false_eq_true, if_false] at hs; omega
        · rfl
      · intro hs; unfold sgn at hs; cases s
        · rfl
        · simp only [if_true] at hs; omega
    · cases h

theorem mapErr_smps {W H : Int} {n : Nat} {xs : List Nat} (hx : xs.length = n) (h : mapErr W H n xs = 0) : ∀ j, j < n → smpErr (xs[j]?.getD 0) = 0 := by
  intro j hj
  unfold mapErr at h
  split at h
  · split at h
    · refine firstNZ_all h _ (List.mem_map.2 ⟨xs[j]?.getD 0, ?_, rfl⟩)
      rw [List.getElem?_eq_getElem (by omega)]
      exact List.getElem_mem _
    · cases h
  · rename_i h0; exact absurd h h0

theorem AnyMap.rightK {w : World} {W H : Int} {a : Option Addr} {n c : Nat} {xs : List Nat} (h : AnyMap w a n c xs) (h0 : mapErr W H n xs = 0) :
    ∃ b o, a = some ⟨b, o, none⟩ ∧ b < w.heap.size ∧ RightMap w W H b o n xs (xs.map kOf) := by
  obtain ⟨b, o, ks, ha, hb, hr⟩ := h.right h0
  have hk : ∀ j, j < n → (xs.map kOf)[j]?.getD 0 = kOf (xs[j]?.getD 0) := fun j hj => by
    have := hr.len
    rw [List.getElem?_map, List.getElem?_eq_getElem (by omega)]; rfl
  have hs := mapErr_smps h.len h0
  exact ⟨b, o, ha, hb, ⟨⟨hr.len, by rw [List.length_map]; exact hr.len, hr.small, hr.cells, hr.words, fun j hj => by rw [hk j hj]; exact (smp_kOf (hs j hj)).1, fun j hj => by rw [hk j hj]; exact (smp_kOf (hs j hj)).2⟩, hr.wid, hr.hei, hr.area⟩⟩

/-- CheckMap, in the words of AnyMap. -/
theorem checkMap_map (W H : Int) (a : Option Addr) (n c : Nat) (xs : List Nat) (w : World) (h : AnyMap w a n c xs) :
    Calls Tryz.prog 47 #[.agg #[.int .i64 W, .int .i64 H, .slice a n c]] w fun e w' => e = .returned (.int .i64 (mapErr W H n xs)) ∧ Below w.heap.size w w' :=
  checkMap_all W H a n c xs h.len w h.words h.cells
theorem refCheckMap_map (W H : Int) (a : Option Addr) (n c : Nat) (xs : List Nat) (w : World) (h : AnyMap w a n c xs) :
    Calls Tryz.prog 41 #[.agg #[.int .i64 W, .int .i64 H, .slice a n c]] w fun e w' => e = .returned (.int .i64 (mapErr W H n xs)) ∧ Below w.heap.size w w' :=
  refCheckMap_all W H a n c xs h.len w h.cells

/-! ### At -/

def inPlace (W H X Y : Int) : Prop := 0 ≤ X ∧ X < W ∧ 0 ≤ Y ∧ Y < H
instance (W H X Y : Int) : Decidable (inPlace W H X Y) := by unfold inPlace; infer_instance
end Go.Proofs.YtfdkmmllemkogaaGreatDoor

/-
  Contracts of Peak, of the reference for a right map and of the program for every map.
-/
namespace Go.Proofs.YtfdkmmllemkogaaGreatDoor
open Go.RowKit
set_option linter.unusedVariables false
set_option linter.unusedSimpArgs false

theorem order_gt {x y : Nat} {k l : Int} (hx : Smp x k) (hy : Smp y l) : (Ieee.single.order x y == some .gt) = decide (l < k) := by
  rw [hx.order hy]
  by_cases h : l < k
  · rw [cmp_gt_of h, decide_eq_true h]; rfl
  · rw [decide_eq_false h]
    have : compare k l ≠ .gt := by
      show compareOfLessAndEq _ _ ≠ _
      unfold compareOfLessAndEq
      split
      · simp
      · split
        · simp
        · omega
    cases hc : compare k l <;> simp_all

end Go.Proofs.YtfdkmmllemkogaaGreatDoor

/-
  Contract of the reference's Made, the map with integers, where no integer is large.
-/
namespace Go.Proofs.YtfdkmmllemkogaaGreatDoor
open Go.RowKit
set_option linter.unusedVariables false
set_option linter.unusedSimpArgs false

theorem blk_last {w : World} {B : Nat} {T : TypeId} {x y z : Value} (h : w.heap[B]? = some (.cells #[x, y, z] T (0, 0))) (c : Value) : (w.setCell ⟨B, 2, none⟩ c).heap[B]? = some (.cells #[x, y, c] T (0, 0)) := by
  simp only [World.setCell, Array.getElem?_modify, if_true, h, Option.map_some]
  simp
theorem setCell_other {w : World} {B C i : Nat} {c : Value} (h : B ≠ C) : (w.setCell ⟨B, i, none⟩ c).heap[C]? = w.heap[C]? := by
  simp [World.setCell, Array.getElem?_modify, h]

end Go.Proofs.YtfdkmmllemkogaaGreatDoor
