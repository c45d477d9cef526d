/-
  Texts: Natural of every word (where Atoi answers as it should: AtoiC), and Integer.
-/
import Derived.Test.YtpmjiifdnnhecaaGreatDoorOaaSa
import Derived.Test.YtpmjiifdnnhecaaGreatDoorOaaFa
import Derived.Test.YtpmjiifdnnhecaaGreatDoorOaaSh
import Derived.Lib.SplitLaws
namespace Go.Proofs.YtpmjiifdnnhecaaGreatDoor
open Go.RowKit
set_option linter.unusedVariables false
set_option linter.unusedSimpArgs false

/-- What strconv.Atoi answers where a word is a number. -/
def AtoiC : Prop := ∀ (s : ByteArray) (w : World), natP s → Calls Tryz.prog 257 #[.string s] w fun e w' => e = .returned (.tuple #[.int .i64 (digV s s.size), .nilIface]) ∧ Below w.heap.size w w'

theorem list_one {s : ByteArray} : (s.toList == [48]) = decide (s.size = 1 ∧ byteI s 0 = 48) := by
  rw [Bool.eq_iff_iff, decide_eq_true_iff, beq_iff_eq, ByteArray.toList_eq]
  cases s with | mk d =>
    cases d with | mk l =>
      constructor
      · intro h
        simp at h; subst h
        exact ⟨rfl, by rw [byteI_at (show 0 < (⟨⟨[48]⟩⟩ : ByteArray).size from Nat.zero_lt_one)]; rfl⟩
      · rintro ⟨h1, h2⟩
        match l, h1, h2 with
        | [b], _, h2 =>
          rw [byteI_at (show 0 < (⟨⟨[b]⟩⟩ : ByteArray).size from Nat.zero_lt_one)] at h2
          have h3 : b.toNat = 48 := by have : ((b.toNat : Nat) : Int) = 48 := h2; omega
          have : b = 48 := UInt8.toNat_inj.1 h3
          rw [this]

set_option maxRecDepth 100000 in
set_option maxHeartbeats 3200000 in
theorem natural_any (hA : AtoiC) (s : ByteArray) (w : World) (hm : s.size ≤ maxLen) :
    Calls Tryz.prog 245 #[.string s, .int .i64 9] w fun e w' => e = .returned (natR s) ∧ Below w.heap.size w w' := by
  unfold maxLen at hm
  have KA := Lib.hid hA
  clear hA
  by_cases h0 : s.size = 0
  · have H := Lib.hid (natR_no (s := s) (fun h => by have := h.1; omega))
    have e0 : ((s.size : Int) == 0) = true := by simp [h0]
    clear h0
    go_enter Tryz.func245, Tryz.ntmps245
    go_wp2
    go_ret2
    exact ⟨ret_nat H.out, Below.refl _ _⟩
  have e0 : ((s.size : Int) == 0) = false := by simp [h0]
  by_cases h1 : 9 < s.size
  · have H := Lib.hid (natR_no (s := s) (fun h => by have := h.2.1; omega))
    go_enter Tryz.func245, Tryz.ntmps245
    go_wp2
    go_ret2
    exact ⟨ret_nat H.out, Below.refl _ _⟩
  have h00 : 0 < s.size := by omega
  have el := list_one (s := s)
  by_cases hz : ((s[0]'h00).toNat : Int) = 48 ∧ 1 < s.size
  · have H := Lib.hid (natR_no (s := s) (fun h => by have h3 := h.2.2.1; rw [byteI_at h00] at h3; have := h3 hz.1; omega))
    obtain ⟨hz1, hz2⟩ := hz
    have ez : (((s[0]'h00).toNat : Int) == 48) = true := by simp [hz1]
    rw [decide_eq_false (by omega)] at el
    clear hz1
    go_enter Tryz.func245, Tryz.ntmps245
    go_wp2
    go_ret2
    exact ⟨ret_nat H.out, Below.refl _ _⟩
  have hz' := Lib.hid (show byteI s 0 = 48 → s.size = 1 from fun h => by rw [byteI_at h00] at h; omega)
  have hgo : (((s[0]'h00).toNat : Int) == 48) = false ∨ ((((s[0]'h00).toNat : Int) == 48) = true ∧ (s.toList == [48]) = true) := by
    by_cases h2 : ((s[0]'h00).toNat : Int) = 48
    · exact .inr ⟨by simp [h2], by rw [el]; exact decide_eq_true ⟨by omega, by rw [byteI_at h00]; exact h2⟩⟩
    · exact .inl (by simp [h2])
  clear hz el
  have KD : Hid (∀ (c : Int) (w : World), digP c → Calls Tryz.prog 216 #[.int .i32 c] w fun e w' => e = .returned (.bool true) ∧ w = w') := Lib.hid fun c w h => isDigit_yes c h w
  have KE : Hid (∀ (c : Int) (w : World), ¬ digP c → Calls Tryz.prog 216 #[.int .i32 c] w fun e w' => e = .returned (.bool false) ∧ w = w') := Lib.hid fun c w h => isDigit_no c h w
  rcases hgo with ez | ⟨ez, es⟩
  all_goals
    go_enter Tryz.func245, Tryz.ntmps245
    go_wp2
    go_loopw [7] (fun i wr => ∃ k : Nat, k ≤ s.size ∧ wr = w.iter s k ∧ Hid (digTo s k)) (fun _ wr => s.size - wr.iterPos w.heap.size)
    case atStart => exact ⟨0, Nat.zero_le _, rfl, Lib.hid (fun i hi => by omega)⟩
    case round =>
      obtain ⟨k, hk, rfl, hh⟩ := hrel
      have hbw : Below w.heap.size w (w.iter s k) := (Below.refl _ w).alloc (Nat.le_refl _) _
      have HBW := Lib.hid hbw
      clear hbw
      by_cases hlt : k < s.size
      · have hnd := Lib.hid (not_dgt hlt)
        have hst := Lib.hid (digTo_step hlt hh.out)
        by_cases ha : (s[k]'hlt).toNat < 128
        · have hnx : ∀ ty, (Instr.next (.pointer (some ⟨w.heap.size, 0, none⟩)) true ty).run Tryz.prog (w.iter s k) = _ := fun ty => run_next_ascii w s k ty hlt ha
          have hz : Hid (Below w.heap.size w (w.iter s (k + 1))) := Lib.hid ((Below.refl _ w).alloc (Nat.le_refl _) _)
          obtain ⟨c, hc⟩ : ∃ c : Int, ((s[k]'hlt).toNat : Int) = c := ⟨_, rfl⟩
          by_cases hd : digP c
          · have HD := Lib.hid hd
            have HS := Lib.hid (hst.out (by rw [hc]; exact hd.1) (by rw [hc]; exact hd.2))
            clear hd
            go_wp2_with (go_at_call 216; refine (KD.out _ _ HD.out).mono ?_; rintro e w9 ⟨rfl, rfl⟩)
            go_roundw
            case rel => exact ⟨k + 1, by omega, rfl, HS⟩
            case measure => simp; omega
          · have HD := Lib.hid hd
            have H := Lib.hid (natR_no (hnd.out (by unfold digP at hd; omega)))
            clear hd
            go_wp2_with (go_at_call 216; refine (KE.out _ _ HD.out).mono ?_; rintro e w9 ⟨rfl, rfl⟩)
            go_ret2
            exact ⟨ret_nat H.out, hz.out⟩
        · have hnx : ∀ ty, (Instr.next (.pointer (some ⟨w.heap.size, 0, none⟩)) true ty).run Tryz.prog (w.iter s k) = _ := fun ty => run_next_any w s k ty hlt
          have hz : Hid (Below w.heap.size w (w.iter s (k + (Utf8.decode s k).2))) := Lib.hid ((Below.refl _ w).alloc (Nat.le_refl _) _)
          have hh8 := (decode_high s k hlt (by omega)).1
          have H := Lib.hid (natR_no (hnd.out (by omega)))
          obtain ⟨c, hc⟩ : ∃ c : Int, ((Utf8.decode s k).1 : Int) = c := ⟨_, rfl⟩
          have hc8 : 128 ≤ c := by omega
          have HD : Hid (¬ digP c) := Lib.hid (by unfold digP; omega)
          clear ha hh8
          go_wp2_with (go_at_call 216; refine (KE.out _ _ HD.out).mono ?_; rintro e w9 ⟨rfl, rfl⟩)
          go_ret2
          exact ⟨ret_nat H.out, hz.out⟩
      · obtain rfl : k = s.size := by omega
        have hnx : ∀ ty, (Instr.next (.pointer (some ⟨w.heap.size, 0, none⟩)) true ty).run Tryz.prog (w.iter s s.size) = _ := fun ty => run_next_end w s s.size ty hlt
        have hp : natP s := ⟨by omega, by omega, hz'.out, hh.out⟩
        have H := Lib.hid (natR_yes hp)
        have K := Lib.hid (fun w => KA.out s w hp)
        clear hp
        go_wp2_with (go_at_call 257; refine (K.out _).mono ?_; rintro e w9 ⟨rfl, hb9⟩; have HB9 := Lib.hid (Below.trans HBW.out (Below.mono hb9 (Below.size HBW.out))); clear hb9)
        go_ret2
        exact ⟨ret_nat H.out, HB9.out⟩
end Go.Proofs.YtpmjiifdnnhecaaGreatDoor

/-
  Texts: Integer of every word (given AtoiC and CutPrefixC: what strings.CutPrefix answers for a sign).
-/

namespace Go.Proofs.YtpmjiifdnnhecaaGreatDoor
open Go.RowKit
set_option linter.unusedVariables false
set_option linter.unusedSimpArgs false

/-- What strings.CutPrefix answers for a sign. -/
def CutPrefixC : Prop := ∀ (s : ByteArray) (w : World),
  (minusP s → Calls Tryz.prog 244 #[.string s, .string ⟨#[45]⟩] w fun e w' => e = .returned (.tuple #[.string (restB s), .bool true]) ∧ w' = w) ∧
  (¬ minusP s → Calls Tryz.prog 244 #[.string s, .string ⟨#[45]⟩] w fun e w' => e = .returned (.tuple #[.string s, .bool false]) ∧ w' = w)

set_option maxRecDepth 100000 in
set_option maxHeartbeats 3200000 in
theorem integerW_any (hA : AtoiC) (hC : CutPrefixC) (s : ByteArray) (w : World) (hm : s.size ≤ maxLen) :
    Calls Tryz.prog 231 #[.string s] w fun e w' => e = .returned (intR s) ∧ Below w.heap.size w w' := by
  have hm0 := hm
  unfold maxLen at hm
  by_cases hp : minusP s
  · have h00 : 0 < s.size := hp.1
    have K1 := Lib.hid ((hC s w).1 hp)
    have K2 := Lib.hid (natural_any hA (restB s) w (by unfold maxLen; rw [restB_size h00]; omega))
    by_cases hb : natB (restB s) = true
    · obtain ⟨n0, n1⟩ := natV_small (restB s)
      by_cases hv : natV (restB s) = 0
      · have H := Lib.hid (intR_no hp (.inr hv))
        unfold natR at K2
        rw [hb] at K2
        obtain ⟨v, hvv⟩ : ∃ v, natV (restB s) = v := ⟨_, rfl⟩
        rw [hvv] at hv K2
        have ev : (v == 0) = true := by simp [hv]
        clear hv hvv hp hb n0 n1 hA hC
        go_enter Tryz.func231, Tryz.ntmps231
        go_wp2_with (first
          | (go_at_call 244; refine K1.out.mono ?_; rintro e w9 ⟨rfl, rfl⟩)
          | (go_at_call 245; refine K2.out.mono ?_; rintro e w9 ⟨rfl, hb9⟩; have HB := Lib.hid hb9; clear hb9))
        go_ret2
        exact ⟨(congrArg Ending.returned H.out).symm, HB.out⟩
      · have H := Lib.hid (intR_minus hp hb hv)
        unfold natR at K2
        rw [hb] at K2
        obtain ⟨v, hvv⟩ : ∃ v, natV (restB s) = v := ⟨_, rfl⟩
        rw [hvv] at hv n0 n1 H K2
        have ev : (v == 0) = false := by simp [hv]
        clear hvv hp hb hA hC
        go_enter Tryz.func231, Tryz.ntmps231
        go_wp2_with (first
          | (go_at_call 244; refine K1.out.mono ?_; rintro e w9 ⟨rfl, rfl⟩)
          | (go_at_call 245; refine K2.out.mono ?_; rintro e w9 ⟨rfl, hb9⟩; have HB := Lib.hid hb9; clear hb9))
        go_ret2
        exact ⟨(congrArg Ending.returned H.out).symm, HB.out⟩
    · have hb : natB (restB s) = false := by simpa using hb
      have H := Lib.hid (intR_no hp (.inl hb))
      unfold natR at K2
      rw [hb] at K2
      clear hp hb hA hC
      go_enter Tryz.func231, Tryz.ntmps231
      go_wp2_with (first
        | (go_at_call 244; refine K1.out.mono ?_; rintro e w9 ⟨rfl, rfl⟩)
        | (go_at_call 245; refine K2.out.mono ?_; rintro e w9 ⟨rfl, hb9⟩; have HB := Lib.hid hb9; clear hb9))
      go_ret2
      exact ⟨(congrArg Ending.returned H.out).symm, HB.out⟩
  · have K1 := Lib.hid ((hC s w).2 hp)
    have K2 := Lib.hid (natural_any hA s w hm0)
    by_cases hb : natB s = true
    · have H := Lib.hid (intR_plain hp)
      unfold natR at K2 H
      rw [hb] at K2 H
      clear hp hb hA hC
      go_enter Tryz.func231, Tryz.ntmps231
      go_wp2_with (first
        | (go_at_call 244; refine K1.out.mono ?_; rintro e w9 ⟨rfl, rfl⟩)
        | (go_at_call 245; refine K2.out.mono ?_; rintro e w9 ⟨rfl, hb9⟩; have HB := Lib.hid hb9; clear hb9))
      go_ret2
      exact ⟨(congrArg Ending.returned H.out).symm, HB.out⟩
    · have hb : natB s = false := by simpa using hb
      have H := Lib.hid ((intR_plain hp).trans (by unfold natR; rw [hb, natV_no hb]))
      unfold natR at K2
      rw [hb] at K2
      clear hp hb hA hC
      go_enter Tryz.func231, Tryz.ntmps231
      go_wp2_with (first
        | (go_at_call 244; refine K1.out.mono ?_; rintro e w9 ⟨rfl, rfl⟩)
        | (go_at_call 245; refine K2.out.mono ?_; rintro e w9 ⟨rfl, hb9⟩; have HB := Lib.hid hb9; clear hb9))
      go_ret2
      exact ⟨(congrArg Ending.returned H.out).symm, HB.out⟩
end Go.Proofs.YtpmjiifdnnhecaaGreatDoor

/-
  Texts: readWords and Integers of every line's words (given CutC, AtoiC, CutPrefixC).
-/

namespace Go.Proofs.YtpmjiifdnnhecaaGreatDoor
open Go.RowKit
set_option linter.unusedVariables false
set_option linter.unusedSimpArgs false

/-- Below N all is as it was but for the block g. -/
structure Hole (N g : Nat) (w w' : World) : Prop where
  os : w'.os = w.os
  tape : w'.tape = w.tape
  output : w'.output = w.output
  size : w.heap.size ≤ w'.heap.size
  block : ∀ k, k < N → k ≠ g → w'.heap[k]? = w.heap[k]?
theorem Hole.refl (N g : Nat) (w : World) : Hole N g w w := ⟨rfl, rfl, rfl, Nat.le_refl _, fun _ _ _ => rfl⟩
theorem Hole.trans {N g : Nat} {a b c : World} (h : Hole N g a b) (k : Hole N g b c) : Hole N g a c :=
  ⟨k.os.trans h.os, k.tape.trans h.tape, k.output.trans h.output, Nat.le_trans h.size k.size, fun i hi hg => (k.block i hi hg).trans (h.block i hi hg)⟩
theorem Hole.of_below {N g : Nat} {w w' : World} (h : Below N w w') : Hole N g w w' := ⟨h.os, h.tape, h.output, h.size, fun k hk _ => h.block k hk⟩
theorem Hole.of_grown {N g : Nat} {w w' : World} (h : w.grownBy w' (some g)) (hN : N ≤ w.heap.size) : Hole N g w w' := ⟨h.os, h.tape, h.output, h.size, fun k hk hg => h.block k (by omega) (fun e => hg (Option.some.inj e))⟩
theorem Hole.mono {N N' g : Nat} {w w' : World} (h : Hole N g w w') (hN : N' ≤ N) : Hole N' g w w' := ⟨h.os, h.tape, h.output, h.size, fun k hk => h.block k (by omega)⟩
theorem Hole.below {N g : Nat} {w w' : World} (h : Hole N g w w') (hg : N ≤ g) : Below N w w' := ⟨h.os, h.tape, h.output, h.size, fun k hk => h.block k hk (by omega)⟩
theorem MaxAt.hole {w w' : World} {g : Nat} {r : ByteArray} {m : Bool} (h : MaxAt w) (hg : WordsBlk w g r m) (hb : Hole w.heap.size g w w') : MaxAt w' := by
  obtain ⟨n, hn⟩ := h
  have hl := World.block_lt_of_cell? _ _ hn
  have hne : 2 ≠ g := by
    rintro rfl
    rw [hg.cells.1] at hn; cases hn
  refine ⟨n, ?_⟩
  rw [World.cell?_of_block (hb.block _ hl hne)]; exact hn

theorem MaxAt.late {w0 w w' : World} (h0 : MaxAt w0) (h : MaxAt w) (hb : Below w0.heap.size w w') : MaxAt w' := by
  obtain ⟨n, hn⟩ := h
  obtain ⟨n0, hn0⟩ := h0
  have hl := World.block_lt_of_cell? _ _ hn0
  exact ⟨n, by rw [World.cell?_of_block (hb.block _ hl)]; exact hn⟩
theorem owns_on {w w' : World} {B T sz n : Nat} {v : Value} {xs : List Value} (h : w.ownsRow B T sz v n xs) (hb : Below w.heap.size w w') : w'.ownsRow B T sz v n xs :=
  h.kept (grown_below (row := none) hb) (by cases v.ownBlock <;> simp)

theorem wordsL_step (rest : ByteArray) : wordsL rest true = (Lib.cut (listB rest) [32]).1 :: wordsL (strB (Lib.cut (listB rest) [32]).2.1) (Lib.cut (listB rest) [32]).2.2 := by
  show pieces 32 (listB rest) = _
  rw [pieces_cut]
  cases (Lib.cut (listB rest) [32]).2.2
  · rfl
  · rfl
theorem cut_sizes (l : List UInt8) : (Lib.cut l [32]).1.length ≤ l.length ∧ (Lib.cut l [32]).2.1.length ≤ l.length := by
  unfold Lib.cut
  split
  · rw [List.length_take, List.length_drop]; omega
  · simp
/-- How many words are left. -/
noncomputable def leftW (w : World) (g : Nat) : Nat :=
  match w.cell? ⟨g, 0, none⟩, w.cell? ⟨g, 1, none⟩ with
  | some (.string r), some (.bool m) => (wordsL r m).length
  | _, _ => 0
theorem leftW_eq {w : World} {g : Nat} {r : ByteArray} {m : Bool} (h : WordsBlk w g r m) : leftW w g = (wordsL r m).length := by
  unfold leftW; rw [h.cells.1, h.cells.2.1]
/-- All words are integers. -/
noncomputable def intsB (L : List (List UInt8)) : Bool := L.all fun x => intB (strB x)
noncomputable def intsV (L : List (List UInt8)) : List Int := L.map fun x => intV (strB x)
/-- What readWords answers, and what it leaves. -/
def ReadV (w : World) (g : Nat) (L : List (List UInt8)) (e : Ending) (w' : World) : Prop :=
  ∃ u, e = .returned (.tuple #[u, .bool (intsB L)]) ∧ (intsB L = true → w'.ownsRow w.heap.size 3 1 u L.length ((intsV L).map (Value.int .i64))) ∧ (intsB L = false → u = .slice none 0 0) ∧ Hole w.heap.size g w w'
theorem read_yes {w w' : World} {g : Nat} {L : List (List UInt8)} {u : Value} (h : intsB L = true) (hu : w'.ownsRow w.heap.size 3 1 u L.length ((intsV L).map (Value.int .i64))) (hb : Hole w.heap.size g w w') : ReadV w g L (.returned (.tuple #[u, .bool true])) w' :=
  ⟨u, by rw [h], fun _ => hu, fun h' => (by rw [h] at h'; cases h'), hb⟩
theorem read_no {w w' : World} {g : Nat} {L : List (List UInt8)} (h : intsB L = false) (hb : Hole w.heap.size g w w') : ReadV w g L (.returned (.tuple #[.slice none 0 0, .bool false])) w' :=
  ⟨_, by rw [h], fun h' => (by rw [h] at h'; cases h'), fun _ => rfl, hb⟩

set_option maxRecDepth 100000 in
set_option maxHeartbeats 3200000 in
theorem readWords_any (hC : CutC) (hA : AtoiC) (hP : CutPrefixC) (g : Nat) (rest : ByteArray) (more : Bool) (w : World) (hs : rest.size ≤ 1000001) (hm : MaxAt w) (h : WordsBlk w g rest more) :
    Calls Tryz.prog 230 #[.func (.func 184) #[.pointer (some ⟨g, 0, none⟩)] #[], .func (.func 231) #[] #[]] w (ReadV w g (wordsL rest more)) := by
  obtain ⟨i0, hi, hz0, hz1, hz2⟩ := info_parts Tryz.infoInt
  have hlt := h.cells.2.2.2.2
  obtain ⟨L, hL⟩ : ∃ L, wordsL rest more = L := ⟨_, rfl⟩
  have hlen : L.length ≤ 1000002 := by
    rw [← hL]; unfold wordsL; split
    · have h1 := (splitL_len rest 32).2
      have h2 := congrArg List.length (splitL_pieces rest 32)
      rw [List.length_map] at h2
      have h3 : ((32 : UInt8).toNat : Int) = 32 := rfl
      rw [h3] at h2; omega
    · simp
  have HI : Hid (∀ (s : ByteArray) (W : World), s.size ≤ 1000001 → Calls Tryz.prog 231 #[.string s] W fun e w' => e = .returned (intR s) ∧ Below W.heap.size W w') :=
    Lib.hid fun s W hs => integerW_any hA hP s W (by unfold maxLen; omega)
  have HN : Hid (∀ (r : ByteArray) (W : World), r.size ≤ 1000001 → MaxAt W → WordsBlk W g r true → Calls Tryz.prog 184 #[.pointer (some ⟨g, 0, none⟩)] W (NextV W g r)) :=
    Lib.hid fun r W h1 h2 h3 => next_yes hC g r W h1 h2 h3
  have HL := Lib.hid hL
  have H0 := Lib.hid h
  have HM := Lib.hid hm
  have HS := Lib.hid hs
  rw [hL]
  clear hL hC hA hP h hm hs
  go_enter Tryz.func230, Tryz.ntmps230
  go_wp2
  go_loopw [6] (fun out wr => ∃ (k : Nat) (r : ByteArray) (m : Bool), k ≤ L.length ∧ r.size ≤ 1000001 ∧ Hid (wordsL r m = L.drop k) ∧ WordsBlk wr g r m ∧ Hid (intsB (L.take k) = true) ∧ wr.ownsRow w.heap.size 3 1 out k (((intsV L).map (Value.int .i64)).take k) ∧ Hid (MaxAt wr) ∧ Hole w.heap.size g w wr)
    (fun _ wr => leftW wr g)
  case atStart => exact ⟨0, rest, more, Nat.zero_le _, HS.out, Lib.hid HL.out, H0.out, Lib.hid rfl, World.ownsRow_nil _ _ _ _, HM, Hole.refl _ _ _⟩
  case round =>
    obtain ⟨k, r, m, hk, hr, hw, hblk, ht, hown, hmx, hho⟩ := hrel
    have hsz := hho.size
    cases m with
    | false =>
      have hke : k = L.length := by
        have := congrArg List.length hw.out
        rw [List.length_drop] at this
        have e : (wordsL r false).length = 0 := rfl
        omega
      have HT : Hid (intsB L = true) := Lib.hid (by have := ht.out; rwa [hke, List.take_length] at this)
      have HO : Hid (wr.ownsRow w.heap.size 3 1 _ L.length ((intsV L).map (Value.int .i64))) := Lib.hid (by
        have := hown
        rwa [List.take_of_length_le (by unfold intsV; simp; omega), hke] at this)
      have HH := Lib.hid hho
      clear hown hho hke
      go_wp2_with fail
      refine (next_no g r _ hblk).mono ?_
      rintro e w9 ⟨rfl, rfl⟩
      clear hblk
      go_wp2
      go_ret2
      exact read_yes HT.out HO.out HH.out
    | true =>
      have hst := (wordsL_step r).symm.trans hw.out
      obtain ⟨c1, c2⟩ := cut_sizes (listB r)
      rw [listB_len] at c1 c2
      have KN := Lib.hid (HN.out r wr hr hmx.out hblk)
      obtain ⟨C, hC⟩ : ∃ C, Lib.cut (listB r) [32] = C := ⟨_, rfl⟩
      rw [hC] at hst c1 c2
      have HC := Lib.hid hC
      have hlt2 : k < L.length := by
        have := congrArg List.length hst
        rw [List.length_drop, List.length_cons] at this; omega
      have hxL : L[k]? = some C.1 := by
        have : (L.drop k)[0]? = some C.1 := by rw [← hst]; rfl
        rw [List.getElem?_drop] at this; simpa using this
      have hdrop : wordsL (strB C.2.1) C.2.2 = L.drop (k + 1) := by
        have : (L.drop k).drop 1 = wordsL (strB C.2.1) C.2.2 := by rw [← hst]; rfl
        rw [← this, List.drop_drop]
      have KI := Lib.hid (fun W => HI.out (strB C.1) W (by rw [strB_size]; omega))
      have htake : L.take (k + 1) = L.take k ++ [C.1] := by rw [List.take_add_one, hxL]; rfl
      have hvk : ((intsV L).map (Value.int .i64)).take (k + 1) = ((intsV L).map (Value.int .i64)).take k ++ [.int .i64 (intV (strB C.1))] := by
        rw [List.take_add_one]
        unfold intsV
        rw [List.getElem?_map, List.getElem?_map, hxL]; rfl
      have HD := Lib.hid hdrop
      have HV := Lib.hid hvk
      have hc2 : (strB C.2.1).size ≤ 1000001 := by rw [strB_size]; omega
      have hlm : (wordsL (strB C.2.1) C.2.2).length < (wordsL r true).length := by
        rw [hdrop, hw.out, List.length_drop, List.length_drop]; omega
      have HLM := Lib.hid hlm
      have hcl := leftW_eq hblk
      have HCL := Lib.hid hcl
      have hcase : (intB (strB C.1) = true ∧ intsB (L.take (k + 1)) = true) ∨ (intB (strB C.1) = false ∧ intsB L = false) := by
        cases hb : intB (strB C.1)
        · exact .inr ⟨rfl, by unfold intsB; rw [List.all_eq_false]; exact ⟨C.1, List.mem_of_getElem? hxL, by rw [hb]; decide⟩⟩
        · refine .inl ⟨rfl, ?_⟩
          have := ht.out
          unfold intsB at this ⊢
          rw [htake, List.all_append, this]; simp [hb]
      clear hdrop hvk htake hxL hst hC hlm hcl
      rcases hcase with ⟨hb, ht1⟩ | ⟨hb, ht1⟩
      · have HR := Lib.hid (intR_yes hb)
        have HT1 := Lib.hid ht1
        obtain ⟨v, hv⟩ : ∃ v, intV (strB C.1) = v := ⟨_, rfl⟩
        rw [hv] at HR HV
        clear hb ht1 hv
        go_wp2_with fail
        refine KN.out.mono ?_
        rintro e w1 ⟨rfl, hw1, hg1⟩
        rw [HC.out] at hw1 ⊢
        have hs1 := hg1.size
        have HW1 := Lib.hid hw1
        have HG1 := Lib.hid hg1
        have hown1 := hown.kept hg1 (by
          rcases hown.2 with ⟨e, _⟩ | ⟨gg, cap, cur, e, hbb, _⟩
          · rw [e]; exact .inl rfl
          · rw [e]; exact .inr (fun h => by have := Option.some.inj h; simp at this; omega))
        have hmx1 : Hid (MaxAt w1) := Lib.hid (hmx.out.hole hblk (Hole.of_grown hg1 (Nat.le_refl _)))
        have hho1 : Hid (Hole w.heap.size g w w1) := Lib.hid (hho.trans (Hole.of_grown hg1 hsz))
        clear hown hho hmx hblk hw1 hg1
        go_wp2_with fail
        refine (KI.out _).mono ?_
        rintro e w2 ⟨rfl, hb2⟩
        rw [HR.out]
        have hs2 := hb2.size
        have hown2 := owns_on hown1 hb2
        have HW2 := Lib.hid (HW1.out.on hb2 HW1.out.cells.2.2.2.2)
        have hmx2 := Lib.hid (hmx1.out.on hb2)
        have hho2 : Hid (Hole w.heap.size g w w2) := Lib.hid (hho1.out.trans ((Hole.of_below hb2).mono (by omega)))
        clear hown1 hb2
        go_wp2_with (at_builtin; refine wpList_append_own _ rfl (.tmp 27) (.tmp 29) 157 rfl w.heap.size 3 i0 (.int .i64 0) 1 8 Tryz.underlying157 hi hz0 hz1 hz2 rfl (by decide) _ k _ rfl (hown2.alloc _) ⟨w2.heap.size, 0, none⟩ 1 1 [.int .i64 v] rfl rfl (cell_one_new _ _ _) (by intro u hu; simp at hu; subst hu; rfl) (by unfold maxLen; omega) (by omega) (by simp; omega) ?_; intro v' w3 hown3 hgrow3 _)
        have hbl : Below w.heap.size w2 w3 := ((Below.refl _ w2).alloc (by omega) _).grown hgrow3 (by simp; omega) (fun q hq => (hown2.lt q hq).1)
        have HBL := Lib.hid hbl
        clear hbl
        go_roundw
        case rel => exact ⟨k + 1, strB C.2.1, C.2.2, by omega, hc2, HD, HW2.out.on HBL.out hlt, HT1, by rw [HV.out]; exact hown3, Lib.hid (HM.out.late hmx2.out HBL.out), hho2.out.trans (Hole.of_below HBL.out)⟩
        case measure => rw [leftW_eq (HW2.out.on HBL.out hlt), HCL.out]; exact HLM.out
      · have HR := Lib.hid (intR_bad hb)
        have HT1 := Lib.hid ht1
        clear hb ht1
        go_wp2_with fail
        refine KN.out.mono ?_
        rintro e w1 ⟨rfl, hw1, hg1⟩
        rw [HC.out] at hw1 ⊢
        have hho1 : Hid (Hole w.heap.size g w w1) := Lib.hid (hho.trans (Hole.of_grown hg1 hsz))
        have hs1 := hg1.size
        clear hown hho hmx hblk hw1 hg1
        go_wp2_with fail
        refine (KI.out _).mono ?_
        rintro e w2 ⟨rfl, hb2⟩
        rw [HR.out]
        have hho2 : Hid (Hole w.heap.size g w w2) := Lib.hid (hho1.out.trans ((Hole.of_below hb2).mono (by omega)))
        clear hb2
        go_wp2
        go_ret2
        exact read_no HT1.out hho2.out
end Go.Proofs.YtpmjiifdnnhecaaGreatDoor

/-
  Texts: the lines of strings.SplitAfter are the pieces, each but the last one with its end.
-/
namespace Go.Proofs.YtpmjiifdnnhecaaGreatDoor
open Go.RowKit Go.Lib
set_option linter.unusedVariables false
set_option linter.unusedSimpArgs false

/-- Pieces with their ends, the last one without. -/
def ended (c : UInt8) : List (List UInt8) → List (List UInt8)
  | [] => []
  | p :: ps => if ps = [] then [p] else (p ++ [c]) :: ended c ps
theorem index_cons (c b : UInt8) (l : List UInt8) : Lib.index (b :: l) [c] = if b = c then 0 else if Lib.index l [c] = -1 then -1 else Lib.index l [c] + 1 := by
  show (if List.isPrefixOf [c] (b :: l) then _ else _) = _
  by_cases e : b = c
  · subst e; simp [List.isPrefixOf]
  · have e' : ¬ c = b := fun h => e h.symm
    simp [List.isPrefixOf, e, e']
theorem index_at (c : UInt8) : ∀ (l : List UInt8) (i : Nat), Lib.index l [c] = i → l[i]? = some c
  | [], i, h => by
    have : Lib.index [] [c] = -1 := rfl
    omega
  | b :: l, i, h => by
    rw [index_cons] at h
    by_cases e : b = c
    · rw [if_pos e] at h
      have : i = 0 := by omega
      subst this; rw [e]; rfl
    · rw [if_neg e] at h
      have hge := Lib.index_ge l [c]
      by_cases hm : Lib.index l [c] = -1
      · rw [if_pos hm] at h; omega
      · rw [if_neg hm] at h
        obtain ⟨j, rfl⟩ : ∃ j, i = j + 1 := ⟨i - 1, by omega⟩
        have := index_at c l j (by omega)
        simpa using this
theorem lines_pieces (c : UInt8) : ∀ (k : Nat) (l : List UInt8), Lib.count l [c] = k → Lib.splitK [c] 1 k l = ended c (pieces c l)
  | 0, l, h => by
    have hge := Lib.index_ge l [c]
    have hm : Lib.index l [c] = -1 := by
      by_cases hm : Lib.index l [c] = -1
      · exact hm
      · have := Lib.count_hit (s := l) (sub := [c]) (i := (Lib.index l [c]).toNat) (by simp) (by omega)
        omega
    have hc : Lib.cut l [c] = (l, [], false) := by unfold Lib.cut; rw [hm]; rfl
    rw [pieces_cut, hc]; rfl
  | k + 1, l, h => by
    have hge := Lib.index_ge l [c]
    by_cases hm : Lib.index l [c] = -1
    · rw [Lib.count_miss hm] at h; omega
    · obtain ⟨i, hi⟩ : ∃ i : Nat, Lib.index l [c] = i := ⟨(Lib.index l [c]).toNat, by omega⟩
      have hh := Lib.count_hit (s := l) (sub := [c]) (i := i) (by simp) hi
      have hc : Lib.cut l [c] = (l.take i, l.drop (i + 1), true) := by unfold Lib.cut; rw [hi, if_pos (by omega)]; simp
      have ih := lines_pieces c k (l.drop (i + 1)) (by
        have : ([c] : List UInt8).length = 1 := rfl
        rw [this] at hh; omega)
      have hat := index_at c l i hi
      have ht : l.take (i + 1) = l.take i ++ [c] := by rw [List.take_add_one, hat]; rfl
      obtain ⟨P, q, hP⟩ := pieces_ex c (l.drop (i + 1))
      have hne : pieces c (l.drop (i + 1)) ≠ [] := by rw [hP]; simp
      rw [pieces_cut c l, hc]
      show (if (Lib.index l [c] == -1) = true then [l] else l.take ((Lib.index l [c]).toNat + 1) :: Lib.splitK [c] 1 k (l.drop ((Lib.index l [c]).toNat + 1))) = ended c (l.take i :: pieces c (l.drop (i + 1)))
      have e1 : (Lib.index l [c]).toNat = i := by omega
      rw [if_neg (by simpa using hm), e1, ih, ht]
      show _ = if _ then _ else _
      rw [if_neg hne]
end Go.Proofs.YtpmjiifdnnhecaaGreatDoor
