/-
  Texts: a line of a map's text, read: every line, as the first one and as a later one.
-/
import Derived.Test.YtpmjiifdnnhecaaGreatDoorOaaShm
import Derived.RangeFuncBox
import Derived.Test.YtpmjiifdnnhecaaGreatDoorOaaXc
import Derived.Lib.AppendZerosOnto
import Derived.Lib.SliceRun
import Derived.Test.YtpmjiifdnnhecaaGreatDoorOaaBo
import Derived.Test.YtpmjiifdnnhecaaGreatDoorOaaBr
import Derived.Test.YtpmjiifdnnhecaaGreatDoorOaaBd
namespace Go.Proofs.YtpmjiifdnnhecaaGreatDoor
open Go.RowKit
set_option linter.unusedVariables false
set_option linter.unusedSimpArgs false

set_option maxRecDepth 100000 in
set_option maxHeartbeats 1600000 in
theorem integers_any (g : Nat) (rest : ByteArray) (more : Bool) (w : World) (hs : rest.size ≤ 1000001) (hm : MaxAt w) (h : WordsBlk w g rest more) :
    Calls Tryz.prog 210 #[.func (.func 184) #[.pointer (some ⟨g, 0, none⟩)] #[]] w (ReadV w g (wordsL rest more)) := by
  have K := Lib.hid (readWords_any cutC atoiC cutPrefixC g rest more w hs hm h)
  clear hm h hs
  go_enter Tryz.func210, Tryz.ntmps210
  go_wp2_with fail
  refine K.out.mono ?_
  rintro e w1 ⟨u, rfl, h1, h2, h3⟩
  have H : Hid (ReadV w g (wordsL rest more) (.returned (.tuple #[u, .bool (intsB (wordsL rest more))])) w1) := Lib.hid ⟨u, rfl, h1, h2, h3⟩
  clear h1 h2 h3
  obtain ⟨b, hb⟩ : ∃ b, intsB (wordsL rest more) = b := ⟨_, rfl⟩
  rw [hb] at H ⊢
  clear hb
  go_wp2
  go_ret2
  exact H.out

/-- How many integers fit a line. -/
def fitsB (j n : Nat) : Bool := if j = 0 then decide (n = 2) else decide (1 ≤ n)
theorem fits_first (n : Nat) (w : World) : Calls Tryz.prog 208 #[.int .i64 n] w fun e w' => e = .returned (.bool (fitsB 0 n)) ∧ w = w' := by
  by_cases h : n = 2
  · have e : ((n : Int) == 2) = true := by simp [h]
    have H := Lib.hid (show fitsB 0 n = true from decide_eq_true h)
    clear h
    go_enter Tryz.func208, Tryz.ntmps208
    go_wp2
    go_ret
    exact ⟨by rw [H.out]; rfl, rfl⟩
  · have e : ((n : Int) == 2) = false := by simp; omega
    have H := Lib.hid (show fitsB 0 n = false from decide_eq_false h)
    clear h
    go_enter Tryz.func208, Tryz.ntmps208
    go_wp2
    go_ret
    exact ⟨by rw [H.out]; rfl, rfl⟩
theorem fits_next (j n : Nat) (hj : j ≠ 0) (w : World) : Calls Tryz.prog 209 #[.int .i64 n] w fun e w' => e = .returned (.bool (fitsB j n)) ∧ w = w' := by
  have hf : fitsB j n = decide (1 ≤ n) := by unfold fitsB; rw [if_neg hj]
  by_cases h : 1 ≤ n
  · have e : decide ((1 : Int) ≤ (n : Int)) = true := by simp; omega
    have H := Lib.hid (show fitsB j n = true by rw [hf]; exact decide_eq_true h)
    clear hf hj
    go_enter Tryz.func209, Tryz.ntmps209
    go_wp2
    go_ret
    exact ⟨by rw [H.out]; rfl, rfl⟩
  · obtain rfl : n = 0 := by omega
    have H := Lib.hid (show fitsB j 0 = false by rw [hf]; rfl)
    clear hf hj h
    go_enter Tryz.func209, Tryz.ntmps209
    go_wp2
    go_ret
    exact ⟨by rw [H.out]; rfl, rfl⟩

/-- The words behind the first one. -/
def tailL (s : ByteArray) : List (List UInt8) := wordsL (strB (headL s).2.1) (headL s).2.2
/-- The line has the form of that with an index. -/
noncomputable def okL (j : Nat) (s : ByteArray) : Bool := lineOk s (kindW j) && (intsB (tailL s) && fitsB j (tailL s).length)
/-- What readLine answers. -/
def ReadLineV (w : World) (j : Nat) (s : ByteArray) (e : Ending) (w' : World) : Prop :=
  ∃ a n c, e = .returned (.tuple #[.slice a n c, .bool (okL j s)]) ∧ (okL j s = true → w'.ownsRow w.heap.size 3 1 (.slice a n c) (tailL s).length ((intsV (tailL s)).map (Value.int .i64))) ∧ Below w.heap.size w w'
theorem readLine_no {w w' : World} {j : Nat} {s : ByteArray} {a : Option Addr} {n c : Nat} (h : okL j s = false) (hb : Below w.heap.size w w') : ReadLineV w j s (.returned (.tuple #[.slice a n c, .bool false])) w' :=
  ⟨a, n, c, by rw [h], fun h' => (by rw [h] at h'; cases h'), hb⟩
theorem readLine_yes {w w' : World} {j : Nat} {s : ByteArray} {a : Option Addr} {n c : Nat} (h : okL j s = true) (ho : w'.ownsRow w.heap.size 3 1 (.slice a n c) (tailL s).length ((intsV (tailL s)).map (Value.int .i64))) (hb : Below w.heap.size w w') : ReadLineV w j s (.returned (.tuple #[.slice a n c, .bool true])) w' :=
  ⟨a, n, c, by rw [h], fun _ => ho, hb⟩
theorem owns_shape {w : World} {B T sz n : Nat} {v : Value} {xs : List Value} (h : w.ownsRow B T sz v n xs) : ∃ a c, v = .slice a n c := by
  rcases h.2 with ⟨h, h0⟩ | ⟨g, cap, cur, h, _⟩
  · exact ⟨none, 0, by rw [h, h0]⟩
  · exact ⟨_, cap, h⟩
theorem head_le (s : ByteArray) : (strB (headL s).2.1).size ≤ s.size := by
  have h1 := trim_le s
  have h2 := (cut_sizes (bodyL s)).2
  rw [strB_size] at h1 ⊢
  unfold headL; omega

set_option maxRecDepth 100000 in
set_option maxHeartbeats 6400000 in
theorem readLine_any (j : Nat) (s : ByteArray) (w : World) (hs : s.size ≤ 1000001) (hm : MaxAt w) :
    Calls Tryz.prog 163 #[.string s, .string (kindW j), formV j] w (ReadLineV w j s) := by
  have KW : Hid (∀ W, Below w.heap.size w W → Calls Tryz.prog 183 #[.string s, .string (kindW j)] W (WordsOfV W s (kindW j))) := Lib.hid fun W hb => wordsOf_any cutC cutSuffixC s _ W hs (hm.on hb)
  have KI : Hid (∀ (g : Nat) W, Below w.heap.size w W → WordsBlk W g (strB (headL s).2.1) (headL s).2.2 → Calls Tryz.prog 210 #[.func (.func 184) #[.pointer (some ⟨g, 0, none⟩)] #[]] W (ReadV W g (tailL s))) :=
    Lib.hid fun g W hb h => integers_any g _ _ W (Nat.le_trans (head_le s) hs) (hm.on hb) h
  have HF : Hid (∀ n w, Calls Tryz.prog (if j = 0 then 208 else 209) #[.int .i64 (n : Nat)] w fun e w' => e = .returned (.bool (fitsB j n)) ∧ w = w') := Lib.hid fun n w => by
    by_cases h : j = 0
    · subst h; exact fits_first n w
    · rw [if_neg h]; exact fits_next j n h w
  have hent : ∀ args w, (callFunc (if j = 0 then 208 else 209) args).run Tryz.prog w = .ok (.enter (if j = 0 then 208 else 209) args) w := by
    by_cases h : j = 0
    · simp only [h, if_true]; exact enters_of Tryz.func208 (by kernel_rfl) rfl
    · simp only [h, if_false]; exact enters_of Tryz.func209 (by kernel_rfl) rfl
  have hok : okL j s = (lineOk s (kindW j) && (intsB (tailL s) && fitsB j (tailL s).length)) := rfl
  obtain ⟨F, hF⟩ : ∃ F, (if j = 0 then 208 else 209) = F := ⟨_, rfl⟩
  have hfv : formV j = .agg #[.func (.func F) #[] #[]] := by
    rw [← hF]; unfold formV; split <;> rfl
  rw [hF] at HF hent
  rw [hfv]
  have HOK := Lib.hid hok
  have hlenI : (tailL s).length ≤ 1000002 := by
    unfold tailL wordsL; split
    · have h1 := (splitL_len (strB (headL s).2.1) 32).2
      have h2 := congrArg List.length (splitL_pieces (strB (headL s).2.1) 32)
      rw [List.length_map] at h2
      have h3 : ((32 : UInt8).toNat : Int) = 32 := rfl
      rw [h3] at h2
      have := head_le s; omega
    · simp
  obtain ⟨K, hK⟩ : ∃ K, kindW j = K := ⟨_, rfl⟩
  rw [hK] at KW HOK ⊢
  clear hok hF hfv hK hm
  cases hl : lineOk s K
  · have HL := Lib.hid hl
    have HN := Lib.hid (show okL j s = false by rw [HOK.out, hl]; rfl)
    clear hl
    go_enter Tryz.func163, Tryz.ntmps163
    go_wp2_with fail
    refine (KW.out _ ((Below.refl _ w).alloc (Nat.le_refl _) _)).mono ?_
    rintro e w1 ⟨-, h2, hb1⟩
    rw [h2 HL.out]
    have HB := Lib.hid (((Below.refl _ w).alloc (Nat.le_refl _) _).trans (hb1.mono (by simp)))
    clear h2 hb1
    have hsz := HB.out.size
    go_wp2
    go_ret2
    exact readLine_no HN.out (HB.out.alloc hsz _)
  · have HL := Lib.hid hl
    obtain ⟨R, hR⟩ : ∃ R, strB (headL s).2.1 = R := ⟨_, rfl⟩
    obtain ⟨M, hM⟩ : ∃ M, (headL s).2.2 = M := ⟨_, rfl⟩
    rw [hR, hM] at KI
    have HRM := Lib.hid (And.intro hR hM)
    clear hl hR hM
    cases hi : intsB (tailL s)
    · have HI := Lib.hid hi
      have HN := Lib.hid (show okL j s = false by rw [HOK.out, HL.out, hi]; rfl)
      clear hi
      go_enter Tryz.func163, Tryz.ntmps163
      go_wp2_with fail
      refine (KW.out _ ((Below.refl _ w).alloc (Nat.le_refl _) _)).mono ?_
      rintro e w1 ⟨h1, -, hb1⟩
      rw [h1 HL.out, HRM.out.1, HRM.out.2]
      have HB := Lib.hid (((Below.refl _ w).alloc (Nat.le_refl _) _).trans (hb1.mono (by simp)))
      have cF : w1.cell? ⟨w.heap.size, 0, none⟩ = some (.func (.func F) #[] #[]) := by rw [hb1.cell (by simp)]; simp [go_sem]
      have hs1 : w.heap.size + 1 ≤ w1.heap.size := by have := hb1.size; simpa using this
      clear h1 hb1
      go_wp2_with fail
      refine (KI.out _ _ (HB.out.alloc (by omega) _) (heap_alloc_new w1 _)).mono ?_
      rintro e w2 ⟨u, rfl, h1, h2, h3⟩
      rw [h2 HI.out, HI.out]
      have HB2 : Hid (Below w.heap.size w w2) := Lib.hid ((HB.out.alloc (by omega) _).trans ((h3.mono (by simp; omega)).below (by omega)))
      clear h1 h2 h3
      go_wp2
      go_ret2
      exact readLine_no HN.out HB2.out
    · have HI := Lib.hid hi
      obtain ⟨b, hb⟩ : ∃ b, fitsB j (tailL s).length = b := ⟨_, rfl⟩
      have hok2 : okL j s = b := by rw [HOK.out, HL.out, hi, hb]; rfl
      have HO2 := Lib.hid hok2
      have HFF := Lib.hid (fun W => HF.out (tailL s).length W)
      rw [hb] at HFF
      clear hi hb hok2
      go_enter Tryz.func163, Tryz.ntmps163
      go_wp2_with fail
      refine (KW.out _ ((Below.refl _ w).alloc (Nat.le_refl _) _)).mono ?_
      rintro e w1 ⟨h1, -, hb1⟩
      rw [h1 HL.out, HRM.out.1, HRM.out.2]
      have HB := Lib.hid (((Below.refl _ w).alloc (Nat.le_refl _) _).trans (hb1.mono (by simp)))
      have cF : w1.cell? ⟨w.heap.size, 0, none⟩ = some (.func (.func F) #[] #[]) := by rw [hb1.cell (by simp)]; simp [go_sem]
      have hs1 : w.heap.size + 1 ≤ w1.heap.size := by have := hb1.size; simpa using this
      clear h1 hb1
      go_wp2_with fail
      refine (KI.out _ _ (HB.out.alloc (by omega) _) (heap_alloc_new w1 _)).mono ?_
      rintro e w2 ⟨u, rfl, h1, h2, h3⟩
      rw [HI.out]
      have hu := h1 HI.out
      obtain ⟨a, c, rfl⟩ := owns_shape hu
      have HU : Hid (w2.ownsRow w.heap.size 3 1 (.slice a (tailL s).length c) (tailL s).length ((intsV (tailL s)).map (Value.int .i64))) := Lib.hid (owns_base hu (by simp; omega))
      have HB2 : Hid (Below w.heap.size w w2) := Lib.hid ((HB.out.alloc (by omega) _).trans ((h3.mono (by simp; omega)).below (by omega)))
      have cF2 : w2.cell? ⟨w.heap.size, 0, none⟩ = some (.func (.func F) #[] #[]) := by
        rw [World.cell?_of_block (h3.block w.heap.size (by simp; omega) (by omega)), World.cell?_of_block (Below.heap_alloc w1 _ w.heap.size (by omega))]
        exact cF
      have hs2 : w1.heap.size ≤ w2.heap.size := by have := h3.size; simp at this; omega
      clear h1 h2 h3 hu cF
      obtain ⟨n, hn⟩ : ∃ n, (tailL s).length = n := ⟨_, rfl⟩
      rw [hn] at hlenI HFF ⊢
      have HNN := Lib.hid hn
      clear hn
      cases b
      · go_wp2_with fail
        refine (HFF.out _).mono ?_
        rintro e w3 ⟨rfl, rfl⟩
        go_wp2
        go_ret2
        exact readLine_no HO2.out HB2.out
      · go_wp2_with fail
        refine (HFF.out _).mono ?_
        rintro e w3 ⟨rfl, rfl⟩
        go_wp2
        go_ret2
        exact readLine_yes HO2.out (by rw [← HNN.out]; exact HU.out) HB2.out
end Go.Proofs.YtpmjiifdnnhecaaGreatDoor

/-
  Texts: what the function that reads a line of a map's text keeps: the rows so far, the kind of the next line.
-/
namespace Go.Proofs.YtpmjiifdnnhecaaGreatDoor
open Go.RowKit
set_option linter.unusedVariables false
set_option linter.unusedSimpArgs false

theorem own_apart {w : World} {B e sz n k : Nat} {v : Value} {xs : List Value} {o : Obj} (h : w.ownsRow B e sz v n xs) (hk : w.heap[k]? = some o) (ho : ∀ cs, o ≠ .cells cs e (0, 0)) : some k ≠ v.ownBlock := by
  rcases h.2 with ⟨rfl, _⟩ | ⟨g, cap, cur, rfl, _, hg, _⟩
  · simp [Value.ownBlock]
  · intro e'
    have : k = g := by simpa [Value.ownBlock] using e'
    subst this
    rw [hg] at hk
    exact ho _ (Option.some.inj hk).symm
theorem boxed_apart {w : World} {B e sz n k t : Nat} {v u : Value} {xs : List Value} (h : w.ownsRow B e sz v n xs) (hk : Boxed w k t u) (ht : t ≠ e) : some k ≠ v.ownBlock :=
  own_apart h hk (fun cs e' => by injection e' with _ h2; exact ht h2)

theorem own_other {w : World} {B B' e1 e2 s1 s2 n1 n2 : Nat} {v1 v2 : Value} {x1 x2 : List Value} (h1 : w.ownsRow B e1 s1 v1 n1 x1) (h2 : w.ownsRow B' e2 s2 v2 n2 x2) (hne : e1 ≠ e2) : v1.ownBlock = none ∨ v1.ownBlock ≠ v2.ownBlock := by
  rcases h1.2 with ⟨rfl, _⟩ | ⟨g, cap, cur, rfl, _, hg, _⟩
  · exact .inl rfl
  · rcases h2.2 with ⟨rfl, _⟩ | ⟨g', cap', cur', rfl, _, hg', _⟩
    · exact .inr (by simp [Value.ownBlock])
    · refine .inr fun e => ?_
      simp [Value.ownBlock] at e
      subst e
      rw [hg] at hg'
      simp at hg'
      exact hne hg'.2

/-- The rows so far. -/
def RowsSo (W : World) (B p3 : Nat) (L : List ByteArray) (i : Nat) : Prop :=
  ∃ v us, Boxed W p3 256 v ∧ W.ownsRow B 157 1 v i us ∧ (∀ u ∈ us, ∃ a n c, u = Value.slice a n c) ∧
    ((∀ (j : Nat) (x : ByteArray), j < i → L[j]? = some x → okL j x = true) → ∀ (j : Nat) (u : Value) (x : ByteArray), us[j]? = some u → L[j]? = some x → W.ownsRow B 3 1 u (tailL x).length ((intsV (tailL x)).map (Value.int .i64)))
/-- What Parse's function keeps. -/
structure ParseI (w0 : World) (B p1 p2 p3 r : Nat) (L : List ByteArray) (i : Nat) (W : World) : Prop where
  max : MaxAt W
  below : Below B w0 W
  kind : Boxed W p1 9 (.string (kindW i))
  forms : Boxed W p2 254 (.map (some r))
  ents : W.heap[r]? = some (.map formsE 2)
  rows : RowsSo W B p3 L i
theorem boxed_on {W W' : World} {k t : Nat} {u : Value} (h : Boxed W k t u) (hb : Below W.heap.size W W') : Boxed W' k t u := (hb.block k h.lt).trans h
theorem RowsSo.on {W W' : World} {B p3 i : Nat} {L : List ByteArray} (h : RowsSo W B p3 L i) (hb : Below W.heap.size W W') : RowsSo W' B p3 L i := by
  obtain ⟨v, us, h1, h2, h3, h4⟩ := h
  exact ⟨v, us, boxed_on h1 hb, owns_on h2 hb, h3, fun ha j u x hu hx => owns_on (h4 ha j u x hu hx) hb⟩
theorem ParseI.on {w0 W W' : World} {B p1 p2 p3 r i : Nat} {L : List ByteArray} (h : ParseI w0 B p1 p2 p3 r L i W) (hb : Below W.heap.size W W') (hB : B ≤ W.heap.size) : ParseI w0 B p1 p2 p3 r L i W' :=
  ⟨h.max.on hb, h.below.trans (hb.mono hB), boxed_on h.kind hb, boxed_on h.forms hb, (hb.block r (Array.getElem?_eq_some_iff.1 h.ents).1).trans h.ents, h.rows.on hb⟩

/-- What kept apart from the blocks that were written still stands. -/
theorem lookup_kind (j : Nat) (r : Nat) (W : World) (h : W.heap[r]? = some (.map formsE 2)) : (Instr.lookup 254 (.map (some r)) (.string (kindW j)) false).run Tryz.prog W = .ok (formV j) W := by
  have hm : Tryz.prog.underlying 254 = some (.map 9 261) := Tryz.underlying254
  have hk : Tryz.prog.underlying 9 = some .string := Tryz.underlying9
  by_cases e : j = 0
  · subst e; exact run_lookup_str (i := 0) hm hk h rfl
  · have e1 : kindW j = rowW := if_neg e
    have e2 : formV j = formV 1 := by unfold formV; rw [if_neg e, if_neg (by decide)]
    rw [e1, e2]; exact run_lookup_str (i := 1) hm hk h rfl

theorem Tryz.infoInts : (Tryz.prog.info? 157).map (fun i => (i.zero, i.size, i.bytes)) = some (some (.slice none 0 0), 1, 24) := by kernel_rfl

/-- The error of a line. -/
noncomputable def lineErr (i : Nat) (x : ByteArray) : Int := if okL i x then 0 else 25
set_option maxRecDepth 100000 in
set_option maxHeartbeats 6400000 in
theorem parse1_any (w0 : World) (B p1 p2 p3 r : Nat) (L : List ByteArray) (i : Nat) (x : ByteArray) (W : World) (hx : L[i]? = some x) (hL : L.length ≤ 1000002) (hs : x.size ≤ 1000001) (hM0 : MaxAt w0) (hB0 : B = w0.heap.size) (hB : B ≤ W.heap.size)
    (h1 : B ≤ p1) (h3 : B ≤ p3) (h13 : p1 ≠ p3) (hI : ParseI w0 B p1 p2 p3 r L i W) :
    Calls Tryz.prog 162 #[.int .i64 i, .string x, .pointer (some ⟨p1, 0, none⟩), .pointer (some ⟨p2, 0, none⟩), .pointer (some ⟨p3, 0, none⟩)] W fun e W' =>
      e = .returned (.int .i64 (lineErr i x)) ∧ ParseI w0 B p1 p2 p3 r L (i + 1) W' ∧ KeepT p1 p2 p3 W W' := by
  obtain ⟨i0, hi, hz0, hz1, hz2⟩ := info_parts Tryz.infoInts
  have hil : i < L.length := (List.getElem?_eq_some_iff.1 hx).1
  have KR := Lib.hid (readLine_any i x W hs hI.max)
  obtain ⟨v, us, hv, hown, hsh, hok⟩ := hI.rows
  have c1 := hI.kind.cell
  have c2 := hI.forms.cell
  have c3 := hv.cell
  have hlk := lookup_kind i r W hI.ents
  have HI := Lib.hid hI
  have HV := Lib.hid hv
  have HOWN := Lib.hid hown
  have HSH := Lib.hid hsh
  have HOK := Lib.hid hok
  have HX := Lib.hid hx
  have HM0 := Lib.hid hM0
  have HB0 := Lib.hid hB0
  clear hI hv hown hsh hok hx hM0 hB0
  obtain ⟨KK, hKK⟩ : ∃ K, kindW i = K := ⟨_, rfl⟩
  obtain ⟨FF, hFF⟩ : ∃ F, formV i = F := ⟨_, rfl⟩
  rw [hKK] at c1 hlk KR
  rw [hFF] at hlk KR
  clear hKK hFF
  go_enter Tryz.func162, Tryz.ntmps162
  go_wp2_with fail
  refine KR.out.mono ?_
  rintro e w1 ⟨a, n, c, rfl, ho, hb1⟩
  have HB1 := Lib.hid hb1
  have HO := Lib.hid ho
  have hs1 := hb1.size
  obtain ⟨ok, hok⟩ : ∃ b, okL i x = b := ⟨_, rfl⟩
  have HOKX := Lib.hid hok
  rw [hok]
  have c3' : w1.cell? ⟨p3, 0, none⟩ = some v := by rw [hb1.cell (by exact HV.out.lt)]; exact c3
  have hown1 := owns_on HOWN.out hb1
  have bk1 := boxed_on HI.out.kind hb1
  have bf1 := boxed_on HI.out.forms hb1
  have be1 : w1.heap[r]? = some (.map formsE 2) := (hb1.block r (Array.getElem?_eq_some_iff.1 HI.out.ents).1).trans HI.out.ents
  have bv1 := boxed_on HV.out hb1
  have n3 := boxed_apart hown1 bv1 (by decide)
  have n1 := boxed_apart hown1 bk1 (by decide)
  have n2 := boxed_apart hown1 bf1 (by decide)
  have nr := own_apart hown1 be1 (fun cs e => by cases e)
  have hmx1 := Lib.hid (HI.out.max.on hb1)
  have hrb1 := Lib.hid (And.intro (And.intro bk1 bf1) (And.intro be1 bv1))
  clear hb1 ho hok c1 c2 c3 hlk bk1 bf1 be1 bv1
  go_wp2_with
    (at_builtin; refine wpList_append_own _ rfl (.tmp 19) (.tmp 21) 256 rfl B 157 i0 (.slice none 0 0) 1 24 Tryz.underlying256 hi hz0 hz1 hz2 rfl (by decide) _ i _ rfl (hown1.alloc _) ⟨w1.heap.size, 0, none⟩ 1 1 [.slice a n c] rfl rfl (cell_one_new _ _ _) (by intro u hu; simp at hu; subst hu; rfl) (by unfold maxLen; omega) (by omega) (by simp; omega) ?_; intro v' w3 hown3 hgrow3 _; obtain ⟨a', c', rfl⟩ := owns_shape hown3
     have bv3 : Boxed w3 p3 256 v := ((hrb1.out.2.2.alloc _).kept hgrow3 n3)
     have bk3 := ((hrb1.out.1.1.alloc (.cells #[.slice a n c] 157)).kept hgrow3 n1)
     have c3' := bv3.cell
     have f3' := bv3.frozen
     have HB3 := Lib.hid bv3
     have HK3 := Lib.hid bk3
     have HOWN3 := Lib.hid hown3
     have HG3 := Lib.hid hgrow3
     have c1' : (w3.setCell ⟨p3, 0, none⟩ (.slice a' (i + 1) c')).cell? ⟨p1, 0, none⟩ = some (.string (kindW i)) := (bk3.kept (grown_set w3 p3 0 _) (fun e => h13 (Option.some.inj e))).cell
     have f1' : (w3.setCell ⟨p3, 0, none⟩ (.slice a' (i + 1) c')).frozen? ⟨p1, 0, none⟩ = false := (bk3.kept (grown_set w3 p3 0 _) (fun e => h13 (Option.some.inj e))).frozen
     clear bv3 bk3 hown3 hgrow3)
  obtain ⟨W4, hW4⟩ : ∃ W4, (w3.setCell ⟨p3, 0, none⟩ (.slice a' (i + 1) c')).setCell ⟨p1, 0, none⟩ (.string rowW) = W4 := ⟨_, rfl⟩
  have hW4' : (w3.setCell ⟨p3, 0, none⟩ (.slice a' (i + 1) c')).setCell ⟨p1, 0, none⟩ (.string ⟨#[114, 111, 119]⟩) = W4 := hW4
  have HW4 := Lib.hid hW4
  clear hW4 c1' f1' c3' f3'
  rw [hW4']
  clear hW4'
  have hok1 : (if (!ok) = true then (25 : Int) else 0) = lineErr i x := by unfold lineErr; rw [HOKX.out]; cases ok <;> rfl
  refine (cwhen_any (!ok) 25 W4).mono ?_
  rintro e w9 ⟨rfl, rfl⟩
  rw [hok1]
  obtain ⟨ev, hev⟩ : ∃ ev, lineErr i x = ev := ⟨_, rfl⟩
  rw [hev]
  have HEV := Lib.hid hev
  clear hev hok1
  go_wp2
  go_ret
  have hW4 := HW4.out
  have hG := HG3.out
  have hsz1 : w1.heap.size < w3.heap.size := by have := hG.size; simp at this; omega
  have g3 := grown_set w3 p3 0 (.slice a' (i + 1) c')
  have g1 := grown_set (w3.setCell ⟨p3, 0, none⟩ (.slice a' (i + 1) c')) p1 0 (.string rowW)
  rw [hW4] at g1
  obtain ⟨⟨qk, qf⟩, qe, qv⟩ := hrb1.out
  have lt_v : ∀ k, v.ownBlock = some k → B ≤ k := fun k hk => (hown1.lt k hk).1
  have hB3 : Below B w1 w3 := ((Below.refl _ w1).alloc (by omega) _).grown hG (by simp; omega) (fun k hk => lt_v k hk)
  have hB4 : Below B w3 W4 := by
    rw [← hW4]; exact ((Below.refl _ w3).setCell (p := ⟨p3, 0, none⟩) h3 _).setCell (p := ⟨p1, 0, none⟩) h1 _
  have hBall : Below B W W4 := ((HB1.out.mono hB).trans hB3).trans hB4
  have hmono : Below B w0 W4 := HI.out.below.trans hBall
  -- a block that is neither written place
  have keep : ∀ (k : Nat) (o : Obj), w1.heap[k]? = some o → some k ≠ v.ownBlock → k ≠ p1 → k ≠ p3 → W4.heap[k]? = some o := fun k o hk ho hk1 hk3 => by
    have hl := (Array.getElem?_eq_some_iff.1 hk).1
    have e1 : (w1.alloc (.cells #[.slice a n c] 157)).heap[k]? = some o := (Below.heap_alloc _ _ _ hl).trans hk
    have e2 := (hG.block k (by simp; omega) ho).trans e1
    have l3 := (Array.getElem?_eq_some_iff.1 e2).1
    have e3 := (g3.block k l3 (fun e => hk3 (Option.some.inj e))).trans e2
    exact (g1.block k (by rw [(OnlyBlk.set w3 p3 0 _).2]; exact l3) (fun e => hk1 (Option.some.inj e))).trans e3
  have ne12 : p2 ≠ p1 := fun e => by
    subst e
    have := qf.symm.trans qk
    injection this with this
    injection this with _ e2
    exact absurd e2 (by decide)
  have ne32 : p2 ≠ p3 := fun e => by
    subst e
    have := qf.symm.trans qv
    injection this with this
    injection this with _ e2
    exact absurd e2 (by decide)
  have ner1 : r ≠ p1 := fun e => by
    subst e
    have := qe.symm.trans qk
    cases this
  have ner3 : r ≠ p3 := fun e => by
    subst e
    have := qe.symm.trans qv
    cases this
  have nr' : some r ≠ v.ownBlock := own_apart hown1 qe (fun cs e => by cases e)
  have n2' := boxed_apart hown1 qf (by decide)
  have kind4 : Boxed W4 p1 9 (.string (kindW (i + 1))) := by
    have e : kindW (i + 1) = rowW := if_neg (by omega)
    rw [e, ← hW4]
    exact (HK3.out.kept g3 (fun e => h13 (Option.some.inj e))).set _
  have rows4 : Boxed W4 p3 256 (.slice a' (i + 1) c') := (HB3.out.set _).kept g1 (fun e => h13 (Option.some.inj e).symm)
  have own4 : W4.ownsRow B 157 1 (.slice a' (i + 1) c') (i + 1) (us ++ [.slice a n c]) := by
    have hn3 := boxed_apart HOWN3.out HB3.out (by decide)
    have o3 := HOWN3.out.kept g3 (by
      cases hq : (Value.slice a' (i + 1) c').ownBlock with
      | none => exact .inl rfl
      | some k => exact .inr (fun e => by rw [hq, e] at hn3; exact hn3 rfl))
    have hn1 := boxed_apart o3 (HK3.out.kept g3 (fun e => h13 (Option.some.inj e))) (by decide)
    exact o3.kept g1 (by
      cases hq : (Value.slice a' (i + 1) c').ownBlock with
      | none => exact .inl rfl
      | some k => exact .inr (fun e => by rw [hq, e] at hn1; exact hn1 rfl))
  refine ⟨by rw [HEV.out]; rfl, ⟨?_, hmono, kind4, keep p2 _ qf n2' ne12 ne32, keep r _ qe nr' ner1 ner3, _, _, rows4, own4, ?_, ?_⟩, ?_⟩
  · have hB0 := HB0.out; subst hB0; exact HM0.out.late HI.out.max hBall
  · intro u hu
    rcases List.mem_append.1 hu with hu | hu
    · exact HSH.out u hu
    · exact ⟨a, n, c, by simpa using hu⟩
  · intro hall j u y hu hy
    have hlen : us.length = i := by have := HOWN.out.1; simpa using this
    have move : ∀ {u : Value} {m : Nat} {ys : List Value}, w1.ownsRow B 3 1 u m ys → W4.ownsRow B 3 1 u m ys := fun {u m ys} h => by
      have hne := own_other h hown1 (by decide)
      refine ⟨h.1, ?_⟩
      rcases h.2 with h' | ⟨g, cap, cur, e1, e2, e3, e4⟩
      · exact .inl h'
      · refine .inr ⟨g, cap, cur, e1, e2, keep g _ e3 ?_ ?_ ?_, e4⟩
        · rcases hne with hne | hne
          · rw [e1] at hne; cases hne
          · rw [e1] at hne; exact hne
        · intro e; subst e
          have := e3.symm.trans qk
          injection this with this
          injection this with _ e2
          exact absurd e2 (by decide)
        · intro e; subst e
          have := e3.symm.trans qv
          injection this with this
          injection this with _ e2
          exact absurd e2 (by decide)
    by_cases hj : j < i
    · rw [List.getElem?_append_left (by omega)] at hu
      exact move (owns_on (HOK.out (fun q z hq hz => hall q z (by omega) hz) j u y hu hy) HB1.out)
    · have hji : j = i := by
        have := (List.getElem?_eq_some_iff.1 hu).1
        simp at this; omega
      subst hji
      rw [List.getElem?_append_right (by omega), hlen, Nat.sub_self] at hu
      have eu : u = .slice a n c := by simpa using hu.symm
      have ey : y = x := by rw [HX.out] at hy; exact (Option.some.inj hy).symm
      subst eu; subst ey
      exact move (owns_base (HO.out (hall j y (by omega) hy)) hB)
  · intro k cs hk1 hk2 hk3 hk
    have e1 := (HB1.out.block k (Array.getElem?_eq_some_iff.1 hk).1).trans hk
    exact keep k _ e1 (own_apart hown1 e1 (fun cs' e => by injection e with _ e2; exact absurd e2 (by decide))) hk1 hk3
end Go.Proofs.YtpmjiifdnnhecaaGreatDoor

/-
  Texts: slices.Concat of rows of integers.
-/
namespace Go.Proofs.YtpmjiifdnnhecaaGreatDoor
open Go.RowKit
set_option linter.unusedVariables false
set_option linter.unusedSimpArgs false

set_option maxRecDepth 100000 in
set_option maxHeartbeats 3200000 in
/-- slices.Grow of nil: an empty row with room. -/
theorem grow_nil (n : Nat) (h1 : 1 ≤ n) (h2 : n ≤ 1000000) (w : World) :
    Calls Tryz.prog 232 #[.slice none 0 0, .int .i64 n] w fun e w' => ∃ c, e = .returned (.slice (some ⟨w.heap.size, 0, none⟩) 0 c) ∧ w'.ownsRow w.heap.size 3 1 (.slice (some ⟨w.heap.size, 0, none⟩) 0 c) 0 [] ∧ Below w.heap.size w w' := by
  obtain ⟨i0, hi, hz0, hz1, hz2⟩ := info_parts Tryz.infoInt
  have u22 : Tryz.prog.underlying 157 = some (.slice 3) := Tryz.underlying157
  have u3 : Tryz.prog.underlying 3 = some (.int .i64) := Tryz.underlying3
  have hold : (Builtin.firstCells i0.size 0 (.slice none 0 0)).run Tryz.prog w.drew = .ok ([] : List Value).toArray w.drew := run_firstCells_none w.drew i0.size 0 0 0
  have hrz : ∀ ty, (Builtin.append_ #[157, 3] ty #[.slice none 0 0, .int .i64 n]).run Tryz.prog w =
      .ok (.slice (some ⟨w.heap.size, 0, none⟩) n (grownCap w n 0 3)) (w.drew.alloc (.cells (([] : List Value).toArray ++ Builtin.zeroCells (Value.int .i64 0).cells n ++ Builtin.zeroCells (Value.int .i64 0).cells (grownCap w n 0 3 - n)) 3)) := fun ty => by
    have h := Lib.run_append_grow_zeros w 157 3 ty 3 i0 (.int .i64 0) .i64 .i64 u22 u3 hi hz0 none 0 0 [] hold n (by omega) (by rw [hz1]; decide) (by omega) (by omega) (by rw [hz2]; omega)
      (by rw [Nat.zero_add]; exact growslice_fits (by omega) (by rw [hz2]; omega))
    rw [Nat.zero_add] at h
    exact h
  have hGn : n ≤ grownCap w n 0 3 := grownCap_ge w _ _ _
  have hGm : grownCap w n 0 3 ≤ maxLen := grownCap_le_maxLen w n 0 3 (by unfold maxLen; omega)
  obtain ⟨G, hG⟩ : ∃ G, grownCap w n 0 3 = G := ⟨_, rfl⟩
  rw [hG] at hrz hGn hGm
  have hsz : (([] : List Value).toArray ++ Builtin.zeroCells (Value.int .i64 0).cells n ++ Builtin.zeroCells (Value.int .i64 0).cells (G - n)).size = G := by
    simp [Builtin.zeroCells, Value.cells]; omega
  obtain ⟨CS, hCS⟩ : ∃ CS, ([] : List Value).toArray ++ Builtin.zeroCells (Value.int .i64 0).cells n ++ Builtin.zeroCells (Value.int .i64 0).cells (G - n) = CS := ⟨_, rfl⟩
  rw [hCS] at hrz hsz
  have HSZ := Lib.hid hsz
  have HGM := Lib.hid hGm
  have hGm2 : G ≤ 9223372036854775807 := by unfold maxLen at hGm; omega
  have hown : (w.drew.alloc (.cells CS 3)).ownsRow w.heap.size 3 1 (.slice (some ⟨w.heap.size, 0, none⟩) 0 G) 0 [] :=
    ⟨rfl, .inr ⟨w.heap.size, G, CS, rfl, Nat.le_refl _, heap_alloc_new w.drew _, Nat.zero_le _, hGm, by omega, by simp⟩⟩
  have HO := Lib.hid hown
  clear hold hG hsz hGm hown hCS
  go_enter Tryz.func232, Tryz.ntmps232
  go_wp2_with (at_builtin; refine Lib.wpList_append_run _ rfl _ _ _ _ rfl _ _ rfl rfl _ _ (hrz _) ?_)
  go_ret
  exact ⟨G, rfl, HO.out, ((Below.refl _ w).drew).alloc (Nat.le_refl _) _⟩

/-- Rows in memory. -/
def RowsIn (w : World) (us : List Value) (rs : List (List Int)) : Prop :=
  us.length = rs.length ∧ ∀ (j : Nat) (u : Value) (r : List Int), us[j]? = some u → rs[j]? = some r → ∃ g c, u = .slice (some ⟨g, 0, none⟩) r.length c ∧ g < w.heap.size ∧ ∀ (k : Nat) (v : Int), r[k]? = some v → w.cell? ⟨g, k, none⟩ = some (.int .i64 v)
theorem flat_step {rs : List (List Int)} {k : Nat} {r : List Int} (h : rs[k]? = some r) : (rs.take (k + 1)).flatten = (rs.take k).flatten ++ r := by
  rw [List.take_add_one, h, List.flatten_append]; simp
theorem flat_le (rs : List (List Int)) (k : Nat) : ((rs.take k).flatten).length ≤ rs.flatten.length := by
  have h := congrArg (fun l => (List.flatten l).length) (List.take_append_drop k rs)
  simp only [List.flatten_append, List.length_append] at h
  omega

set_option maxRecDepth 100000 in
set_option maxHeartbeats 6400000 in
theorem concat_any (g o n c : Nat) (us : List Value) (rs : List (List Int)) (w : World) (hg : g < w.heap.size) (hn : us.length = n) (hn2 : n ≤ 1000000) (hcell : ∀ (j : Nat) (u : Value), us[j]? = some u → w.cell? ⟨g, o + j, none⟩ = some u)
    (hrow : RowsIn w us rs) (N : Nat) (hN : rs.flatten.length = N) (hN1 : 1 ≤ N) (hN2 : N ≤ 1000000) :
    Calls Tryz.prog 211 #[.slice (some ⟨g, o, none⟩) n c] w fun e w' => ∃ gg cc, e = .returned (.slice (some ⟨gg, 0, none⟩) N cc) ∧ w'.ownsRow w.heap.size 3 1 (.slice (some ⟨gg, 0, none⟩) N cc) N ((rs.flatten).map (Value.int .i64)) ∧ Below w.heap.size w w' := by
  obtain ⟨i0, hi, hz0, hz1, hz2⟩ := info_parts Tryz.infoInt
  have KG := Lib.hid (fun W => grow_nil N hN1 hN2 W)
  have HC := Lib.hid hcell
  have HR := Lib.hid hrow
  have HN := Lib.hid hn
  have HNN := Lib.hid hN
  have hrl : rs.length = n := by rw [← hrow.1]; exact hn
  have HRL := Lib.hid hrl
  clear hcell hrow hn hN hrl
  go_enter Tryz.func211, Tryz.ntmps211
  go_wp2
  go_loop [3, 11] (fun z i => ∃ k : Nat, k ≤ n ∧ i = .int .i64 k ∧ ∃ q : Nat, z = .int .i64 q ∧ Hid (q = ((rs.take k).flatten).length)) (fun _ i => n - (intOf i).toNat)
  case atStart => exact ⟨0, Nat.zero_le _, rfl, 0, rfl, Lib.hid rfl⟩
  case round =>
    obtain ⟨k, hk, rfl, q, rfl, hq⟩ := hrel
    have hqN : q ≤ N := by have h1 := flat_le rs k; have h2 := hq.out; have h3 := HNN.out; omega
    by_cases hlt : k < n
    · obtain ⟨u, hu⟩ : ∃ u, us[k]? = some u := ⟨us[k]'(by rw [HN.out]; exact hlt), List.getElem?_eq_getElem _⟩
      obtain ⟨r, hr⟩ : ∃ r, rs[k]? = some r := ⟨rs[k]'(by rw [HRL.out]; exact hlt), List.getElem?_eq_getElem _⟩
      obtain ⟨gg, cc, rfl, -, -⟩ := HR.out.2 k u r hu hr
      have hc := HC.out k _ hu
      have hq2 := Lib.hid (show q + r.length = ((rs.take (k + 1)).flatten).length by rw [flat_step hr, List.length_append, ← hq.out])
      have hqN2 : q + r.length ≤ N := by have h1 := flat_le rs (k + 1); have h2 := hq2.out; have h3 := HNN.out; omega
      obtain ⟨m, hm⟩ : ∃ m, r.length = m := ⟨_, rfl⟩
      rw [hm] at hc hq2 hqN2
      clear hu hr hm
      go_wp2
      go_round
      case rel => exact ⟨k + 1, by omega, by go_num, q + m, by go_num, hq2⟩
      case measure => first | (simp [intOf]; done) | (simp [intOf]; omega)
    · obtain rfl : n = k := by omega
      have hqe : q = N := by
        have h2 := hq.out; have h3 := HNN.out
        rw [List.take_of_length_le (by have := HRL.out; omega)] at h2
        omega
      subst hqe
      go_wp2_with fail
      refine (KG.out _).mono ?_
      rintro e w1 ⟨c1, rfl, hown1, hb1⟩
      have HB1 := Lib.hid hb1
      have HO1 := Lib.hid hown1
      clear hown1 hb1
      go_wp2
      go_loopw [6, 27] (fun out i wr => ∃ k : Nat, k ≤ n ∧ i = .int .i64 k ∧ wr.ownsRow w.heap.size 3 1 out ((rs.take k).flatten).length (((rs.take k).flatten).map (Value.int .i64)) ∧ (∃ gg cc, out = .slice (some ⟨gg, 0, none⟩) ((rs.take k).flatten).length cc) ∧ Below w.heap.size w wr)
        (fun _ i _ => n - (intOf i).toNat)
      case atStart => exact ⟨0, Nat.zero_le _, rfl, HO1.out, ⟨_, _, rfl⟩, HB1.out⟩
      case round =>
        obtain ⟨k, hk, rfl, hown, ⟨gg, cc, rfl⟩, hnx⟩ := hrel
        have hsz := hnx.size
        have hqN : ((rs.take k).flatten).length ≤ q := by have h1 := flat_le rs k; have h3 := HNN.out; omega
        by_cases hlt2 : k < n
        · obtain ⟨u, hu⟩ : ∃ u, us[k]? = some u := ⟨us[k]'(by rw [HN.out]; exact hlt2), List.getElem?_eq_getElem _⟩
          obtain ⟨r, hr⟩ : ∃ r, rs[k]? = some r := ⟨rs[k]'(by rw [HRL.out]; exact hlt2), List.getElem?_eq_getElem _⟩
          obtain ⟨ga, ca, rfl, hga, hcs⟩ := HR.out.2 k u r hu hr
          have hc : wr.cell? ⟨g, o + k, none⟩ = some (.slice (some ⟨ga, 0, none⟩) r.length ca) := (hnx.cell (by exact hg)).trans (HC.out k _ hu)
          have hfs := flat_step hr
          have hqN2 : ((rs.take k).flatten).length + r.length ≤ q := by
            have h1 := flat_le rs (k + 1); have h3 := HNN.out
            rw [hfs, List.length_append] at h1; omega
          have HFS := Lib.hid hfs
          have hnews := Lib.hid (show ∀ (j : Nat) (v : Value), (r.map (Value.int .i64))[j]? = some v → wr.cell? ((⟨ga, 0, none⟩ : Addr).add j) = some v from fun j v h => by
            rw [List.getElem?_map] at h
            cases hv : r[j]? with
            | none => rw [hv] at h; cases h
            | some x =>
              rw [hv] at h
              have e : Value.int .i64 x = v := by simpa using h
              subst e
              have hadd : (⟨ga, 0, none⟩ : Addr).add j = ⟨ga, j, none⟩ := by unfold Addr.add; split <;> simp_all
              rw [hadd]
              exact (hnx.cell (by exact hga)).trans (hcs j x hv))
          obtain ⟨F, hF⟩ : ∃ F, (rs.take k).flatten = F := ⟨_, rfl⟩
          rw [hF] at hown hqN hqN2 HFS ⊢
          have HF := Lib.hid hF
          clear hu hr hfs hcs hF
          go_wp2_with (at_builtin; refine wpList_append_own _ rfl (.tmp 31) (.tmp 32) 157 rfl w.heap.size 3 i0 (.int .i64 0) 1 8 Tryz.underlying157 hi hz0 hz1 hz2 rfl (by decide) _ F.length _ rfl hown ⟨ga, 0, none⟩ r.length ca (r.map (Value.int .i64)) rfl (by simp) hnews.out (by intro u hu; obtain ⟨x, _, rfl⟩ := List.mem_map.1 hu; rfl) (by unfold maxLen; omega) (by omega) (by omega) ?_; intro v' w3 hown3 hgrow3 hiff; have HIFF := Lib.hid hiff; clear hiff)
          have hsh : ∃ g' c', v' = .slice (some ⟨g', 0, none⟩) (F.length + r.length) c' := by
            rcases hown3.2 with ⟨h, _⟩ | ⟨g', c', cur, h, _⟩
            · exact absurd (HIFF.out.1 h).1 (by intro h; cases h)
            · exact ⟨g', c', h⟩
          have HSH := Lib.hid hsh
          clear hsh
          go_roundw
          case rel => exact ⟨k + 1, by omega, by go_num, by rw [HFS.out, List.length_append, List.map_append]; exact hown3, by rw [HFS.out, List.length_append]; exact HSH.out, hnx.grown hgrow3 (by omega) (fun p hp => (hown.lt p hp).1)⟩
          case measure => first | (simp [intOf]; done) | (simp [intOf]; omega)
        · obtain rfl : n = k := by omega
          have HT := Lib.hid (List.take_of_length_le (l := rs) (i := n) (by have := HRL.out; omega))
          have HX : Hid (∃ g2 c2, Value.slice (some ⟨gg, 0, none⟩) ((rs.take n).flatten).length cc = .slice (some ⟨g2, 0, none⟩) q c2 ∧ wr.ownsRow w.heap.size 3 1 (.slice (some ⟨g2, 0, none⟩) q c2) q ((rs.flatten).map (Value.int .i64))) := Lib.hid (by
            rw [HT.out] at hown ⊢
            rw [HNN.out] at hown ⊢
            exact ⟨gg, cc, rfl, hown⟩)
          have HB := Lib.hid hnx
          clear hown hnx
          go_wp2
          go_ret
          obtain ⟨g2, c2, e1, e2⟩ := HX.out
          exact ⟨g2, c2, congrArg Ending.returned e1, e2, HB.out⟩
end Go.Proofs.YtpmjiifdnnhecaaGreatDoor

/-
  Texts: toMap in the words of ResV, nil or not; slices.Concat of no rows; assembled.
-/

namespace Go.Proofs.YtpmjiifdnnhecaaGreatDoor
open Go.RowKit
set_option linter.unusedVariables false
set_option linter.unusedSimpArgs false

theorem toMap_res (W H : Int) (g N c B : Nat) (ls : List Int) (hl : ls.length = N) (hm : N ≤ 4096) (w : World) (ho : w.ownsRow B 3 1 (.slice (some ⟨g, 0, none⟩) N c) N (ls.map (Value.int .i64))) :
    Calls Tryz.prog 153 #[.agg #[.int .i64 W, .int .i64 H, .slice (some ⟨g, 0, none⟩) N c]] w fun e w' =>
      ∃ X Y a' n' c', e = .returned (.tuple #[.agg #[.int .i64 X, .int .i64 Y, .slice a' n' c'], .int .i64 (largeErr N ls)]) ∧ ResV w' (largeErr N ls) W H ls X Y a' n' c' ∧ Below w.heap.size w w' := by
  have hg := (owns_room' ho).2
  have hc : ∀ j, j < N → w.cell? ⟨g, 0 + j, none⟩ = some (.int .i64 (ls[j]?.getD 0)) := fun j hj => by
    rw [Nat.zero_add]
    refine owns_cell ho ?_
    rw [List.getElem?_map, List.getElem?_eq_getElem (by omega)]; rfl
  unfold largeErr
  by_cases hs : ∀ j, j < N → (ls[j]?.getD 0).natAbs ≤ 16384
  · rw [if_pos hs]
    refine (toMap_any W H g 0 N c ls hl hm w hg hc hs).mono ?_
    rintro e w' ⟨rfl, h1, h2⟩
    refine ⟨W, H, _, _, _, rfl, ResV.some hl hm hs (owns_room' h1).2 (fun j hj => owns_cell h1 (by rw [List.getElem?_map, List.getElem?_eq_getElem (by omega)]; rfl)), h2⟩
  · rw [if_neg hs]
    refine (toMap_large W H g 0 N c ls hl hm w hg hc hs).mono ?_
    rintro e w' ⟨rfl, h2⟩
    exact ⟨0, 0, none, 0, 0, rfl, ResV.none _ _ _ _ _ (by decide), h2⟩

set_option maxRecDepth 100000 in
set_option maxHeartbeats 3200000 in
theorem mapped_nil (w : World) :
    Calls Tryz.prog 203 #[.slice none 0 0, .func (.func 168) #[] #[]] w fun e w' =>
      e = .returned (.slice (some ⟨w.heap.size, 0, none⟩) 0 0) ∧ Below w.heap.size w w' ∧ w.heap.size < w'.heap.size := by
  obtain ⟨i0, hi, hz0, hz1, hz2⟩ := info_parts Tryz.infoF32
  go_enter Tryz.func203, Tryz.ntmps203
  go_wp2_with (at_make; refine wpList_make_own _ rfl _ _ 115 rfl w.heap.size 119 i0 (.float .f32 0) 1 Tryz.underlying115 hi hz0 hz1 _ _ _ 0 rfl rfl (by omega) ?b2 ?b3 (Nat.le_refl _) ?_)
  case b2 => rw [hz2]; omega
  case b3 => unfold maxLen; omega
  intro w0 hown0 hgrow0
  have hB := (Below.refl w.heap.size w).grown hgrow0 (Nat.le_refl _) (fun k h => by cases h)
  have hlt := (owns_room' hown0).2
  have HB := Lib.hid hB
  have HLT := Lib.hid hlt
  clear hB hlt hown0 hgrow0
  go_wp2
  go_loopw [5, 13] (fun out i wr => out = .slice (some ⟨w.heap.size, 0, none⟩) 0 0 ∧ i = .int .i64 0 ∧ wr = w0) (fun _ i _ => 0)
  case atStart => exact ⟨rfl, rfl, rfl⟩
  case round =>
    obtain ⟨rfl, rfl, hw⟩ := hrel
    have HW := Lib.hid hw
    clear hw
    go_wp2
    go_ret
    exact ⟨rfl, by rw [HW.out]; exact HB.out, by rw [HW.out]; exact HLT.out⟩

set_option maxRecDepth 100000 in
set_option maxHeartbeats 3200000 in
theorem toMap_nil (W H : Int) (w : World) :
    Calls Tryz.prog 153 #[.agg #[.int .i64 W, .int .i64 H, .slice none 0 0]] w fun e w' =>
      e = .returned (.tuple #[.agg #[.int .i64 W, .int .i64 H, .slice (some ⟨w.heap.size + 2, 0, none⟩) 0 0], .int .i64 0]) ∧ Below w.heap.size w w' ∧ w.heap.size + 2 < w'.heap.size := by
  have K : ∀ w1 : World, Below w.heap.size w w1 → w1.heap.size = w.heap.size + 2 → Calls Tryz.prog 203 #[.slice none 0 0, .func (.func 168) #[] #[]] w1 fun e w' =>
      e = .returned (.slice (some ⟨w.heap.size + 2, 0, none⟩) 0 0) ∧ Below (w.heap.size + 2) w1 w' ∧ w.heap.size + 2 < w'.heap.size := by
    intro w1 h1 hs1
    rw [← hs1]
    exact mapped_nil w1
  have HK := Lib.hid K
  clear K
  go_enter Tryz.func153, Tryz.ntmps153
  go_wp2_with fail
  obtain ⟨W0, hW0⟩ : ∃ W0, ((w.alloc (.cells #[.int .i64 W, .int .i64 H, .slice none 0 0] 225)).alloc (.cells #[.int .i64 0, .int .i64 0, .slice none 0 0] 121)) = W0 := ⟨_, rfl⟩
  have hB0 : Below w.heap.size w W0 := by rw [← hW0]; exact ((Below.refl _ w).alloc (Nat.le_refl _) _).alloc (by simp) _
  have hz0 : W0.heap.size = w.heap.size + 2 := by rw [← hW0]; simp
  have c0 : W0.cell? ⟨w.heap.size, 0, none⟩ = some (.int .i64 W) := by rw [← hW0]; simp [go_sem]
  have c1 : W0.cell? ⟨w.heap.size, 1, none⟩ = some (.int .i64 H) := by rw [← hW0]; simp [go_sem]
  have c2 : W0.cell? ⟨w.heap.size, 2, none⟩ = some (.slice none 0 0) := by rw [← hW0]; simp [go_sem]
  have t0 : W0.cell? ⟨w.heap.size + 1, 0, none⟩ = some (.int .i64 0) := by rw [← hW0]; simp [go_sem]
  have t1 : W0.cell? ⟨w.heap.size + 1, 1, none⟩ = some (.int .i64 0) := by rw [← hW0]; simp [go_sem]
  have t2 : W0.cell? ⟨w.heap.size + 1, 2, none⟩ = some (.slice none 0 0) := by rw [← hW0]; simp [go_sem]
  have fz : ∀ j, W0.frozen? ⟨w.heap.size + 1, j, none⟩ = false := fun j => by rw [← hW0]; simp [go_sem]
  rw [hW0]
  have HB0 := Lib.hid hB0
  have HZ0 := Lib.hid hz0
  clear hW0 hB0 hz0
  go_loop [9] (fun i => i = .int .i64 0) (fun i => 0)
  case atStart => rfl
  case round =>
    obtain rfl := hrel
    go_wp2_with fail
    go_region_held3 (fun w' => w'.cell? ⟨w.heap.size, 0, none⟩ = some (.int .i64 W) ∧ w'.cell? ⟨w.heap.size, 1, none⟩ = some (.int .i64 H) ∧ w'.cell? ⟨w.heap.size, 2, none⟩ = some (.slice none 0 0))
      (first | go_keep | (go_split_ands; refine ⟨?_, ?_, ?_⟩ <;> rw [hb1.cell (by simp; try omega)] <;> assumption))
      ((go_at_call 203; refine (HK.out _ HB0.out.drew (by show W0.heap.size = _; exact HZ0.out)).mono ?_; rintro e w' ⟨rfl, hb1, hlt⟩
        have s0 : w'.cell? ⟨w.heap.size + 1, 0, none⟩ = some (.int .i64 0) := by rw [hb1.cell (by simp)]; assumption
        have s1 : w'.cell? ⟨w.heap.size + 1, 1, none⟩ = some (.int .i64 0) := by rw [hb1.cell (by simp)]; assumption
        have s2 : w'.cell? ⟨w.heap.size + 1, 2, none⟩ = some (.slice none 0 0) := by rw [hb1.cell (by simp)]; assumption
        have f0 : w'.frozen? ⟨w.heap.size + 1, 0, none⟩ = false := by rw [hb1.frozen (by simp)]; exact fz 0
        have f1 : w'.frozen? ⟨w.heap.size + 1, 1, none⟩ = false := by rw [hb1.frozen (by simp)]; exact fz 1
        have f2 : w'.frozen? ⟨w.heap.size + 1, 2, none⟩ = false := by rw [hb1.frozen (by simp)]; exact fz 2))
    all_goals
      go_wp2
      refine bodyPost_ret (v := .tuple #[.agg #[.int .i64 W, .int .i64 H, .slice (some ⟨w.heap.size + 2, 0, none⟩) 0 0], .int .i64 0]) (by simp [results, Tryz.results153, go_sem, s0, s1, s2]) rfl ⟨rfl, ?_, ?_⟩
      · exact (((HB0.out.drew.trans (hb1.mono (by omega))).setCell (p := ⟨w.heap.size + 1, 0, none⟩) (by simp) _).setCell (p := ⟨w.heap.size + 1, 1, none⟩) (by simp) _).setCell (p := ⟨w.heap.size + 1, 2, none⟩) (by simp) _
      · simpa using hlt

set_option maxRecDepth 100000 in
set_option maxHeartbeats 1600000 in
theorem grow_zero (w : World) :
    Calls Tryz.prog 232 #[.slice none 0 0, .int .i64 0] w fun e w' => e = .returned (.slice none 0 0) ∧ w = w' := by
  go_enter Tryz.func232, Tryz.ntmps232
  go_wp2
  go_ret
  exact ⟨rfl, rfl⟩
set_option maxRecDepth 100000 in
set_option maxHeartbeats 3200000 in
theorem concat_none (a : Option Addr) (c : Nat) (w : World) :
    Calls Tryz.prog 211 #[.slice a 0 c] w fun e w' => e = .returned (.slice none 0 0) ∧ w = w' := by
  go_enter Tryz.func211, Tryz.ntmps211
  go_wp2
  go_loop [3, 11] (fun z i => z = .int .i64 0 ∧ i = .int .i64 0) (fun _ i => 0)
  case atStart => exact ⟨rfl, rfl⟩
  case round =>
    obtain ⟨rfl, rfl⟩ := hrel
    go_wp2_with fail
    refine (grow_zero _).mono ?_
    rintro e w1 ⟨rfl, rfl⟩
    go_wp2
    go_loop [6, 27] (fun z i => z = .slice none 0 0 ∧ i = .int .i64 0) (fun _ i => 0)
    case atStart => exact ⟨rfl, rfl⟩
    case round =>
      obtain ⟨rfl, rfl⟩ := hrel
      go_wp2
      go_ret
      exact ⟨rfl, rfl⟩
end Go.Proofs.YtpmjiifdnnhecaaGreatDoor
