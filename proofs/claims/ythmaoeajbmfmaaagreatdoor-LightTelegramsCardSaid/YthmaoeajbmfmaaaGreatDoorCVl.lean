/-
  What the walks of chapter 1's rows share: the cells of a map's variable, a map's own copy.
-/
import Derived.Test.YthmaoeajbmfmaaaGreatDoorCVk
import Derived.Test.YthmaoeajbmfmaaaGreatDoorCBc
import Derived.Test.YthmaoeajbmfmaaaGreatDoorCHl
import Derived.Test.YthmaoeajbmfmaaaGreatDoorCHn
namespace Go.Proofs.YthmaoeajbmfmaaaGreatDoor
open Go.RowKit
set_option linter.unusedVariables false
set_option linter.unusedSimpArgs false

theorem map_cells {w : World} {B : Nat} {W H : Int} {a : Option Addr} {n c : Nat} (h : w.heap[B]? = some (.cells #[.int .i64 W, .int .i64 H, .slice a n c] 66 (0, 0))) :
    w.cell? ⟨B, 0, none⟩ = some (.int .i64 W) ∧ w.cell? ⟨B, 1, none⟩ = some (.int .i64 H) ∧ w.cell? ⟨B, 2, none⟩ = some (.slice a n c) :=
  ⟨by rw [cell_of_row w _ 0 _ _ (0, 0) h]; rfl, by rw [cell_of_row w _ 1 _ _ (0, 0) h]; rfl, by rw [cell_of_row w _ 2 _ _ (0, 0) h]; rfl⟩
theorem own_of (W H : Int) (a : Option Addr) (n c : Nat) (xs : List Nat) (hm : n ≤ 100000) (wx : World) (hM : AnyMap wx a n c xs) : Calls Tryz.prog 30 #[.agg #[.int .i64 W, .int .i64 H, .slice a n c]] wx fun e w' =>
    ∃ g c', e = .returned (.agg #[.int .i64 W, .int .i64 H, .slice (some ⟨g, 0, none⟩) n c']) ∧ AnyMap w' (some ⟨g, 0, none⟩) n c' xs ∧ Below wx.heap.size wx w' :=
  (lawOwn_all W H a n c xs hm hM).mono fun e w' h => h.map hM.len hM.words
end Go.Proofs.YthmaoeajbmfmaaaGreatDoor

/-
  The walk of LightLosses.
-/
namespace Go.Proofs.YthmaoeajbmfmaaaGreatDoor
open Go.RowKit Go.Shelf
set_option linter.unusedVariables false
set_option linter.unusedSimpArgs false

theorem argErr_two (L : List Tel) (st : Int) : firstNZ [telsErr L, rangeErr st 0 255] = argErr L st := rfl
theorem lostN_le (L : List Tel) (st : Int) : lostN L st ≤ 4096 ∧ (lostErr L st ≠ 0 → lostN L st = 0) := by
  unfold lostN
  split
  · rename_i h
    refine ⟨?_, fun h' => absurd h h'⟩
    unfold lostErr at h
    split at h
    · rename_i h2; exact absurd h h2
    · split at h
      · cases h
      · omega
  · exact ⟨by omega, fun _ => rfl⟩

end Go.Proofs.YthmaoeajbmfmaaaGreatDoor

/-
  The reference's Received of too much; the worlds of the walk of LightTelegrams.
-/
namespace Go.Proofs.YthmaoeajbmfmaaaGreatDoor
open Go.RowKit
set_option linter.unusedVariables false
set_option linter.unusedSimpArgs false

set_option maxRecDepth 100000 in
theorem refReceived_long (a : Option Addr) (n cp : Nat) (hm : 12288 < n) (hl : n ≤ 100000) (w : World) :
    Calls Tryz.prog 25 #[.slice a n cp] w fun e w' => e = .returned (.tuple #[.slice none 0 0, .slice none 0 0, .int .i64 26]) ∧ w = w' := by
  have i1 : (12288 : Int) < (n : Int) := by omega
  have i2 : (n : Int) ≤ 100000 := by omega
  go_enter Tryz.func25, Tryz.ntmps25
  go_wp2
  refine bodyPost_ret (v := .tuple #[.slice none 0 0, .slice none 0 0, .int .i64 26]) (by simp [results, Tryz.results25, go_sem]) rfl ⟨rfl, rfl⟩

/-- These blocks lie so, and nothing below has changed. -/
def Kp (w w' : World) (l : List (Nat × Obj)) : Prop := Below w.heap.size w w' ∧ ∀ p ∈ l, w'.heap[p.1]? = some p.2
theorem Kp.none (w : World) : Kp w w [] := ⟨Below.refl _ _, fun p h => nomatch h⟩
theorem Kp.call {w w1 w2 : World} {l : List (Nat × Obj)} (h : Kp w w1 l) (hb : Below w1.heap.size w1 w2) : Kp w w2 l :=
  ⟨h.1.trans (hb.mono h.1.size), fun p hp => (hb.block _ (lt_of_blk (h.2 p hp))).trans (h.2 p hp)⟩
theorem Kp.kept {w w1 w2 : World} {l : List (Nat × Obj)} (h : Kp w w1 l) (hb : Below w.heap.size w w2) (hq : ∀ p ∈ l, w2.heap[p.1]? = w1.heap[p.1]?) : Kp w w2 l :=
  ⟨hb, fun p hp => (hq p hp).trans (h.2 p hp)⟩
theorem Kp.alloc {w w1 : World} {l : List (Nat × Obj)} (h : Kp w w1 l) (o : Obj) : Kp w (w1.alloc o) ((w1.heap.size, o) :: l) :=
  ⟨h.1.alloc h.1.size o, fun p hp => by
    rcases List.mem_cons.1 hp with rfl | hp
    · exact blk_alloc_new _ _
    · exact blk_alloc_other (h.2 p hp) o⟩
theorem Kp.setHead {w w1 : World} {l : List (Nat × Obj)} {g : Nat} {cur : Array Value} {T : TypeId} (h : Kp w w1 ((g, .cells cur T (0, 0)) :: l)) (cs : Array Value) (hg : w.heap.size ≤ g) (hne : ∀ p ∈ l, p.1 ≠ g) :
    Kp w (w1.setRow g cs) ((g, .cells cs T (0, 0)) :: l) :=
  ⟨h.1.trans ((OnlyBlk.setRow w1 g cs).below h.1.size hg), fun p hp => by
    rcases List.mem_cons.1 hp with rfl | hp
    · exact setRow_heap w1 _ _ _ _ _ (h.2 _ (.head _))
    · exact ((OnlyBlk.setRow w1 g cs).1.block _ (lt_of_blk (h.2 p (.tail _ hp))) (by intro e; exact hne p hp (Option.some.inj e))).trans (h.2 p (.tail _ hp))⟩

theorem Kp.stored {w w1 : World} {l : List (Nat × Obj)} (h : Kp w w1 l) (cur cs : Array Value) (T : TypeId) : Kp w ((w1.alloc (.cells cur T)).setRow w1.heap.size cs) ((w1.heap.size, .cells cs T) :: l) :=
  (h.alloc (.cells cur T)).setHead cs h.1.size (fun p hp => Nat.ne_of_lt (lt_of_blk (h.2 p hp)))

/-- A row of bytes is a slice of bytes. -/
theorem AnyBytes.of_row {w : World} {B n : Nat} {v : Value} {S : List Int} (hS : BytesV S n) (h : w.ownsRow B 5 1 v n (S.map (Value.int .u8))) :
    ∃ a c, v = .slice a n c ∧ n ≤ c ∧ c ≤ 9223372036854775807 ∧ AnyBytes w a n S := by
  rcases h.2 with ⟨rfl, rfl⟩ | ⟨g, cap, cur, rfl, hb, hg, h1, h2, _⟩
  · exact ⟨none, 0, rfl, Nat.le_refl _, by omega, hS, fun j hj => absurd hj (by omega)⟩
  · exact ⟨_, _, rfl, h1, by unfold maxLen at h2; omega, hS, fun j hj => ⟨g, 0, rfl, lt_of_blk hg, fun i u hu => by
      have h3 := h.cells (g := g) rfl i u hu
      rwa [Addr.add_mid] at h3⟩⟩
end Go.Proofs.YthmaoeajbmfmaaaGreatDoor

/-
  What both Receiveds give, in one contract.
-/
namespace Go.Proofs.YthmaoeajbmfmaaaGreatDoor
open Go.RowKit
set_option linter.unusedVariables false
set_option linter.unusedSimpArgs false

theorem rcv_len (S : List Int) (n : Nat) : ∀ (f k : Nat) (ts : List Tel) (sp : List (Int × Int)), (rcv S n f k ts sp).1.length ≤ ts.length + f ∧ (rcv S n f k ts sp).2.length ≤ sp.length + f
  | 0, _, _, _ => ⟨Nat.le_refl _, Nat.le_refl _⟩
  | f + 1, k, ts, sp => by
    rw [rcv]
    by_cases h : k < n
    · rw [if_pos h]
      by_cases ho : okAt S n k = true
      · rw [if_pos ho]
        have h1 := rcv_len S n f (k + 24) (ts ++ [telAt S n k]) sp
        rw [List.length_append] at h1
        simp only [List.length_cons, List.length_nil] at h1
        omega
      · rw [if_neg ho]
        have h1 := rcv_len S n f (k + 1) ts (extL sp k)
        have h2 := extL_len sp k
        omega
    · rw [if_neg h]
      exact ⟨Nat.le_add_right _ _, Nat.le_add_right _ _⟩

/-- Telegrams, spans and an error. -/
def RP (w1 : World) (L : List Tel) (P : List (Int × Int)) (E : Int) (e : Ending) (w' : World) : Prop :=
  ∃ a1 c1 a2 c2, e = .returned (.tuple #[.slice a1 L.length c1, .slice a2 P.length c2, .int .i64 E]) ∧ AnyTels w' a1 L.length L ∧ AnySpans w' a2 P.length P ∧ Below w1.heap.size w1 w'
theorem RP.long (w1 : World) : RP w1 [] [] 26 (.returned (.tuple #[.slice none 0 0, .slice none 0 0, .int .i64 26])) w1 :=
  ⟨none, 0, none, 0, rfl, ⟨rfl, fun j hj => absurd hj (Nat.not_lt_zero j)⟩, ⟨rfl, fun j hj => absurd hj (Nat.not_lt_zero j)⟩, Below.refl _ _⟩

theorem receiveds (S : List Int) (n : Nat) (hn : n ≤ 400 ∨ n = 12289) : ∃ (L : List Tel) (P : List (Int × Int)) (E : Int), L.length ≤ 13000 ∧ P.length ≤ 13000 ∧
    (∀ (a : Option Addr) (c : Nat), n ≤ c → c ≤ 9223372036854775807 → ∀ w1 : World, AnyBytes w1 a n S → Calls Tryz.prog 21 #[.slice a n c] w1 (RP w1 L P E)) ∧
    (∀ (a : Option Addr) (c : Nat) (w1 : World), AnyBytes w1 a n S → Calls Tryz.prog 25 #[.slice a n c] w1 (RP w1 L P E)) := by
  rcases hn with hn | rfl
  · have hl := rcv_len S n n 0 [] []
    refine ⟨rcvL S n, rcvP S n, 0, ?_, ?_, ?_, ?_⟩
    · have h : (rcvL S n).length ≤ 0 + n := hl.1
      omega
    · have h : (rcvP S n).length ≤ 0 + n := hl.2
      omega
    · intro a c h1 h2 w1 hA
      refine (received_all S a n c (by omega) h1 h2 w1 hA).mono ?_
      rintro e w' ⟨v1, v2, rfl, ho1, ho2, hb⟩
      obtain ⟨a1, c1, rfl, hT⟩ := AnyTels.of_row rfl ho1
      obtain ⟨a2, c2, rfl, hP⟩ := AnySpans.of_row ho2
      exact ⟨a1, c1, a2, c2, rfl, hT, hP, hb⟩
    · intro a c w1 hA
      refine (refReceived_all S a n c (by omega) w1 hA).mono ?_
      rintro e w' ⟨v1, v2, rfl, ho1, ho2, hb⟩
      obtain ⟨a1, c1, rfl, hT⟩ := AnyTels.of_rowR rfl ho1
      obtain ⟨a2, c2, rfl, hP⟩ := AnySpans.of_row ho2
      exact ⟨a1, c1, a2, c2, rfl, hT, hP, hb⟩
  · refine ⟨[], [], 26, by simp, by simp, ?_, ?_⟩
    · intro a c h1 h2 w1 hA
      refine (received_long a 12289 c (by omega) (by omega) w1).mono ?_
      rintro e w' ⟨rfl, rfl⟩
      exact RP.long _
    · intro a c w1 hA
      refine (refReceived_long a 12289 c (by omega) (by omega) w1).mono ?_
      rintro e w' ⟨rfl, rfl⟩
      exact RP.long _
end Go.Proofs.YthmaoeajbmfmaaaGreatDoor
