/-
  The walk of TopEmberSent: its first part, to the padded levels; what is behind it is a premise.
-/
import Derived.Test.YtnlbgikhkpalcaaCYe
namespace Go.Proofs.Ytnlbgikhkpalcaa
open Go.RowKit
set_option linter.unusedVariables false

/-- What the first part owes. -/
def SentRest (W H : Int) (n c : Nat) (xs : List Nat) (lost : Int) (w : World) : Prop :=
  ∀ (b o : Nat) (ks : List Int) (m g cc : Nat) (lev : List Int) (B : Nat) (wx : World), Sent w W H b o n c xs ks m g cc lev B wx → Tail21 W H b o n c m g cc lev lost w wx

theorem choose_list {P : Nat → Int → Prop} : ∀ n : Nat, (∀ j, j < n → ∃ k, P j k) → ∃ ks : List Int, ks.length = n ∧ ∀ j, j < n → P j (ks[j]?.getD 0)
  | 0, _ => ⟨[], rfl, fun j hj => by omega⟩
  | n + 1, h => by
    obtain ⟨ks, h1, h2⟩ := choose_list n (fun j hj => h j (by omega))
    obtain ⟨k, hk⟩ := h n (by omega)
    refine ⟨ks ++ [k], by simp [h1], fun j hj => ?_⟩
    by_cases e : j < n
    · rw [List.getElem?_append_left (by omega)]; exact h2 j e
    · obtain rfl : j = n := by omega
      rw [← h1]; simp; rw [h1]; exact hk

set_option maxRecDepth 1000000 in
set_option maxHeartbeats 6400000 in
theorem sent_try (W H : Int) (a : Option Addr) (n c : Nat) (xs : List Nat) (lost : Int) (hl : 0 ≤ lost ∧ lost ≤ 65535) (hm : n ≤ 4611686018427387904) (w : World) (hwf : ∀ j, j < n → xs[j]?.getD 0 < 2 ^ 32) (hxl : xs.length = n)
    (hs : ∀ j, j < n → ∃ b o, a = some ⟨b, o, none⟩ ∧ b < w.heap.size ∧ ∀ j, j < n → w.cell? ⟨b, o + j, none⟩ = some (.float .f32 (xs[j]?.getD 0)))
    (hT : SentRest W H n c xs lost w) :
    Calls Try.prog 3 #[.agg #[.int .i64 W, .int .i64 H, .slice a n c], .int .u16 lost] w (SentPost w) := by
  obtain ⟨W0, hW0⟩ : ∃ W0, w.alloc (.cells #[.int .i64 W, .int .i64 H, .slice a n c] 24) = W0 := ⟨_, rfl⟩
  have hB0 : Below w.heap.size w W0 := by rw [← hW0]; exact (Below.refl _ w).alloc (Nat.le_refl _) _
  have hS0 : w.heap.size + 1 ≤ W0.heap.size := by rw [← hW0]; simp
  have b0 : W0.heap[w.heap.size]? = some (.cells #[.int .i64 W, .int .i64 H, .slice a n c] 24 (0, 0)) := by rw [← hW0]; exact blk_alloc_new _ _
  have c0 : W0.cell? ⟨w.heap.size, 0, none⟩ = some (.int .i64 W) := by rw [cell_of_row W0 _ 0 _ _ (0, 0) b0]; rfl
  have c1 : W0.cell? ⟨w.heap.size, 1, none⟩ = some (.int .i64 H) := by rw [cell_of_row W0 _ 1 _ _ (0, 0) b0]; rfl
  have c2 : W0.cell? ⟨w.heap.size, 2, none⟩ = some (.slice a n c) := by rw [cell_of_row W0 _ 2 _ _ (0, 0) b0]; rfl
  have K1 := Lib.hid (emberSmall_any (w := W0) W H a n c xs (fun j hj => by
    obtain ⟨b, o, e1, e2, e3⟩ := hs j hj
    exact ⟨b, o, e1, by omega, fun j hj => (hB0.cell (p := ⟨b, o + j, none⟩) e2).trans (e3 j hj)⟩) hm)
  have HS := Lib.hid hs
  have HB0 := Lib.hid hB0
  have HB0' := Lib.hid b0
  clear hs hB0 b0
  go_enter Try.func3, Try.ntmps3
  go_wp2_with fail
  refine K1.out.mono ?_
  rintro e w1 ⟨r, rfl, hr, hb1⟩
  have hs1 := hb1.size
  cases r with
  | false =>
    clear hr c0 c1 c2
    go_wp2_with ((go_at_call 5; refine (emberRing_any _).mono ?_; rintro e w2 ⟨rfl, hb2⟩))
    go_ret
    exact ⟨rfl, (HB0.out.trans (hb1.mono (by omega))).trans (hb2.mono (by omega))⟩
  | true =>
    obtain ⟨⟨hW1, hW2, hH1, hH2, hA, hxs⟩, h36⟩ := hr rfl
    clear hr
    have hmul : 1 ≤ W * H := by have := Int.mul_le_mul hW1 hH1 (by omega) (by omega); omega
    have hn1 : 1 ≤ n := by omega
    obtain ⟨b, o, rfl, hbl, hcl⟩ := HS.out 0 (by omega)
    obtain ⟨ks, hkl, hks⟩ := choose_list n hxs
    have hB01 : Below w.heap.size w w1 := HB0.out.trans (hb1.mono (by omega))
    have hRM : RightMap w1 W H b o n xs ks := ⟨⟨hxl, hkl, by omega, fun j hj => (hB01.cell (p := ⟨b, o + j, none⟩) hbl).trans (hcl j hj), hwf, fun j hj => (hks j hj).1, fun j hj => (hks j hj).2⟩, ⟨hW1, hW2⟩, ⟨hH1, hH2⟩, hA⟩
    have hbx : w1.heap[w.heap.size]? = some (.cells #[.int .i64 W, .int .i64 H, .slice (some ⟨b, o, none⟩) n c] 24 (0, 0)) := (hb1.block _ (lt_of_blk HB0'.out)).trans HB0'.out
    have d0 : w1.cell? ⟨w.heap.size, 0, none⟩ = some (.int .i64 W) := by rw [cell_of_row w1 _ 0 _ _ (0, 0) hbx]; rfl
    have d1 : w1.cell? ⟨w.heap.size, 1, none⟩ = some (.int .i64 H) := by rw [cell_of_row w1 _ 1 _ _ (0, 0) hbx]; rfl
    have d2 : w1.cell? ⟨w.heap.size, 2, none⟩ = some (.slice (some ⟨b, o, none⟩) n c) := by rw [cell_of_row w1 _ 2 _ _ (0, 0) hbx]; rfl
    have K2 := Lib.hid (levels_any W H b o n c xs ks hRM.toWords hn1 (by omega))
    have HRM := Lib.hid hRM
    have HBX := Lib.hid hbx
    have HB01 := Lib.hid hB01
    clear hRM hbx hB01 hks hcl hxs c0 c1 c2 hb1
    obtain ⟨m, hm3⟩ : ∃ m : Nat, (n + 2) / 3 = m := ⟨_, rfl⟩
    have hmI : ((n : Int) + 2) / 3 = (m : Int) := by omega
    have hm12 : 1 ≤ m ∧ m ≤ 12 ∧ n ≤ 3 * m := by omega
    obtain ⟨i0, hi, hz0, hz1, hz2⟩ := info_parts Try.infoInt
    go_upto_block 0 with ((go_at_call 6; refine K2.out.mono ?_; rintro e w2 ⟨v, rfl, hown, hb2⟩; (obtain ⟨ao, cc, rfl⟩ := owns_slice hown)))
    rw [hmI]
    go_cut [5] (fun s5 wx => ∃ g cc, s5 = .slice (some ⟨g, 0, none⟩) (3 * m) cc ∧ wx.ownsRow w1.heap.size 3 1 (.slice (some ⟨g, 0, none⟩) (3 * m) cc) (3 * m) ((ks ++ List.replicate (3 * m - n) 0).map (Value.int .i64)) ∧ Below w1.heap.size w1 wx)
    case first =>
      have hnlen : (n : Int) ≤ 36 := by omega
      go_wp2_with fail
      go_loopw [5] (fun v wr => ∃ k : Nat, n + k ≤ 3 * m ∧ (∃ ao cc, v = .slice ao (n + k) cc) ∧ wr.ownsRow w1.heap.size 3 1 v (n + k) ((ks ++ List.replicate k 0).map (Value.int .i64)) ∧ Below w1.heap.size w1 wr)
        (fun v _ => 3 * m - (match v with | .slice _ l _ => l | _ => 0))
      case atStart => exact ⟨0, by omega, ⟨_, _, rfl⟩, by simpa using hown, hb2⟩
      case round =>
        obtain ⟨k, hk, ⟨ao, cc, rfl⟩, hown, hnx⟩ := hrel
        have hsz := hnx.size
        obtain ⟨l, hl⟩ : ∃ l, n + k = l := ⟨_, rfl⟩
        have hlI : l ≤ 3 * m := by omega
        have hl36 : (l : Int) ≤ 36 := by omega
        rw [hl] at hown ⊢
        have HL := Lib.hid hl
        clear hl hk
        by_cases hlt : l < 3 * m
        · have hltI : (l : Int) < 3 * (m : Int) := by omega
          go_wp2_with (at_builtin; refine wpList_append_own _ rfl (.tmp 56) (.tmp 57) 29 rfl w1.heap.size 3 i0 (.int .i64 0) 1 8 Try.underlying29 hi hz0 hz1 hz2 rfl (by decide) _ _ _ rfl (hown.alloc _) ⟨wr.heap.size, 0, none⟩ 1 1 [.int .i64 0] rfl rfl (cell_one_new _ _ _) (by intro u hu; simp at hu; subst hu; rfl) (by unfold maxLen; omega) (by omega) (by simp; omega) ?_; intro v' w3 hown3 hgrow3 _; (obtain ⟨ao3, cc3, rfl⟩ := owns_slice hown3))
          have hlt' := hown.lt
          go_roundw
          case rel =>
            refine ⟨k + 1, by have := HL.out; omega, ⟨ao3, cc3, by rw [show n + (k + 1) = l + 1 by have := HL.out; omega]⟩, ?_, (hnx.alloc hsz _).grown hgrow3 (by simp; omega) (fun j hj => (hlt' j hj).1)⟩
            rw [show n + (k + 1) = l + 1 by have := HL.out; omega, List.replicate_succ', ← List.append_assoc, List.map_append]
            exact hown3
          case measure => show 3 * m - (l + 1) < 3 * m - l; omega
        · have hge : l = 3 * m := by omega
          have hltI : ¬ ((l : Int) < 3 * (m : Int)) := by omega
          have HGE := Lib.hid hge
          clear hge
          go_wp2_with fail
          go_meet
          have hge := HGE.out
          have hkm : k = 3 * m - n := by have := HL.out; omega
          subst hge
          rw [hkm] at hown
          obtain ⟨g, cc', e1, _⟩ := owns_some hown (by omega)
          exact ⟨g, cc', e1, by rw [e1] at hown; exact hown, hnx⟩
    case rest =>
      rename_i hK
      obtain ⟨g, cc5, rfl, hown5, hb5⟩ := hcut
      refine hK _ _ ?_
      clear hK
      have hlvl : ∀ j : Nat, (ks ++ List.replicate (3 * m - n) 0)[j]?.getD 0 = if j < n then ks[j]?.getD 0 else 0 := fun j => by
        by_cases hj : j < n
        · rw [List.getElem?_append_left (by omega), if_pos hj]
        · rw [List.getElem?_append_right (by omega), if_neg hj, List.getElem?_replicate]
          split <;> rfl
      have hSent : Sent w W H b o n c xs ks m g cc5 (ks ++ List.replicate (3 * m - n) 0) w1.heap.size wc :=
        { below := HB01.out.trans (hb5.mono (by have := HB01.out.size; omega))
          box := (hb5.block _ (lt_of_blk HBX.out)).trans HBX.out
          right := HRM.out.below hb5 (by have := lt_of_blk HBX.out; omega)
          bl := hbl
          own := hown5
          base := lt_of_blk HBX.out
          levk := fun j hj => by rw [hlvl, if_pos hj]
          levb := fun j => by
            rw [hlvl]
            split
            · exact HRM.out.sizes _ (by assumption)
            · decide
          levz := fun j hj => by rw [hlvl, if_neg (by omega)]
          m1 := hm12.1
          m12 := hm12.2.1
          nm := hm12.2.2
          n1 := hn1
          n36 := h36 }
      unfold SentRest at hT
      exact tail7 W H b o n c xs ks m g cc5 (ks ++ List.replicate (3 * m - n) 0) w1.heap.size lost hl w wc hSent (hT b o ks m g cc5 _ _ wc hSent) _ _ _ _ _ _ _ _ _ _ _ _ _ _ _ _ _ _ _ _ _ _ _ _ _ _ _ _ _ _ _ _ _ _ _ _ _ _ _ _ _ _ _ _ _ _ _ _ _ _ _ _ _ _ _ _ _ _ _ _ _ _ _ _ _ _ _ _ _ _ _ _ _ _ _ _ _ _ _ _ _ _ _ _ _ _ _ _ _ _ _ _ _ _ _ _ _ _ _ _ _ _ _ _ _ _ _ _ _ _ _ _ _ _ _ _ _ _ _ _ _ _ _ _ _ _ _ _ _ _ _ _ _ _ _ _ _ _ _ _ _ _ _ _ _ _ _ _ _ _ _ _ _ _ _ _ _ _ _ _ _ _ _ _ _ _ _ _ _ _ _ _ _ _ _ _ _ _ _ _ _ _ _ _ _ _ _ _ _ _ _ _ _ _ _ _ _ _ _ _ _ _ _ _ _ _ _ _ _ _ _ _ _ _ _ _ _ _ _ _ _ _ _ _ _ _ _ _ _ _ _ _ _ _ _ _ _ _ _ _ _ _ _ _ _ _ _ _ _ _ _ _ _ _ _ _ _ _ _ _ _ _ _ _ _ _ _ _ _ _ _ _ _ _ _ _ _ _ _ _ _ _ _ _ _ _ _ _ _ _ _ _ _ _ _ _ _ _ _ _ _ _ _ _ _ _ _ _ _ _ _ _ _ _ _ _ _ _ _ _ _ _ _ _ _ _ _ _ _ _ _ _ _ _ _ _ _ _ _ _ _ _ _ _ _ _ _ _ _ _ _ _ _
end Go.Proofs.Ytnlbgikhkpalcaa
