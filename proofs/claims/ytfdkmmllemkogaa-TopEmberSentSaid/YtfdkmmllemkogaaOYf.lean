/-
  The walk of TopEmberSent: its first part, to the padded levels; what is behind it is a premise.
-/
import Derived.Test.YtfdkmmllemkogaaOYa
namespace Go.Proofs.Ytfdkmmllemkogaa
open Go.RowKit
set_option linter.unusedVariables false

/-- What the first part owes. -/
def SentRest (W H : Int) (n c : Nat) (xs : List Nat) (lost : Int) (w : World) : Prop :=
  ∀ (b o : Nat) (ks : List Int) (m g cc : Nat) (lev : List Int) (B : Nat) (wx : World), Sent w W H b o n c xs ks m g cc lev B wx → Tail21 W H b o n c m g cc lev lost w wx

theorem choose_list {P : Nat → Int → Prop} : ∀ n : Nat, (∀ j, j < n → ∃ k, P j k) → ∃ ks : List Int, ks.length = n ∧ ∀ j, j < n → P j (ks[j]?.getD 0)
  | 0, _ => ⟨[], rfl, fun j hj => by omega⟩
  | n + 1, h => by
    obtain ⟨ks, h1, h2⟩ := choose_list n (fun j hj => h j (by omega))
    obtain ⟨k, hk⟩ := h n (by omega)
    refine ⟨ks ++ [k], by simp [h1], fun j hj => ?_⟩
    by_cases e : j < n
    · rw [List.getElem?_append_left (by omega)]; exact h2 j e
    · obtain rfl : j = n := by omega
      rw [← h1]; simp; rw [h1]; exact hk

set_option maxRecDepth 1000000 in
set_option maxHeartbeats 6400000 in
theorem sent_try (W H : Int) (a : Option Addr) (n c : Nat) (xs : List Nat) (lost : Int) (hl : 0 ≤ lost ∧ lost ≤ 65535) (hm : n ≤ 4611686018427387904) (w : World) (hwf : ∀ j, j < n → xs[j]?.getD 0 < 2 ^ 32) (hxl : xs.length = n)
    (hs : ∀ j, j < n → ∃ b o, a = some ⟨b, o, none⟩ ∧ b < w.heap.size ∧ ∀ j, j < n → w.cell? ⟨b, o + j, none⟩ = some (.float .f32 (xs[j]?.getD 0)))
    (hT : SentRest W H n c xs lost w) :
    Calls Try.prog 3 #[.agg #[.int .i64 W, .int .i64 H, .slice a n c], .int .u16 lost] w (SentPost w) := by
  obtain ⟨W0, hW0⟩ : ∃ W0, w.alloc (.cells #[.int .i64 W, .int .i64 H, .slice a n c] 24) = W0 := ⟨_, rfl⟩
  have hB0 : Below w.heap.size w W0 := by rw [← hW0]; exact (Below.refl _ w).alloc (Nat.le_refl _) _
  have hS0 : w.heap.size + 1 ≤ W0.heap.size := by rw [← hW0]; simp
  have b0 : W0.heap[w.heap.size]? = some (.cells #[.int .i64 W, .int .i64 H, .slice a n c] 24 (0, 0)) := by rw [← hW0]; exact blk_alloc_new _ _
  have c0 : W0.cell? ⟨w.heap.size, 0, none⟩ = some (.int .i64 W) := by rw [cell_of_row W0 _ 0 _ _ (0, 0) b0]; rfl
  have c1 : W0.cell? ⟨w.heap.size, 1, none⟩ = some (.int .i64 H) := by rw [cell_of_row W0 _ 1 _ _ (0, 0) b0]; rfl
  have c2 : W0.cell? ⟨w.heap.size, 2, none⟩ = some (.slice a n c) := by rw [cell_of_row W0 _ 2 _ _ (0, 0) b0]; rfl
  have K1 := Lib.hid (emberSmall_any (w := W0) W H a n c xs (fun j hj => by
    obtain ⟨b, o, e1, e2, e3⟩ := hs j hj
    exact ⟨b, o, e1, by omega, fun j hj => (hB0.cell (p := ⟨b, o + j, none⟩) e2).trans (e3 j hj)⟩) hm)
  have HS := Lib.hid hs
  have HB0 := Lib.hid hB0
  have HB0' := Lib.hid b0
  clear hs hB0 b0
  go_enter Try.func3, Try.ntmps3
  go_wp2_with fail
  refine K1.out.mono ?_
  rintro e w1 ⟨r, rfl, hr, hb1⟩
  have hs1 := hb1.size
  cases r with
  | false =>
    clear hr c0 c1 c2
    go_wp2_with ((go_at_call 5; refine (emberRing_any _).mono ?_; rintro e w2 ⟨rfl, hb2⟩))
    go_ret
    exact ⟨rfl, (HB0.out.trans (hb1.mono (by omega))).trans (hb2.mono (by omega))⟩
  | true =>
    obtain ⟨⟨hW1, hW2, hH1, hH2, hA, hxs⟩, h36⟩ := hr rfl
    clear hr
    have hmul : 1 ≤ W * H := by have := Int.mul_le_mul hW1 hH1 (by omega) (by omega); omega
    have hn1 : 1 ≤ n := by omega
    obtain ⟨b, o, rfl, hbl, hcl⟩ := HS.out 0 (by omega)
    obtain ⟨ks, hkl, hks⟩ := choose_list n hxs
    have hB01 : Below w.heap.size w w1 := HB0.out.trans (hb1.mono (by omega))
    have hRM : RightMap w1 W H b o n xs ks := ⟨⟨hxl, hkl, by omega, fun j hj => (hB01.cell (p := ⟨b, o + j, none⟩) hbl).trans (hcl j hj), hwf, fun j hj => (hks j hj).1, fun j hj => (hks j hj).2⟩, ⟨hW1, hW2⟩, ⟨hH1, hH2⟩, hA⟩
    have hbx : w1.heap[w.heap.size]? = some (.cells #[.int .i64 W, .int .i64 H, .slice (some ⟨b, o, none⟩) n c] 24 (0, 0)) := (hb1.block _ (lt_of_blk HB0'.out)).trans HB0'.out
    have d0 : w1.cell? ⟨w.heap.size, 0, none⟩ = some (.int .i64 W) := by rw [cell_of_row w1 _ 0 _ _ (0, 0) hbx]; rfl
    have d1 : w1.cell? ⟨w.heap.size, 1, none⟩ = some (.int .i64 H) := by rw [cell_of_row w1 _ 1 _ _ (0, 0) hbx]; rfl
    have d2 : w1.cell? ⟨w.heap.size, 2, none⟩ = some (.slice (some ⟨b, o, none⟩) n c) := by rw [cell_of_row w1 _ 2 _ _ (0, 0) hbx]; rfl
    have K2 := Lib.hid (levels_any W H b o n c xs ks hRM.toWords hn1 (by omega))
    have HRM := Lib.hid hRM
    have HBX := Lib.hid hbx
    have HB01 := Lib.hid hB01
    clear hRM hbx hB01 hks hcl hxs c0 c1 c2 hb1
    obtain ⟨m, hm3⟩ : ∃ m : Nat, (n + 2) / 3 = m := ⟨_, rfl⟩
    have hmI : ((n : Int) + 2) / 3 = (m : Int) := by omega
    have hm12 : 1 ≤ m ∧ m ≤ 12 ∧ n ≤ 3 * m := by omega
    obtain ⟨i0, hi, hz0, hz1, hz2⟩ := info_parts Try.infoInt
    go_upto_block 0 with ((go_at_call 6; refine K2.out.mono ?_; rintro e w2 ⟨v, rfl, hown, hb2⟩; (obtain ⟨ao, cc, rfl⟩ := owns_slice hown)))
    rw [hmI]
    go_cut [5] (fun s5 wx => ∃ g cc, s5 = .slice (some ⟨g, 0, none⟩) (3 * m) cc ∧ wx.ownsRow w1.heap.size 3 1 (.slice (some ⟨g, 0, none⟩) (3 * m) cc) (3 * m) ((ks ++ List.replicate (3 * m - n) 0).map (Value.int .i64)) ∧ Below w1.heap.size w1 wx)
    case first =>
      have hnlen : (n : Int) ≤ 36 := by omega
      go_wp2_with fail
      go_loopw [5] (fun v wr => ∃ k : Nat, n + k ≤ 3 * m ∧ (∃ ao cc, v = .slice ao (n + k) cc) ∧ wr.ownsRow w1.heap.size 3 1 v (n + k) ((ks ++ List.replicate k 0).map (Value.int .i64)) ∧ Below w1.heap.size w1 wr)
        (fun v _ => 3 * m - (match v with | .slice _ l _ => l | _ => 0))
      case atStart => exact ⟨0, by omega, ⟨_, _, rfl⟩, by simpa using hown, hb2⟩
      case round =>
        obtain ⟨k, hk, ⟨ao, cc, rfl⟩, hown, hnx⟩ := hrel
        have hsz := hnx.size
        obtain ⟨l, hl⟩ : ∃ l, n + k = l := ⟨_, rfl⟩
        have hlI : l ≤ 3 * m := by omega
        have hl36 : (l : Int) ≤ 36 := by omega
        rw [hl] at hown ⊢
        have HL := Lib.hid hl
        clear hl hk
        by_cases hlt : l < 3 * m
        · have hltI : (l : Int) < 3 * (m : Int) := by omega
          go_wp2_with (at_builtin; refine wpList_append_own _ rfl (.tmp 56) (.tmp 57) 29 rfl w1.heap.size 3 i0 (.int .i64 0) 1 8 Try.underlying29 hi hz0 hz1 hz2 rfl (by decide) _ _ _ rfl (hown.alloc _) ⟨wr.heap.size, 0, none⟩ 1 1 [.int .i64 0] rfl rfl (cell_one_new _ _ _) (by intro u hu; simp at hu; subst hu; rfl) (by unfold maxLen; omega) (by omega) (by simp; omega) ?_; intro v' w3 hown3 hgrow3 _; (obtain ⟨ao3, cc3, rfl⟩ := owns_slice hown3))
          have hlt' := hown.lt
          go_roundw
          case rel =>
            refine ⟨k + 1, by have := HL.out; omega, ⟨ao3, cc3, by rw [show n + (k + 1) = l + 1 by have := HL.out; omega]⟩, ?_, (hnx.alloc hsz _).grown hgrow3 (by simp; omega) (fun j hj => (hlt' j hj).1)⟩
            rw [show n + (k + 1) = l + 1 by have := HL.out; omega, List.replicate_succ', ← List.append_assoc, List.map_append]
            exact hown3
          case measure => show 3 * m - (l + 1) < 3 * m - l; omega
        · have hge : l = 3 * m := by omega
          have hltI : ¬ ((l : Int) < 3 * (m : Int)) := by omega
          have HGE := Lib.hid hge
          clear hge
          go_wp2_with fail
          go_meet
          have hge := HGE.out
          have hkm : k = 3 * m - n := by have := HL.out; omega
          subst hge
          rw [hkm] at hown
          obtain ⟨g, cc', e1, _⟩ := owns_some hown (by omega)
          exact ⟨g, cc', e1, by rw [e1] at hown; exact hown, hnx⟩
    case rest =>
      rename_i hK
      obtain ⟨g, cc5, rfl, hown5, hb5⟩ := hcut
      refine hK _ _ ?_
      clear hK
      have hlvl : ∀ j : Nat, (ks ++ List.replicate (3 * m - n) 0)[j]?.getD 0 = if j < n then ks[j]?.getD 0 else 0 := fun j => by
        by_cases hj : j < n
        · rw [List.getElem?_append_left (by omega), if_pos hj]
        · rw [List.getElem?_append_right (by omega), if_neg hj, List.getElem?_replicate]
          split <;> rfl
      have hSent : Sent w W H b o n c xs ks m g cc5 (ks ++ List.replicate (3 * m - n) 0) w1.heap.size wc :=
        { below := HB01.out.trans (hb5.mono (by have := HB01.out.size; omega))
          box := (hb5.block _ (lt_of_blk HBX.out)).trans HBX.out
          right := HRM.out.below hb5 (by have := lt_of_blk HBX.out; omega)
          bl := hbl
          own := hown5
          base := lt_of_blk HBX.out
          levk := fun j hj => by rw [hlvl, if_pos hj]
          levb := fun j => by
            rw [hlvl]
            split
            · exact HRM.out.sizes _ (by assumption)
            · decide
          levz := fun j hj => by rw [hlvl, if_neg (by omega)]
          m1 := hm12.1
          m12 := hm12.2.1
          nm := hm12.2.2
          n1 := hn1
          n36 := h36 }
      unfold SentRest at hT
      exact tail7 W H b o n c xs ks m g cc5 (ks ++ List.replicate (3 * m - n) 0) w1.heap.size lost hl w wc hSent (hT b o ks m g cc5 _ _ wc hSent) _ _ _ _ _ _ _ _ _ _ _ _ _ _ _ _ _ _ _ _ _ _ _ _ _ _ _ _ _ _ _ _ _ _ _ _ _ _ _ _ _ _ _ _ _ _ _ _ _ _ _ _ _ _ _ _ _ _ _ _ _ _ _ _ _ _ _ _ _ _ _ _ _ _ _ _ _ _ _ _ _ _ _ _ _ _ _ _ _ _ _ _ _ _ _ _ _ _ _ _ _ _ _ _ _ _ _ _ _ _ _ _ _ _ _ _ _ _ _ _ _ _ _ _ _ _ _ _ _ _ _ _ _ _ _ _ _ _ _ _ _ _ _ _ _ _ _ _ _ _ _ _ _ _ _ _ _ _ _ _ _ _ _ _ _ _ _ _ _ _ _ _ _ _ _ _ _ _ _ _ _ _ _ _ _ _ _ _ _ _ _ _ _ _ _ _ _ _ _ _ _ _ _ _ _ _ _ _ _ _ _ _ _ _ _ _ _ _ _ _ _ _ _ _ _ _ _ _ _ _ _ _ _ _ _ _ _ _ _ _ _ _ _ _ _ _ _ _ _ _ _ _ _ _ _ _ _ _ _ _ _ _ _ _ _ _ _ _ _ _ _ _ _ _ _ _ _ _ _ _ _ _ _ _ _ _ _ _ _ _ _ _ _ _ _ _ _ _ _ _ _ _ _ _ _ _ _ _ _ _ _ _ _ _ _ _ _ _ _ _ _ _ _ _ _ _ _ _ _ _ _ _ _ _ _ _ _ _ _ _ _ _ _ _ _ _ _ _ _ _ _ _ _
end Go.Proofs.Ytfdkmmllemkogaa

/-
  What TopEmberSent's third loop keeps and writes: the telegrams that came, which came, and the two maps.
-/
namespace Go.Proofs.Ytfdkmmllemkogaa
open Go.RowKit
set_option linter.unusedVariables false

/-- Where the made things lie. -/
structure MadeAt where
  N : Nat
  gl : Option Addr
  cl : Nat
  gc : Nat
  B18 : Nat
  gA : Nat
  B19 : Nat
  gR : Nat
  cR : Nat
def MadeAt.Apart (p : MadeAt) : Prop :=
  p.N ≤ p.gc ∧ p.N ≤ p.B18 ∧ p.N ≤ p.gA ∧ p.N ≤ p.B19 ∧ p.N ≤ p.gR ∧ p.gc ≠ p.B18 ∧ p.gc ≠ p.gA ∧ p.gc ≠ p.B19 ∧ p.gc ≠ p.gR ∧ p.B18 ≠ p.gA ∧ p.B18 ≠ p.B19 ∧ p.B18 ≠ p.gR ∧ p.gA ≠ p.B19 ∧ p.gA ≠ p.gR ∧ p.B19 ≠ p.gR ∧
    (∀ k, (Value.slice p.gl 0 p.cl).ownBlock = some k → p.N ≤ k ∧ k ≠ p.gc ∧ k ≠ p.B18 ∧ k ≠ p.gA ∧ k ≠ p.B19 ∧ k ≠ p.gR)
structure Made (p : MadeAt) (W H : Int) (n m : Nat) (L : List Tel) (cs : List Bool) (av rs : List Nat) (wz : World) : Prop where
  tels : wz.ownsRow p.N 35 6 (.slice p.gl L.length p.cl) L.length (L.flatMap Tel.val)
  came : wz.ownsRow p.N 4 1 (.slice (some ⟨p.gc, 0, none⟩) m m) m (cs.map Value.bool)
  b18 : wz.heap[p.B18]? = some (.cells #[.int .i64 W, .int .i64 H, .slice (some ⟨p.gA, 0, none⟩) n n] 24 (0, 0))
  b19 : wz.heap[p.B19]? = some (.cells #[.int .i64 W, .int .i64 H, .slice (some ⟨p.gR, 0, none⟩) n p.cR] 24 (0, 0))
  again : wz.ownsRow p.N 27 1 (.slice (some ⟨p.gA, 0, none⟩) n n) n (av.map (Value.float .f32))
  rest : wz.ownsRow p.N 27 1 (.slice (some ⟨p.gR, 0, none⟩) n p.cR) n (rs.map (Value.float .f32))

section
variable {p : MadeAt} {W H : Int} {n m : Nat} {L : List Tel} {cs : List Bool} {av rs : List Nat} {wz wy : World}
theorem Made.below (h : Made p W H n m L cs av rs wz) (hb : Below wz.heap.size wz wy) : Made p W H n m L cs av rs wy :=
  ⟨owns_kept h.tels hb (Nat.le_refl _), owns_kept h.came hb (Nat.le_refl _), (hb.block _ (lt_of_blk h.b18)).trans h.b18, (hb.block _ (lt_of_blk h.b19)).trans h.b19, owns_kept h.again hb (Nat.le_refl _), owns_kept h.rest hb (Nat.le_refl _)⟩
theorem ownBlock_len {ao : Option Addr} {n c k : Nat} : (Value.slice ao n c).ownBlock = (Value.slice ao k c).ownBlock := by
  cases ao <;> rfl
theorem Made.setCame (h : Made p W H n m L cs av rs wz) (ha : p.Apart) (i : Nat) (v : Bool) : Made p W H n m L (cs.set i v) av rs (wz.setCell ⟨p.gc, i, none⟩ (.bool v)) := by
  obtain ⟨a1, a2, a3, a4, a5, a6, a7, a8, a9, a10, a11, a12, a13, a14, a15, a16⟩ := ha
  have hg := (OnlyBlk.set wz p.gc i (.bool v)).1
  refine ⟨h.tels.kept hg ?_, ?_, blk_set_other h.b18 a6 _, blk_set_other h.b19 a8 _, h.again.kept hg (.inr fun e => a7 (Option.some.inj e).symm), h.rest.kept hg (.inr fun e => a9 (Option.some.inj e).symm)⟩
  · cases e : (Value.slice p.gl L.length p.cl).ownBlock with
    | none => exact .inl rfl
    | some k => exact .inr fun e' => (a16 k (by rw [← e]; exact ownBlock_len)).2.1 (Option.some.inj e')
  · rw [List.map_set]; exact (h.came.stored i (.bool v)).1
theorem Made.setAgain (h : Made p W H n m L cs av rs wz) (ha : p.Apart) (i : Nat) (x : Nat) : Made p W H n m L cs (av.set i x) rs (wz.setCell ⟨p.gA, i, none⟩ (.float .f32 x)) := by
  obtain ⟨a1, a2, a3, a4, a5, a6, a7, a8, a9, a10, a11, a12, a13, a14, a15, a16⟩ := ha
  have hg := (OnlyBlk.set wz p.gA i (.float .f32 x)).1
  refine ⟨h.tels.kept hg ?_, h.came.kept hg (.inr fun e => a7 (Option.some.inj e)), blk_set_other h.b18 (fun e => a10 e.symm) _, blk_set_other h.b19 a13 _, ?_, h.rest.kept hg (.inr fun e => a14 (Option.some.inj e).symm)⟩
  · cases e : (Value.slice p.gl L.length p.cl).ownBlock with
    | none => exact .inl rfl
    | some k => exact .inr fun e' => (a16 k (by rw [← e]; exact ownBlock_len)).2.2.2.1 (Option.some.inj e')
  · rw [List.map_set]; exact (h.again.stored i (.float .f32 x)).1
theorem Made.setRest (h : Made p W H n m L cs av rs wz) (ha : p.Apart) (i : Nat) (x : Nat) : Made p W H n m L cs av (rs.set i x) (wz.setCell ⟨p.gR, i, none⟩ (.float .f32 x)) := by
  obtain ⟨a1, a2, a3, a4, a5, a6, a7, a8, a9, a10, a11, a12, a13, a14, a15, a16⟩ := ha
  have hg := (OnlyBlk.set wz p.gR i (.float .f32 x)).1
  refine ⟨h.tels.kept hg ?_, h.came.kept hg (.inr fun e => a9 (Option.some.inj e)), blk_set_other h.b18 (fun e => a12 e.symm) _, blk_set_other h.b19 (fun e => a15 e.symm) _, h.again.kept hg (.inr fun e => a14 (Option.some.inj e)), ?_⟩
  · cases e : (Value.slice p.gl L.length p.cl).ownBlock with
    | none => exact .inl rfl
    | some k => exact .inr fun e' => (a16 k (by rw [← e]; exact ownBlock_len)).2.2.2.2.2 (Option.some.inj e')
  · rw [List.map_set]; exact (h.rest.stored i (.float .f32 x)).1
theorem Made.cameAt (h : Made p W H n m L cs av rs wz) {i : Nat} (hi : i < cs.length) : wz.cell? ⟨p.gc, i, none⟩ = some (.bool (cs[i]?.getD false)) ∧ wz.frozen? ⟨p.gc, i, none⟩ = false :=
  ⟨owns_cell h.came (by rw [List.getElem?_map, List.getElem?_eq_getElem hi]; rfl), h.came.frozenAt i⟩
theorem Made.againAt (h : Made p W H n m L cs av rs wz) {i : Nat} (hi : i < av.length) : wz.cell? ⟨p.gA, i, none⟩ = some (.float .f32 (av[i]?.getD 0)) ∧ wz.frozen? ⟨p.gA, i, none⟩ = false :=
  ⟨owns_cell h.again (by rw [List.getElem?_map, List.getElem?_eq_getElem hi]; rfl), h.again.frozenAt i⟩
theorem Made.restAt (h : Made p W H n m L cs av rs wz) {i : Nat} (hi : i < rs.length) : wz.cell? ⟨p.gR, i, none⟩ = some (.float .f32 (rs[i]?.getD 0)) ∧ wz.frozen? ⟨p.gR, i, none⟩ = false :=
  ⟨owns_cell h.rest (by rw [List.getElem?_map, List.getElem?_eq_getElem hi]; rfl), h.rest.frozenAt i⟩
theorem Made.lens (h : Made p W H n m L cs av rs wz) : cs.length = m ∧ av.length = n ∧ rs.length = n :=
  ⟨by have := h.came.1; simpa using this, by have := h.again.1; simpa using this, by have := h.rest.1; simpa using this⟩
end
end Go.Proofs.Ytfdkmmllemkogaa
