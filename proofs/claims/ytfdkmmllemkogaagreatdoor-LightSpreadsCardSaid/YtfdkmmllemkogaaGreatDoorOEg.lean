/-
  Contract of the reference's Spread of a right map: the integers that are spread, or an error.
-/
import Derived.Test.YtfdkmmllemkogaaGreatDoorOEda
import Derived.Test.YtfdkmmllemkogaaGreatDoorOXi
import Derived.Test.YtfdkmmllemkogaaGreatDoorOBe
import Derived.Test.YtfdkmmllemkogaaGreatDoorOWf
namespace Go.Proofs.YtfdkmmllemkogaaGreatDoor
open Go.RowKit
set_option linter.unusedVariables false
set_option linter.unusedSimpArgs false

/-! ### The order of the neighbours does not matter -/

def dirsR : List (Int × Int) := [(1, 0), (0, 1), (-1, 0), (0, -1)]
def nbrsR (W H : Nat) (x y : Int) (k : Nat) : List (Int × Int) := ((dirsR.take k).map (fun d => (x + d.1, y + d.2))).filter (insideB W H)
theorem nbrsR_succ (W H : Nat) (x y : Int) (k : Nat) (hk : k < 4) : nbrsR W H x y (k + 1) = if insideB W H (x + (dirsR[k]?.getD (0, 0)).1, y + (dirsR[k]?.getD (0, 0)).2) = true then nbrsR W H x y k ++ [(x + (dirsR[k]?.getD (0, 0)).1, y + (dirsR[k]?.getD (0, 0)).2)] else nbrsR W H x y k := by
  have hl : k < dirsR.length := hk
  rw [nbrsR, List.take_succ_eq_append_getElem hl, List.getElem?_eq_getElem hl]
  simp only [nbrsR, List.map_append, List.filter_append, List.map_cons, List.map_nil, List.filter_cons, List.filter_nil, Option.getD_some]
  split <;> simp
theorem nbrsR_len (W H : Nat) (x y : Int) (k : Nat) : (nbrsR W H x y k).length ≤ 4 := by
  refine Nat.le_trans (List.length_filter_le _ _) ?_
  simp [dirsR]; omega
theorem addAt_get (cs : List Int) (j : Nat) (d : Int) (i : Nat) : (addAt cs j d)[i]?.getD 0 = cs[i]?.getD 0 + (if j = i ∧ i < cs.length then d else 0) := by
  unfold addAt
  rw [List.getElem?_set]
  by_cases h : j = i
  · subst h
    by_cases h2 : j < cs.length
    · simp [h2]
    · simp [h2]
  · simp [h]
theorem addAt_len (cs : List Int) (j : Nat) (d : Int) : (addAt cs j d).length = cs.length := by simp [addAt]
theorem ext_getD {l l' : List Int} (hl : l.length = l'.length) (h : ∀ i : Nat, l[i]?.getD 0 = l'[i]?.getD 0) : l = l' := by
  apply List.ext_getElem hl
  intro i h1 h2
  have := h i
  rw [List.getElem?_eq_getElem h1, List.getElem?_eq_getElem h2] at this
  exact this
theorem addAt_comm (cs : List Int) (j i : Nat) (d e : Int) : addAt (addAt cs j d) i e = addAt (addAt cs i e) j d := by
  apply ext_getD
  · simp [addAt_len]
  · intro m
    simp only [addAt_get, addAt_len]
    omega
theorem give1_comm (W j : Nat) (gift : Int) (cs : List Int) (q q' : Int × Int) : give1 W j gift (give1 W j gift cs q) q' = give1 W j gift (give1 W j gift cs q') q := by
  unfold give1
  apply ext_getD
  · simp [addAt_len]
  · intro m
    simp only [addAt_get, addAt_len]
    omega
theorem dirs_perm : dirsR.Perm dirsL := by
  unfold dirsR dirsL
  decide
theorem nbrs_perm (W H : Nat) (x y : Int) : (nbrsR W H x y 4).Perm (nbrsTo W H x y 4) :=
  (dirs_perm.map _).filter _
theorem give_perm (W j : Nat) (gift : Int) {l l' : List (Int × Int)} (h : l.Perm l') (cs : List Int) : giveTo W j gift l cs = giveTo W j gift l' cs :=
  h.foldl_eq' (fun x _ y _ z => give1_comm W j gift z x y) cs
def round1R (W H : Nat) (share : Int) (ks : List Int) (cs : List Int) (p : Nat × Nat) : List Int :=
  giveTo W (p.2 * W + p.1) (ks[p.2 * W + p.1]?.getD 0 * share / 16) (nbrsR W H p.1 p.2 4) cs
theorem round1_same (W H : Nat) (share : Int) (ks cs : List Int) (p : Nat × Nat) : round1R W H share ks cs p = round1 W H share ks cs p :=
  give_perm _ _ _ (nbrs_perm W H _ _) _
theorem give_snoc (W j : Nat) (gift : Int) (qs : List (Int × Int)) (q : Int × Int) (cs : List Int) : giveTo W j gift (qs ++ [q]) cs = give1 W j gift (giveTo W j gift qs cs) q := by
  simp [giveTo]
theorem addAt_map (cs : List Int) (j : Nat) (d v : Int) (hv : cs[j]?.getD 0 = v) : (cs.map (Value.int .i64)).set j (.int .i64 (v + d)) = (addAt cs j d).map (Value.int .i64) := by
  unfold addAt
  rw [List.map_set, hv]

theorem ks_atR {ks : List Int} {n : Nat} (hl : ks.length = n) (hs : ∀ j, j < n → (ks[j]?.getD 0).natAbs ≤ 16384) (i : Nat) : (ks[i]?.getD 0 : Int).natAbs ≤ 16384 := by
  by_cases hh : i < n
  · exact hs _ hh
  · rw [List.getElem?_eq_none (by omega)]; decide

set_option maxHeartbeats 1600000 in
theorem power_ref (k : Nat) (hk : k < 4) (w : World) :
    Calls Tryz.prog 155 #[.int .i64 k] w fun e w' => e = .returned (.agg #[.int .i64 (dirsR[k]?.getD (0, 0)).1, .int .i64 (dirsR[k]?.getD (0, 0)).2]) ∧ Below w.heap.size w w' := by
  rcases (show k = 0 ∨ k = 1 ∨ k = 2 ∨ k = 3 by omega) with rfl | rfl | rfl | rfl
  all_goals
    go_enter Tryz.func155, Tryz.ntmps155
    go_wp2
    refine bodyPost_ret (v := _) (by simp [results, Tryz.results155, go_sem, dirsR]) rfl ⟨rfl, ?_⟩
    exact (Below.refl _ w).alloc (Nat.le_refl _) _

/-- The spread integers, place by place, in the reference's order. -/
def roundsR (W H : Nat) (share : Int) (ks : List Int) (m : Nat) : List Int := roundsTo W H share ks (placesTo W m)
theorem roundsR_succ (W H x y : Nat) (share : Int) (ks : List Int) (hx : x < W) : round1R W H share ks (roundsR W H share ks (y * W + x)) (x, y) = roundsR W H share ks (y * W + x + 1) := by
  rw [round1_same]
  unfold roundsR
  rw [placesTo_succ W y x hx, roundsTo_snoc]
theorem inside_iff (W H : Nat) (q : Int × Int) : insideB W H q = true ↔ 0 ≤ q.1 ∧ q.1 < W ∧ 0 ≤ q.2 ∧ q.2 < H := by simp [insideB]
theorem dirs_bd (d : Nat) : -1 ≤ (dirsR[d]?.getD (0, 0)).1 ∧ (dirsR[d]?.getD (0, 0)).1 ≤ 1 ∧ -1 ≤ (dirsR[d]?.getD (0, 0)).2 ∧ (dirsR[d]?.getD (0, 0)).2 ≤ 1 := by
  rcases (show d = 0 ∨ d = 1 ∨ d = 2 ∨ d = 3 ∨ 4 ≤ d by omega) with rfl | rfl | rfl | rfl | h
  · decide
  · decide
  · decide
  · decide
  · rw [List.getElem?_eq_none (by simpa [dirsR] using h)]; decide
theorem prefix_len (W H : Nat) (x y : Int) (k : Nat) : (nbrsR W H x y k).length ≤ 4 := nbrsR_len W H x y k

set_option maxRecDepth 100000 in
set_option maxHeartbeats 12800000 in
theorem refSpread_ok (W H : Nat) (share : Int) (h0 : 0 ≤ share) (h1 : share ≤ 4) (b o c n : Nat) (xs : List Nat) (ks : List Int) (w : World) (hA : RightMap w W H b o n xs ks) (hb : b < w.heap.size) :
    Calls Tryz.prog 66 #[.agg #[.int .i64 W, .int .i64 H, .slice (some ⟨b, o, none⟩) n c], .int .i64 share] w fun e w' =>
      ∃ X Y a2 n2 c2, e = .returned (.tuple #[.agg #[.int .i64 X, .int .i64 Y, .slice a2 n2 c2], .int .i64 (largeErr n (roundsR W H share ks (H * W)))]) ∧ ResV w' (largeErr n (roundsR W H share ks (H * W))) W H (roundsR W H share ks (H * W)) X Y a2 n2 c2 ∧ Below w.heap.size w w' := by
  have hW : 1 ≤ W ∧ W ≤ 64 := by have := hA.wid; omega
  have hH : 1 ≤ H ∧ H ≤ 64 := by have := hA.hei; omega
  have hN : W * H = n := by have := hA.area; exact_mod_cast this
  have hn1 : 1 ≤ n := by rw [← hN]; exact Nat.mul_pos (by omega) (by omega)
  have hsm : n ≤ 4096 := hA.small
  have hlenk : ks.length = n := hA.lenk
  have hwi : Within ks 16384 := fun j => ks_atR hA.lenk hA.sizes j
  obtain ⟨W0, hW0⟩ : ∃ W0, (w.alloc (.cells #[.int .i64 W, .int .i64 H, .slice (some ⟨b, o, none⟩) n c] 48)).alloc (.cells #[.int .i64 0, .int .i64 0, .slice none 0 0] 48) = W0 := ⟨_, rfl⟩
  have hB0 : Below w.heap.size w W0 := by rw [← hW0]; exact ((Below.refl _ w).alloc (Nat.le_refl _) _).alloc (by simp) _
  have hS0 : W0.heap.size = w.heap.size + 2 := by rw [← hW0]; simp
  have a0 : W0.cell? ⟨w.heap.size, 0, none⟩ = some (.int .i64 W) := by rw [← hW0]; simp [go_sem]
  have a1 : W0.cell? ⟨w.heap.size, 1, none⟩ = some (.int .i64 H) := by rw [← hW0]; simp [go_sem]
  have a2 : W0.cell? ⟨w.heap.size, 2, none⟩ = some (.slice (some ⟨b, o, none⟩) n c) := by rw [← hW0]; simp [go_sem]
  have bz0 : W0.heap[w.heap.size + 1]? = some (.cells #[.int .i64 0, .int .i64 0, .slice none 0 0] 48 (0, 0)) := by rw [← hW0]; exact blk_alloc_new1 _ _ _
  have KA : Hid (Calls Tryz.prog 143 #[.agg #[.int .i64 W, .int .i64 H, .slice (some ⟨b, o, none⟩) n c]] W0 fun e w' =>
      ∃ v, e = .returned v ∧ w'.ownsRow W0.heap.size 3 1 v n (ks.map (Value.int .i64)) ∧ Below W0.heap.size W0 w') := Lib.hid
    (levels_any W H b o n c xs ks (hA.below hB0 hb).toWords hn1 (by omega))
  have KL : Hid (∀ (wr : World) (x y : Nat), Below (w.heap.size + 2) W0 wr → x < W → y < H → Calls Tryz.prog 46 #[.agg #[.int .i64 W, .int .i64 H, .slice (some ⟨b, o, none⟩) n c], .int .i64 x, .int .i64 y] wr fun e w' => e = .returned (.int .i64 (ks[y * W + x]?.getD 0)) ∧ Below wr.heap.size wr w') :=
    Lib.hid fun wr x y h hx hy => by
      have h2 := hB0.trans (h.mono (by omega))
      have hz := h2.size
      exact refLevel_any W H b o n c xs ks wr (hA.below h2 hb) (by omega) x y hx hy
  have HB0 := Lib.hid hB0
  have HS0 := Lib.hid hS0
  have HZB := Lib.hid bz0
  have HN := Lib.hid hN
  have HWI := Lib.hid hwi
  have HLK := Lib.hid hlenk
  clear hA hB0 bz0 hN hwi hlenk
  go_enter Tryz.func66, Tryz.ntmps66
  go_upto_region 1 with fail
  try rw [hW0]
  clear hW0
  go_upto_region 2 with (go_at_call 143; refine KA.out.mono ?_; rintro e w1 ⟨vA, rfl, hoA, hb0⟩)
  obtain ⟨ga, ca, rfl, hga1, hga2⟩ := owns_someB hoA hn1
  have hbw : Below (w.heap.size + 2) W0 w1 := hb0.mono (by omega)
  replace hoA := owns_base hoA (show w.heap.size + 2 ≤ W0.heap.size by omega)
  have HOA := Lib.hid hoA
  have HBW := Lib.hid hbw
  clear hoA hbw hb0 hga1 hga2
  go_wp2_with fail
  go_loopw [7] (fun i wr => ∃ y : Nat, y ≤ H ∧ i = .int .i64 y ∧ wr.ownsRow (w.heap.size + 2) 3 1 (.slice (some ⟨ga, 0, none⟩) n ca) n ((roundsR W H share ks (y * W)).map (Value.int .i64)) ∧ Below (w.heap.size + 2) W0 wr)
    (fun i _ => H - (intOf i).toNat)
  case atStart => exact ⟨0, Nat.zero_le _, rfl, by rw [Nat.zero_mul]; exact HOA.out, HBW.out⟩
  case round =>
    obtain ⟨y, hy, rfl, hown, hnx⟩ := hrel
    have a0' := (hnx.cell (p := ⟨w.heap.size, 0, none⟩) (by show w.heap.size < _; omega)).trans a0
    have a1' := (hnx.cell (p := ⟨w.heap.size, 1, none⟩) (by show w.heap.size < _; omega)).trans a1
    by_cases hlt : y < H
    · have HO := Lib.hid hown
      have HNX := Lib.hid hnx
      have hd : decide ((y : Int) < (H : Int)) = true := decide_eq_true (by omega)
      have hd2 : decide (y < H) = true := decide_eq_true (by omega)
      clear hown hnx
      go_wp2_with fail
      try simp only [hd]
      try simp only [hd2]
      clear hd hd2
      go_loopw [8] (fun i wq => ∃ x : Nat, x ≤ W ∧ i = .int .i64 x ∧ wq.ownsRow (w.heap.size + 2) 3 1 (.slice (some ⟨ga, 0, none⟩) n ca) n ((roundsR W H share ks (y * W + x)).map (Value.int .i64)) ∧ Below (w.heap.size + 2) W0 wq)
        (fun i _ => W - (intOf i).toNat)
      case atStart => exact ⟨0, Nat.zero_le _, rfl, HO.out, HNX.out⟩
      case round =>
        obtain ⟨x, hx, rfl, hown, hnx⟩ := hrel
        have c0' := (hnx.cell (p := ⟨w.heap.size, 0, none⟩) (by show w.heap.size < _; omega)).trans a0
        have c1' := (hnx.cell (p := ⟨w.heap.size, 1, none⟩) (by show w.heap.size < _; omega)).trans a1
        have c2' := (hnx.cell (p := ⟨w.heap.size, 2, none⟩) (by show w.heap.size < _; omega)).trans a2
        clear a0' a1'
        by_cases hlx : x < W
        · have KLL := Lib.hid (KL.out wr x y hnx hlx hlt)
          have hj : y * W + x < n := idx_lt (p := (x, y)) hlx hlt HN.out
          obtain ⟨hg1, hg2, hg3⟩ := gift_bd (HWI.out (y * W + x)) h0 h1
          have i1 : IntKind.i64.wrap (ks[y * W + x]?.getD 0 * share) = ks[y * W + x]?.getD 0 * share := IntWalk.i64_in _ ⟨by omega, by omega⟩
          have KF := Lib.hid (floor_any (ks[y * W + x]?.getD 0 * share) 16 (by omega) (by omega) (by omega) (by omega))
          have hsz : w.heap.size + 2 ≤ wr.heap.size := by have := hnx.size; have := HS0.out; omega
          have HO := Lib.hid hown
          have HNX := Lib.hid hnx
          have HG1 := Lib.hid hg1
          have hd : decide ((x : Int) < (W : Int)) = true := decide_eq_true (by omega)
          have hd2 : decide (x < W) = true := decide_eq_true (by omega)
          have HD := Lib.hid hd
          have HD2 := Lib.hid hd2
          clear hown hnx hg1 hg2 hg3 hd hd2
          go_upto_region 9 with (first
            | (go_at_call 46; refine KLL.out.mono ?_; rintro e w2 ⟨rfl, hb2⟩)
            | (go_at_call 154; refine (KF.out _).mono ?_; rintro e w9 ⟨rfl, rfl⟩))
          have hnx2 := HNX.out.trans (hb2.mono hsz)
          have hown2 := owns_kept HO.out hb2 (Nat.le_refl _)
          have HO2 := Lib.hid hown2
          have HN2 := Lib.hid hnx2
          clear hown2 hnx2 hb2 c0' c1' c2'
          obtain ⟨G, hG⟩ : ∃ G, ks[y * W + x]?.getD 0 * share / 16 = G := ⟨_, rfl⟩
          have HG := Lib.hid hG
          have HR := Lib.hid (roundsR_succ W H x y share ks hlx)
          have HBD : Hid (∀ d, Within (giveTo W (y * W + x) G (nbrsR W H x y d) (roundsR W H share ks (y * W + x))) 2000000000) := Lib.hid fun d => by
            have h2 := roundsTo_bd (W := W) (H := H) HWI.out h0 h1 (placesTo W (y * W + x))
            have hGb : G.natAbs ≤ 4097 := by rw [← hG]; exact HG1.out
            have h3 := Within.give (W := W) (j := y * W + x) hGb (nbrsR W H x y d) h2
            refine h3.mono ?_
            have l1 : (placesTo W (y * W + x)).length ≤ 4096 := by rw [placesTo_len]; omega
            have l2 := nbrsR_len W H x y d
            have l3 := Nat.mul_le_mul_left 32776 l1
            have l4 := Nat.mul_le_mul_left (2 * 4097) l2
            omega
          have HLN : Hid (∀ d, (giveTo W (y * W + x) G (nbrsR W H x y d) (roundsR W H share ks (y * W + x))).length = n) := Lib.hid fun d => by
            rw [give_len]; unfold roundsR; rw [roundsTo_len]; exact HLK.out
          rw [hG]
          generalize ks[y * W + x]?.getD 0 = V0
          go_wp2_with fail
          go_loopw [10] (fun i wq => ∃ d : Nat, d ≤ 4 ∧ i = .int .i64 d ∧ wq.ownsRow (w.heap.size + 2) 3 1 (.slice (some ⟨ga, 0, none⟩) n ca) n ((giveTo W (y * W + x) G (nbrsR W H x y d) (roundsR W H share ks (y * W + x))).map (Value.int .i64)) ∧ Below (w.heap.size + 2) W0 wq)
            (fun i _ => 4 - (intOf i).toNat)
          case atStart => exact ⟨0, Nat.zero_le _, rfl, HO2.out, HN2.out⟩
          case round =>
            obtain ⟨d, hd, rfl, hown, hnx⟩ := hrel
            by_cases hlt4 : d < 4
            · have hd4 : ((d : Int) < 4) := by omega
              have hsz4 : w.heap.size + 2 ≤ wr.heap.size := by have := hnx.size; have := HS0.out; omega
              obtain ⟨b1, b2, b3, b4⟩ := dirs_bd d
              have KP := Lib.hid (power_ref d hlt4 wr)
              have HSU := Lib.hid (nbrsR_succ W H x y d hlt4)
              obtain ⟨dx, hdx⟩ : ∃ dx, (dirsR[d]?.getD (0, 0)).1 = dx := ⟨_, rfl⟩
              obtain ⟨dy, hdy⟩ : ∃ dy, (dirsR[d]?.getD (0, 0)).2 = dy := ⟨_, rfl⟩
              rw [hdx, hdy] at KP HSU
              rw [hdx] at b1 b2
              rw [hdy] at b3 b4
              clear hdx hdy
              have HOW := Lib.hid hown
              have HNW := Lib.hid hnx
              clear hown hnx
              go_upto_region 13 with (go_at_call 155; refine KP.out.mono ?_; rintro e w3 ⟨rfl, hb3⟩)
              obtain ⟨w4, hw4⟩ : ∃ w4, w3.alloc (.cells #[.int .i64 dx, .int .i64 dy] 159) = w4 := ⟨_, rfl⟩
              have hb4 : Below wr.heap.size wr w4 := by rw [← hw4]; exact hb3.alloc hb3.size _
              have s0 : w4.cell? ⟨w3.heap.size, 0, none⟩ = some (.int .i64 dx) := by rw [← hw4]; simp [go_sem]
              have s1 : w4.cell? ⟨w3.heap.size, 1, none⟩ = some (.int .i64 dy) := by rw [← hw4]; simp [go_sem]
              have hnx := HNW.out.trans (hb4.mono hsz4)
              have hown := owns_kept HOW.out hb4 (Nat.le_refl _)
              rw [hw4]
              clear hw4 hb3 hb4
              have c0 := (hnx.cell (p := ⟨w.heap.size, 0, none⟩) (by show w.heap.size < _; omega)).trans a0
              have c1 := (hnx.cell (p := ⟨w.heap.size, 1, none⟩) (by show w.heap.size < _; omega)).trans a1
              have HOW := Lib.hid hown
              have HNW := Lib.hid hnx
              clear hown hnx
              go_region
              all_goals
                obtain ⟨w5, hw5⟩ : ∃ w5, w4.drew = w5 := ⟨_, rfl⟩
                have c0 : w5.cell? ⟨w.heap.size, 0, none⟩ = some (.int .i64 W) := by rw [← hw5]; exact c0
                have c1 : w5.cell? ⟨w.heap.size, 1, none⟩ = some (.int .i64 H) := by rw [← hw5]; exact c1
                have hown : w5.ownsRow (w.heap.size + 2) 3 1 (.slice (some ⟨ga, 0, none⟩) n ca) n ((giveTo W (y * W + x) G (nbrsR W H x y d) (roundsR W H share ks (y * W + x))).map (Value.int .i64)) := by rw [← hw5]; exact HOW.out
                have hnx : Below (w.heap.size + 2) W0 w5 := by rw [← hw5]; exact HNW.out.drew
                try rw [hw5]
                clear hw5 s0 s1
                by_cases hin : insideB W H ((x : Int) + dx, (y : Int) + dy) = true
                · obtain ⟨q1, q2, q3, q4⟩ := (inside_iff W H _).1 hin
                  dsimp only at q1 q2 q3 q4
                  have hsu := HSU.out
                  rw [if_pos hin] at hsu
                  have HSU2 := Lib.hid hsu
                  obtain ⟨X2, hX2⟩ := Int.eq_ofNat_of_zero_le q1
                  obtain ⟨Y2, hY2⟩ := Int.eq_ofNat_of_zero_le q3
                  rw [hX2] at q2 HSU2
                  rw [hY2] at q4 HSU2
                  rw [hX2, hY2]
                  have u1 : X2 < W := by omega
                  have u2 : Y2 < H := by omega
                  have hN2 : Y2 * W + X2 < n := idx_lt (p := (X2, Y2)) u1 u2 HN.out
                  have hix : idx W ((X2 : Int), (Y2 : Int)) = Y2 * W + X2 := by
                    unfold idx
                    have e : (Y2 : Int) * (W : Int) = ((Y2 * W : Nat) : Int) := by push_cast; rfl
                    dsimp only
                    rw [e]; omega
                  have HIX := Lib.hid hix
                  have m1 : y * W ≤ 64 * 64 := Nat.mul_le_mul (by omega) (by omega)
                  have m2 : Y2 * W ≤ 64 * 64 := Nat.mul_le_mul (by omega) (by omega)
                  have p1 : (y : Int) * (W : Int) = ((y * W : Nat) : Int) := by push_cast; rfl
                  have p2 : (Y2 : Int) * (W : Int) = ((Y2 * W : Nat) : Int) := by push_cast; rfl
                  have w1 : IntKind.i64.wrap ((y * W : Nat) : Int) = ((y * W : Nat) : Int) := IntWalk.i64_in _ ⟨by omega, by omega⟩
                  have w2' : IntKind.i64.wrap ((Y2 * W : Nat) : Int) = ((Y2 * W : Nat) : Int) := IntWalk.i64_in _ ⟨by omega, by omega⟩
                  obtain ⟨L, hL⟩ : ∃ L, giveTo W (y * W + x) G (nbrsR W H x y d) (roundsR W H share ks (y * W + x)) = L := ⟨_, rfl⟩
                  have hLl : L.length = n := by rw [← hL]; exact HLN.out d
                  have hLb : Within L 2000000000 := by rw [← hL]; exact HBD.out d
                  have hGb : G.natAbs ≤ 4097 := by rw [← hG]; exact HG1.out
                  rw [hL] at hown
                  have HLL := Lib.hid hL
                  have e1 := hLb (y * W + x)
                  have x1 : w5.cell? ⟨ga, y * W + x, none⟩ = some (.int .i64 (L[y * W + x]?.getD 0)) := owns_cell hown (by rw [List.getElem?_map, List.getElem?_eq_getElem (by omega)]; rfl)
                  have f1 := owns_free hown (y * W + x)
                  have hgb := owns_room' hown
                  have hset := owns_set hown hj (.int .i64 (L[y * W + x]?.getD 0 + -G))
                  rw [addAt_map L (y * W + x) (-G) _ rfl] at hset
                  obtain ⟨M, hM⟩ : ∃ M, addAt L (y * W + x) (-G) = M := ⟨_, rfl⟩
                  rw [hM] at hset
                  have hMl : M.length = n := by rw [← hM, addAt_len]; exact hLl
                  have hMb : Within M (2000000000 + 4097) := by rw [← hM]; exact hLb.add _ _ (by omega)
                  have e2 := hMb (Y2 * W + X2)
                  have HMM := Lib.hid hM
                  have hcm := owns_cell hset (j := Y2 * W + X2) (v := .int .i64 (M[Y2 * W + X2]?.getD 0)) (by rw [List.getElem?_map, List.getElem?_eq_getElem (by omega)]; rfl)
                  have fcm := owns_free hset (Y2 * W + X2)
                  have hset2 := owns_set hset hN2 (.int .i64 (M[Y2 * W + X2]?.getD 0 + G))
                  rw [addAt_map M (Y2 * W + X2) G _ rfl] at hset2
                  have hb5 := (hnx.setCell (p := ⟨ga, y * W + x, none⟩) hgb.1 (.int .i64 (L[y * W + x]?.getD 0 + -G))).setCell (p := ⟨ga, Y2 * W + X2, none⟩) hgb.1 (.int .i64 (M[Y2 * W + X2]?.getD 0 + G))
                  have HS2 := Lib.hid hset2
                  have HB5 := Lib.hid hb5
                  have c0s := (World.cell?_setCell_other w5 ⟨ga, y * W + x, none⟩ ⟨w.heap.size, 0, none⟩ (.int .i64 (L[y * W + x]?.getD 0 + -G)) (by intro h; injection h with h; omega)).trans c0
                  clear hset hset2 hb5 hown hnx hM hL HOW HNW hG
                  have hfin : giveTo W (y * W + x) G (nbrsR W H x y (d + 1)) (roundsR W H share ks (y * W + x)) = addAt M (Y2 * W + X2) G := by
                    rw [HSU2.out, give_snoc, HLL.out]
                    unfold give1
                    rw [HMM.out, HIX.out]
                  have HFIN := Lib.hid hfin
                  obtain ⟨A, hA⟩ : ∃ A, L[y * W + x]?.getD 0 = A := ⟨_, rfl⟩
                  obtain ⟨B, hB⟩ : ∃ B, M[Y2 * W + X2]?.getD 0 = B := ⟨_, rfl⟩
                  have hsub : A + -G = A - G := by omega
                  rw [hA] at x1 e1 hcm fcm HS2 HB5 c0s
                  rw [hB] at hcm e2 HS2 HB5
                  rw [hsub] at hcm fcm HS2 HB5 c0s
                  have v1 : ((y * W : Nat) : Int) + (x : Int) = ((y * W + x : Nat) : Int) := by push_cast; rfl
                  have v2 : ((Y2 * W : Nat) : Int) + (X2 : Int) = ((Y2 * W + X2 : Nat) : Int) := by push_cast; rfl
                  have w3' : IntKind.i64.wrap ((y * W + x : Nat) : Int) = ((y * W + x : Nat) : Int) := IntWalk.i64_in _ ⟨by omega, by omega⟩
                  have w4' : IntKind.i64.wrap ((Y2 * W + X2 : Nat) : Int) = ((Y2 * W + X2 : Nat) : Int) := IntWalk.i64_in _ ⟨by omega, by omega⟩
                  clear hA hB hsub hfin HSU2 HLL HMM HIX hLl hLb hMl hMb hix hin q1 q2 q3 q4 hX2 hY2
                  generalize hJ : y * W + x = J at v1 w3' x1 f1 hcm fcm HS2 HB5 c0s hj HFIN
                  generalize hJ2 : Y2 * W + X2 = J2 at v2 w4' hcm fcm HS2 HB5 hN2 HFIN
                  generalize hQ : y * W = Q at v1 w1 p1 m1
                  generalize hQ2 : Y2 * W = Q2 at v2 w2' p2 m2
                  have HJ := Lib.hid hJ
                  clear hJ hJ2 hQ hQ2
                  go_upto_region 15 with fail
                  go_region
                  all_goals
                    go_upto_region 16 with fail
                    go_region
                  all_goals
                    go_wp2_with fail
                    go_roundw
                    case rel => first | exact ⟨d + 1, by omega, by go_num, by rw [HJ.out, HFIN.out]; exact HS2.out, HB5.out.drew⟩ | exact ⟨d + 1, by omega, by go_num, by rw [HJ.out, HFIN.out]; exact HS2.out, HB5.out.drew.drew⟩
                    case measure => simp [intOf]; omega
                · have hsu := HSU.out
                  rw [if_neg hin] at hsu
                  have HSU2 := Lib.hid hsu
                  have hno : ¬ (0 ≤ (x : Int) + dx ∧ (x : Int) + dx < W ∧ 0 ≤ (y : Int) + dy ∧ (y : Int) + dy < H) := fun h => hin ((inside_iff W H _).2 h)
                  have HOW5 := Lib.hid hown
                  have HNX5 := Lib.hid hnx
                  clear hin hsu hown hnx HOW HNW hG
                  by_cases k1 : (x : Int) + dx < 0
                  · have k1' : ¬ (0 ≤ (x : Int) + dx) := by omega
                    clear hno
                    go_wp2_with fail
                    go_roundw
                    case rel => exact ⟨d + 1, by omega, by go_num, by rw [HSU2.out]; exact HOW5.out, HNX5.out⟩
                    case measure => simp [intOf]; omega
                  have k1' : 0 ≤ (x : Int) + dx := by omega
                  by_cases k2 : (W : Int) ≤ (x : Int) + dx
                  · have k2' : ¬ ((x : Int) + dx < W) := by omega
                    clear hno
                    go_wp2_with fail
                    go_roundw
                    case rel => exact ⟨d + 1, by omega, by go_num, by rw [HSU2.out]; exact HOW5.out, HNX5.out⟩
                    case measure => simp [intOf]; omega
                  have k2' : (x : Int) + dx < W := by omega
                  by_cases k3 : (y : Int) + dy < 0
                  · have k3' : ¬ (0 ≤ (y : Int) + dy) := by omega
                    clear hno
                    go_wp2_with fail
                    go_roundw
                    case rel => exact ⟨d + 1, by omega, by go_num, by rw [HSU2.out]; exact HOW5.out, HNX5.out⟩
                    case measure => simp [intOf]; omega
                  have k3' : 0 ≤ (y : Int) + dy := by omega
                  have k4' : ¬ ((y : Int) + dy < H) := by omega
                  clear hno
                  go_wp2_with fail
                  go_roundw
                  case rel => exact ⟨d + 1, by omega, by go_num, by rw [HSU2.out]; exact HOW5.out, HNX5.out⟩
                  case measure => simp [intOf]; omega
            · obtain rfl : d = 4 := by omega
              go_wp2_with fail
              go_roundw
              case rel => exact ⟨x + 1, by omega, by go_num, by rw [← Nat.add_assoc, ← HR.out]; unfold round1R; rw [HG.out]; exact hown, hnx⟩
              case measure => simp [intOf]; omega
        · obtain rfl : W = x := by omega
          go_wp2_with fail
          go_roundw
          case rel => exact ⟨y + 1, by omega, by go_num, by rw [Nat.succ_mul]; exact hown, hnx⟩
          case measure => simp [intOf]; omega
    · obtain rfl : H = y := by omega
      have hb3 := HB0.out.trans (hnx.mono (by omega))
      have hz2 := hnx.size
      have hlen : (roundsR W H share ks (H * W)).length = n := by unfold roundsR; rw [roundsTo_len]; exact HLK.out
      have KM := Lib.hid (made_all W H (some ⟨ga, 0, none⟩) n ca _ (roundsR W H share ks (H * W)) hlen hn1 hsm wr hown)
      have bR1 := (hnx.block (w.heap.size + 1) (by omega)).trans HZB.out
      have HB3 := Lib.hid hb3
      have HBR1 := Lib.hid bR1
      clear hown hnx hb3 bR1 hlen
      generalize hle : largeErr n (roundsR W H share ks (H * W)) = r at *
      go_wp2_with ((go_at_call 141; refine KM.out.mono ?_; rintro e w2 ⟨X, Y, a', n', c2', rfl, hres, hb4⟩
                    have bR2 := (hb4.block (w.heap.size + 1) (by omega)).trans HBR1.out
                    have q0 : w2.frozen? ⟨w.heap.size + 1, 0, none⟩ = false := by simp [World.frozen?, bR2]
                    have q1 : w2.frozen? ⟨w.heap.size + 1, 1, none⟩ = false := by simp [World.frozen?, bR2]
                    have q2 : w2.frozen? ⟨w.heap.size + 1, 2, none⟩ = false := by simp [World.frozen?, bR2]
                    have p0 : w2.cell? ⟨w.heap.size + 1, 0, none⟩ = some (.int .i64 0) := by rw [cell_of_row w2 _ 0 _ _ (0, 0) bR2]; rfl
                    have p1 : w2.cell? ⟨w.heap.size + 1, 1, none⟩ = some (.int .i64 0) := by rw [cell_of_row w2 _ 1 _ _ (0, 0) bR2]; rfl
                    have p2 : w2.cell? ⟨w.heap.size + 1, 2, none⟩ = some (.slice none 0 0) := by rw [cell_of_row w2 _ 2 _ _ (0, 0) bR2]; rfl
                    have HR2 := Lib.hid bR2
                    have HRES := Lib.hid hres
                    have HB4 := Lib.hid (HB3.out.trans (hb4.mono (by omega)))
                    clear bR2 hres hb4))
      obtain ⟨WF, hWF⟩ : ∃ WF, (((w2.setCell ⟨w.heap.size + 1, 0, none⟩ (.int .i64 X)).setCell ⟨w.heap.size + 1, 1, none⟩ (.int .i64 Y)).setCell ⟨w.heap.size + 1, 2, none⟩ (.slice a' n' c2')) = WF := ⟨_, rfl⟩
      have rF : WF.heap[w.heap.size + 1]? = some (.cells #[.int .i64 X, .int .i64 Y, .slice a' n' c2'] 48 (0, 0)) := by rw [← hWF]; exact blk_set3 HR2.out _ _ _
      have bF : Below w.heap.size w WF := by rw [← hWF]; exact below_set3 HB4.out (by omega) _ _ _
      have vF : ResV WF r W H (roundsR W H share ks (H * W)) X Y a' n' c2' := by rw [← hWF]; exact HRES.out.stored HR2.out (OneBlk.set3 _ _ _ _ _)
      rw [hWF]
      subst hle
      exact bodyPost_ret (v := .tuple #[.agg #[.int .i64 X, .int .i64 Y, .slice a' n' c2'], .int .i64 (largeErr n (roundsR W H share ks (H * W)))]) (results_row_tmp Tryz.results66 _ _ (w.heap.size + 1) 48 _ (0, 0) _ rfl rF Tryz.underlying48 rfl (by kernel_rfl)) rfl ⟨_, _, _, _, _, rfl, vF, bF⟩
end Go.Proofs.YtfdkmmllemkogaaGreatDoor
