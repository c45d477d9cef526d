/-
  Contract of the reference's Encode, for right telegrams.
-/
import Derived.Test.YthmaoeajbmfmaaaGreatDoorCHk
import Derived.Test.YthmaoeajbmfmaaaGreatDoorCXe
import Derived.Deep.AppendLies
import Derived.Deep.RegionHeldLaw
namespace Go.Proofs.YthmaoeajbmfmaaaGreatDoor
open Go.RowKit
set_option linter.unusedVariables false
set_option linter.unusedSimpArgs false

/-- A value owns these bytes. -/
def Bts (w : World) (B : Nat) (v : Value) (L : List Int) : Prop := w.ownsRow B 5 1 v L.length (L.map (Value.int .u8))
theorem Bts.lit (w : World) (B : Nat) (hB : B ≤ w.heap.size) (a b : Int) : Bts (w.alloc (.cells #[.int .u8 a, .int .u8 b] 5)) B (.slice (some ⟨w.heap.size, 0, none⟩) 2 2) [a, b] :=
  ⟨rfl, .inr ⟨w.heap.size, 2, #[.int .u8 a, .int .u8 b], rfl, hB, blk_alloc_new _ _, Nat.le_refl 2, by unfold maxLen; omega, rfl, rfl⟩⟩
theorem Bts.news {w : World} {B : Nat} {g c n : Nat} {L : List Int} (h : w.ownsRow B 5 1 (.slice (some ⟨g, 0, none⟩) n c) n (L.map (Value.int .u8))) : ∀ j u, (L.map (Value.int .u8))[j]? = some u → w.cell? ((⟨g, 0, none⟩ : Addr).add j) = some u := h.cells (g := g) rfl
theorem one_u8 (L : List Int) : ∀ u ∈ L.map (Value.int .u8), u.oneCell' = true := by
  intro u hu
  obtain ⟨x, _, rfl⟩ := List.mem_map.1 hu
  rfl

theorem refParts_any (x y z : Int) (w : World) :
    Calls Tryz.prog 85 #[.agg #[.int .i64 x, .int .i64 y, .int .i64 z]] w fun e w' => ∃ g, e = .returned (.slice (some ⟨g, 0, none⟩) 3 3) ∧ w'.ownsRow w.heap.size 3 1 (.slice (some ⟨g, 0, none⟩) 3 3) 3 [.int .i64 x, .int .i64 y, .int .i64 z] ∧ Below w.heap.size w w' := by
  go_enter Tryz.func85, Tryz.ntmps85
  go_wp2
  go_ret
  refine ⟨w.heap.size + 1, rfl, ⟨rfl, .inr ⟨w.heap.size + 1, 3, #[.int .i64 x, .int .i64 y, .int .i64 z], rfl, by omega, heap_alloc2_new w _ _, Nat.le_refl 3, by unfold maxLen; omega, rfl, rfl⟩⟩, ((Below.refl _ w).alloc (Nat.le_refl _) _).alloc (by simp) _⟩

/-- One of the three parts of a telegram's vector, and the bytes that it lays. -/
theorem part_step (s c o x y z : Int) (k : Nat) (hk : k < 3) : ∃ v, [Value.int .i64 x, .int .i64 y, .int .i64 z][k]? = some (.int .i64 v) ∧ (v = x ∨ v = y ∨ v = z) ∧
    ((frame20 s c o x y z).take (5 + 4 * (k + 1))).map (Value.int .u8) = ((frame20 s c o x y z).take (5 + 4 * k)).map (Value.int .u8) ++ (bytesL (v + 1048576) 4 4).map (Value.int .u8) := by
  obtain rfl | rfl | rfl : k = 0 ∨ k = 1 ∨ k = 2 := by omega
  · exact ⟨x, rfl, .inl rfl, rfl⟩
  · exact ⟨y, rfl, .inr (.inl rfl), rfl⟩
  · exact ⟨z, rfl, .inr (.inr rfl), rfl⟩
theorem flip_step (s c o x y z : Int) (hs : 0 ≤ s ∧ s ≤ 255) (j : Nat) (h1 : 1 ≤ j) (hj : j < 4) : ∃ b, (((frame20 s c o x y z).take (16 + j)).map (Value.int .u8))[j]? = some (.int .u8 b) ∧ (0 ≤ b ∧ b ≤ 255) ∧
    ((frame20 s c o x y z).take (16 + (j + 1))).map (Value.int .u8) = ((frame20 s c o x y z).take (16 + j)).map (Value.int .u8) ++ [.int .u8 (255 - b)] := by
  obtain rfl | rfl | rfl : j = 1 ∨ j = 2 ∨ j = 3 := by omega
  · exact ⟨s, rfl, hs, rfl⟩
  · exact ⟨byt c 1, rfl, byt_bd _ _, rfl⟩
  · exact ⟨byt c 0, rfl, byt_bd _ _, rfl⟩
theorem frame_step (s c o x y z : Int) (j : Nat) (hj : j = 4) : (frame s c o x y z).map (Value.int .u8) = ((frame20 s c o x y z).take (16 + j)).map (Value.int .u8) ++ (bytesL (chkOf (frame20 s c o x y z)) 4 4).map (Value.int .u8) := by subst hj; rfl

set_option maxRecDepth 100000 in
set_option maxHeartbeats 12800000 in
theorem refEncode_any (s c o x y z : Int) (h : GoodT s c o x y z) (w : World) :
    Calls Tryz.prog 23 #[.agg #[.int .i64 s, .int .i64 c, .int .i64 o, .int .i64 x, .int .i64 y, .int .i64 z]] w fun e w' => e = .returned (.agg ((frame s c o x y z).map (Value.int .u8)).toArray) ∧ Below w.heap.size w w' := by
  obtain ⟨i0, hi, hz0, hz1, hz2⟩ := info_parts Tryz.infoByteH
  obtain ⟨h1, h2, h3, h4, h5, h6⟩ := h
  obtain ⟨W0, hW0⟩ : ∃ W0, (w.alloc (.cells #[.int .i64 s, .int .i64 c, .int .i64 o, .int .i64 x, .int .i64 y, .int .i64 z] 43)).alloc (.cells (List.replicate 24 (Value.int .u8 0)).toArray 44) = W0 := ⟨_, rfl⟩
  have hB0 : Below w.heap.size w W0 := by rw [← hW0]; exact ((Below.refl _ w).alloc (Nat.le_refl _) _).alloc (by simp) _
  have hz00 : W0.heap.size = w.heap.size + 2 := by rw [← hW0]; simp
  have bT : W0.heap[w.heap.size]? = some (.cells #[.int .i64 s, .int .i64 c, .int .i64 o, .int .i64 x, .int .i64 y, .int .i64 z] 43 (0, 0)) := by rw [← hW0]; exact blk_alloc_other (blk_alloc_new _ _) _
  have bR : W0.heap[w.heap.size + 1]? = some (.cells (List.replicate 24 (Value.int .u8 0)).toArray 44 (0, 0)) := by rw [← hW0]; exact heap_alloc2_new w _ _
  simp only [List.replicate] at hW0
  have a0 : W0.cell? ⟨w.heap.size, 0, none⟩ = some (.int .i64 s) := by rw [cell_of_row W0 _ 0 _ _ (0, 0) bT]; rfl
  have a2 : W0.cell? ⟨w.heap.size, 2, none⟩ = some (.int .i64 o) := by rw [cell_of_row W0 _ 2 _ _ (0, 0) bT]; rfl
  have a3 : W0.cell? ⟨w.heap.size, 3, none⟩ = some (.int .i64 x) := by rw [cell_of_row W0 _ 3 _ _ (0, 0) bT]; rfl
  have a4 : W0.cell? ⟨w.heap.size, 4, none⟩ = some (.int .i64 y) := by rw [cell_of_row W0 _ 4 _ _ (0, 0) bT]; rfl
  have a5 : W0.cell? ⟨w.heap.size, 5, none⟩ = some (.int .i64 z) := by rw [cell_of_row W0 _ 5 _ _ (0, 0) bT]; rfl
  have a1 : W0.cell? ⟨w.heap.size, 1, none⟩ = some (.int .i64 c) := by rw [cell_of_row W0 _ 1 _ _ (0, 0) bT]; rfl
  have HBT := Lib.hid bT
  have HBR := Lib.hid bR
  have HB0 := Lib.hid hB0
  have HZ0 := Lib.hid hz00
  have hlt0 : w.heap.size < W0.heap.size := by omega
  clear bT bR hB0 hz00
  have hR : Blw W0.heap.size W0 W0.drew := show Below _ _ _ from (Below.refl W0.heap.size W0).drew
  have hRa : ∀ ob : Obj, Blw W0.heap.size W0 ((W0.alloc ob).drew) := fun ob => show Below _ _ _ from ((Below.refl W0.heap.size W0).alloc (Nat.le_refl _) ob).drew
  have HS : Hid (∀ w1 : World, Below W0.heap.size W0 w1 → w1.cell? ⟨w.heap.size, 0, none⟩ = some (.int .i64 s) ∧ w1.cell? ⟨w.heap.size, 1, none⟩ = some (.int .i64 c) ∧ Blw W0.heap.size W0 w1) :=
    Lib.hid fun w1 hb => ⟨by rw [hb.cell (by show _ < W0.heap.size; omega)]; exact a0, by rw [hb.cell (by show _ < W0.heap.size; omega)]; exact a1, hb⟩
  have H4 : Hid (∀ w1 : World, Below W0.heap.size W0 w1 → w1.cell? ⟨w.heap.size, 2, none⟩ = some (.int .i64 o) ∧ w1.cell? ⟨w.heap.size, 3, none⟩ = some (.int .i64 x) ∧ w1.cell? ⟨w.heap.size, 4, none⟩ = some (.int .i64 y) ∧ w1.cell? ⟨w.heap.size, 5, none⟩ = some (.int .i64 z)) :=
    Lib.hid fun w1 hb => ⟨by rw [hb.cell (by show _ < W0.heap.size; omega)]; exact a2, by rw [hb.cell (by show _ < W0.heap.size; omega)]; exact a3, by rw [hb.cell (by show _ < W0.heap.size; omega)]; exact a4, by rw [hb.cell (by show _ < W0.heap.size; omega)]; exact a5⟩
  have HWS : Hid (IntKind.u8.wrap s = s) := Lib.hid (IntWalk.u8_in _ ⟨by omega, by omega⟩)
  clear a2 a3 a4 a5
  have KB : Hid (∀ w1 : World, Blw W0.heap.size W0 w1 → Calls Tryz.prog 84 #[.int .i64 c, .int .i64 2] w1 fun e w' => ∃ g cp, e = .returned (.slice (some ⟨g, 0, none⟩) 2 cp) ∧ w'.ownsRow w1.heap.size 5 1 (.slice (some ⟨g, 0, none⟩) 2 cp) 2 ([byt c 1, byt c 0].map (Value.int .u8)) ∧ Below w1.heap.size w1 w' ∧ Below W0.heap.size W0 w') :=
    Lib.hid fun w1 (hb : Below W0.heap.size W0 w1) => (refBytes_any c 2 h2.1 (by omega) (by omega) w1).mono fun e w' ⟨u, he, ho, hw⟩ => by
      obtain ⟨g, cp, rfl, _, _⟩ := owns_some ho (by omega)
      exact ⟨g, cp, he, ho, hw, hb.trans (hw.mono hb.size)⟩
  go_enter Tryz.func23, Tryz.ntmps23
  go_upto_region 1 with fail
  try rw [hW0]
  clear hW0
  go_cut [3] (fun s3 wr => ∃ v W1, v = s3 ∧ W1 = wr ∧ W1.ownsRow W0.heap.size 5 1 v 4 ([77, s, byt c 1, byt c 0].map (Value.int .u8)) ∧ Below W0.heap.size W0 W1)
  case first =>
    go_region_held3 (fun w' => w'.cell? ⟨w.heap.size, 0, none⟩ = some (.int .i64 s) ∧ w'.cell? ⟨w.heap.size, 1, none⟩ = some (.int .i64 c) ∧ Blw W0.heap.size W0 w')
      (first
        | exact HS.out _ hb3
        | exact HS.out _ (hb2.alloc hb2.size _)
        | exact HS.out _ hb2
        | (go_keep; done)
        | (go_split_ands; refine ⟨?_, ?_, ?_⟩ <;> first | (with_reducible assumption) | exact hRa _ | (simp [go_sem, *]; done)))
      (first
        | (go_at_call 84; refine (KB.out _ (by first | assumption | exact hRa _)).mono ?_; rintro e w2 ⟨g2, cp2, rfl, ho2, hbA, hb2⟩)
        | (refine step_append_lies _ (by rfl) (.tmp 13) (.tmp 16) 45 (by rfl) W0.heap.size 5 i0 (.int .u8 0) 1 1 Tryz.underlying45 hi hz0 hz1 hz2 (by rfl) (by omega) (.slice (some ⟨W0.heap.size, 0, none⟩) 2 2) 2 _ (by rfl) (owns_kept (Bts.lit W0 W0.heap.size (Nat.le_refl _) 77 (IntKind.u8.wrap s)).drew hbA (Nat.le_refl _)) ⟨g2, 0, none⟩ 2 cp2 ([byt c 1, byt c 0].map (Value.int .u8)) (by rfl) (by rfl) (Bts.news ho2) (one_u8 _) (by omega) (by unfold maxLen; omega) (by omega) hb2.size w2.heap.size (by rfl) ?_; intro g3 cp3 w3 ho3 hgr3 _ _; (have hb3 := hb2.grown hgr3 hb2.size (fun k hk => by cases hk; exact Nat.le_refl _)))
        | (refine step_append_lies _ (by rfl) (.tmp 13) (.tmp 16) 45 (by rfl) W0.heap.size 5 i0 (.int .u8 0) 1 1 Tryz.underlying45 hi hz0 hz1 hz2 (by rfl) (by omega) (.slice (some ⟨w2.heap.size, 0, none⟩) 2 2) 2 _ (by rfl) (Bts.lit w2 W0.heap.size hb2.size 77 (IntKind.u8.wrap s)) ⟨g2, 0, none⟩ 2 cp2 ([byt c 1, byt c 0].map (Value.int .u8)) (by rfl) (by rfl) (Bts.news (ho2.alloc _)) (one_u8 _) (by omega) (by unfold maxLen; omega) (by omega) (hb2.alloc hb2.size (.cells #[.int .u8 77, .int .u8 (IntKind.u8.wrap s)] 5)).size (w2.heap.size + 1) (by simp) ?_; intro g3 cp3 w3 ho3 hgr3 _ _; (have hb3 := (hb2.alloc hb2.size (.cells #[.int .u8 77, .int .u8 (IntKind.u8.wrap s)] 5)).grown hgr3 (hb2.alloc hb2.size (.cells #[.int .u8 77, .int .u8 (IntKind.u8.wrap s)] 5)).size (fun k hk => by cases hk; exact hb2.size))))
    all_goals go_wp2_with fail
    all_goals (go_meet; exact ⟨_, _, rfl, rfl, by rw [HWS.out] at ho3; exact ho3, hb3⟩)
  case rest =>
    obtain ⟨v1, W1, rfl, rfl, hO1, hB1⟩ := hcut
    clear KB HS hR hRa a0 a1
    have hsz1 := hB1.size
    have hlt1 := hO1.lt
    obtain ⟨c2, _, _, _⟩ := H4.out _ hB1
    obtain ⟨h3a, h3b⟩ := h3
    have KP := Lib.hid (refParts_any x y z)
    go_wp2_with (first
      | (at_builtin; (refine wpList_append_own _ rfl (.tmp 18) (.tmp 22) 45 rfl W0.heap.size 5 i0 (.int .u8 0) 1 1 Tryz.underlying45 hi hz0 hz1 hz2 rfl (by decide) _ 4 _ rfl (hO1.alloc _) ⟨W1.heap.size, 0, none⟩ 1 1 [.int .u8 o] rfl rfl (cell_one_new _ _ _) (by intro u hu; simp at hu; subst hu; rfl) (by unfold maxLen; omega) (by omega) (by simp; omega) ?_); intro v2 w2 hO2 hG2 _
         have hB2 := (hB1.alloc hsz1 (.cells #[.int .u8 o] 5)).grown hG2 (by simp; omega) (fun q hq => (hlt1 q hq).1)
         obtain ⟨_, c3, c4, c5⟩ := H4.out _ hB2)
      | (go_at_call 85; refine (KP.out _).mono ?_; rintro e w3 ⟨g3, rfl, hP3, hb3⟩))
    have hO3 := owns_kept hO2 hb3 (Nat.le_refl _)
    have hsz2 := hB2.size
    have hB3 : Below W0.heap.size W0 w3 := hB2.trans (hb3.mono hsz2)
    have HO3 := Lib.hid hO3
    have HP3 := Lib.hid hP3
    have HB3 := Lib.hid hB3
    have HZ2 := Lib.hid hsz2
    clear hO3 hP3 hB3 hb3 hO2 hG2 hB2 hO1 hlt1 c2 hB1 hsz1 hsz2 c3 c4 c5 KP H4 HWS
    go_loopw [3, 5] (fun v i wr => ∃ k : Nat, k ≤ 3 ∧ i = .int .i64 k ∧ wr.ownsRow W0.heap.size 5 1 v (5 + 4 * k) (((frame20 s c o x y z).take (5 + 4 * k)).map (Value.int .u8)) ∧ wr.ownsRow w2.heap.size 3 1 (.slice (some ⟨g3, 0, none⟩) 3 3) 3 [.int .i64 x, .int .i64 y, .int .i64 z] ∧ Below W0.heap.size W0 wr)
      (fun _ i _ => 3 - (intOf i).toNat)
    case atStart => exact ⟨0, by omega, rfl, HO3.out, HP3.out, HB3.out⟩
    case round =>
      obtain ⟨k, hk, rfl, hOk, hPk, hBk⟩ := hrel
      have hszk := hBk.size
      by_cases hlt : k < 3
      · obtain ⟨v, hv1, hv2, hv3⟩ := part_step s c o x y z k hlt
        have hvb : -1048576 ≤ v ∧ v ≤ 1048576 := by rcases hv2 with rfl | rfl | rfl <;> assumption
        obtain ⟨hva, hvb⟩ := hvb
        have hcell : wr.cell? ⟨g3, k, none⟩ = some (.int .i64 v) := by
          have h := hPk.cells (g := g3) rfl k _ hv1
          rwa [Addr.add_mid, Nat.zero_add] at h
        have KB := Lib.hid (refBytes_any (v + 1048576) 4 (by omega) (by omega) (by omega))
        have HV3 := Lib.hid hv3
        have HPK := Lib.hid hPk
        have HOK := Lib.hid hOk
        have hltk := hOk.lt
        have HLTK := Lib.hid hltk
        have HBK := Lib.hid hBk
        have hk3 : (k : Int) < 3 := by omega
        clear hv1 hv2 hv3 hPk hOk hBk hltk
        go_wp2_with (first
          | (go_at_call 84; refine (KB.out _).mono ?_; rintro e w4 ⟨u, rfl, hOu, hbu⟩; obtain ⟨gu, cu, rfl, _, _⟩ := owns_some hOu (by omega))
          | (at_builtin; (refine wpList_append_own _ rfl (.tmp 31) (.tmp 37) 45 rfl W0.heap.size 5 i0 (.int .u8 0) 1 1 Tryz.underlying45 hi hz0 hz1 hz2 rfl (by decide) _ (5 + 4 * k) _ rfl (owns_kept HOK.out hbu (Nat.le_refl _)) ⟨gu, 0, none⟩ 4 cu _ rfl (by rfl) (Bts.news hOu) (one_u8 _) (by unfold maxLen; omega) (by omega) (by have := hbu.size; omega) ?_); intro v5 w5 hO5 hG5 _))
        have hz4 := hbu.size
        have hB4 : Below W0.heap.size W0 w4 := HBK.out.trans (hbu.mono hszk)
        have hO4 := owns_kept HOK.out hbu (Nat.le_refl _)
        have hP4 := owns_kept HPK.out hbu (Nat.le_refl _)
        have hB5 := hB4.grown hG5 (by omega) (fun q hq => (HLTK.out q hq).1)
        have e5 : 5 + 4 * (k + 1) = 5 + 4 * k + 4 := by omega
        go_roundw
        case rel => exact ⟨k + 1, by omega, by go_num, by rw [HV3.out, e5]; exact hO5, hP4.kept hG5 (own_ne hP4 hO4 (by decide)), hB5⟩
        case measure => simp [intOf]; omega
      · have ek : k = 3 := by omega
        rw [ek] at hOk
        have HEK := Lib.hid ek
        have hnk : ¬ ((k : Int) < 3) := by omega
        clear ek hlt
        have HOK := Lib.hid hOk
        have HBK := Lib.hid hBk
        clear hOk hPk hBk
        go_wp2_with fail
        go_loopw [3, 6] (fun v i wr => ∃ j : Nat, 1 ≤ j ∧ j ≤ 4 ∧ i = .int .i64 j ∧ wr.ownsRow W0.heap.size 5 1 v (16 + j) (((frame20 s c o x y z).take (16 + j)).map (Value.int .u8)) ∧ Below W0.heap.size W0 wr)
          (fun _ i _ => 4 - (intOf i).toNat)
        case atStart => exact ⟨1, by omega, by omega, rfl, HOK.out, HBK.out⟩
        case round =>
          obtain ⟨j, hj1, hj, rfl, hOj, hBj⟩ := hrel
          have hszj := hBj.size
          obtain ⟨gj, cj, rfl, _, _⟩ := owns_some hOj (by omega)
          by_cases hlt : j < 4
          · obtain ⟨b, hb1, ⟨hba, hbb⟩, hb3⟩ := flip_step s c o x y z h1 j hj1 hlt
            have hcell : wr.cell? ⟨gj, j, none⟩ = some (.int .u8 b) := by
              have h := hOj.cells (g := gj) rfl j _ hb1
              rwa [Addr.add_mid, Nat.zero_add] at h
            have HV3 := Lib.hid hb3
            have HOJ := Lib.hid hOj
            have hltj := hOj.lt
            have HLTJ := Lib.hid hltj
            have HBJ := Lib.hid hBj
            have hj3 : (j : Int) ≤ 3 := by omega
            have hj0 : (0 : Int) ≤ (j : Int) := by omega
            have hjl : (j : Int) < ((16 + j : Nat) : Int) := by omega
            clear hb1 hb3 hOj hBj hltj HOK HBK HO3 HP3 HB3
            go_wp2_with (at_builtin; (refine wpList_append_own _ rfl (.tmp 43) (.tmp 49) 45 rfl W0.heap.size 5 i0 (.int .u8 0) 1 1 Tryz.underlying45 hi hz0 hz1 hz2 rfl (by decide) _ (16 + j) _ rfl (HOJ.out.alloc _) ⟨wr.heap.size, 0, none⟩ 1 1 [.int .u8 (255 - b)] rfl rfl (cell_one_new _ _ _) (by intro u hu; simp at hu; subst hu; rfl) (by unfold maxLen; omega) (by omega) (by simp; omega) ?_); intro v5 w5 hO5 hG5 _)
            have hB5 := (HBJ.out.alloc hszj _).grown hG5 (by simp; omega) (fun q hq => (HLTJ.out q hq).1)
            have e5 : 16 + (j + 1) = 16 + j + 1 := by omega
            go_roundw
            case rel => exact ⟨j + 1, by omega, by omega, by go_num, by rw [HV3.out, e5]; exact hO5, hB5⟩
            case measure => simp [intOf]; omega
          · have ej : j = 4 := by omega
            have hnj : ¬ ((j : Int) ≤ 3) := by omega
            have hcells : ∀ i, i < 16 + j → wr.cell? ⟨gj, 0 + i, none⟩ = some (.int .u8 ((frame20 s c o x y z)[i]?.getD 0)) := by
              intro i hi20
              have h := hOj.cells (g := gj) rfl i (.int .u8 ((frame20 s c o x y z)[i]?.getD 0)) (by
                rw [List.getElem?_map, List.getElem?_take_of_lt (by omega), List.getElem?_eq_getElem (by rw [frame20_len]; omega)]; rfl)
              rwa [Addr.add_mid] at h
            have hfit : FitT s c o x y z := by constructor <;> omega
            have KC := Lib.hid (refChecksum_any gj 0 (16 + j) cj (frame20 s c o x y z) wr (by rw [frame20_len]; omega) (by omega) (fun i hi => frame20_fit hfit i (by omega)) hcells)
            have hcb := chk_bd (frame20 s c o x y z)
            have HFS := Lib.hid (frame_step s c o x y z j ej)
            have hFL : (frame s c o x y z).length = 24 := frame_len s c o x y z
            obtain ⟨q, hq⟩ : ∃ q, chkOf (frame20 s c o x y z) = q := ⟨_, rfl⟩
            rw [hq] at KC hcb HFS
            obtain ⟨hc0, hc1⟩ := hcb
            have KB := Lib.hid (refBytes_any q 4 hc0 (by omega) (by omega))
            obtain ⟨F, hFF⟩ : ∃ F, frame s c o x y z = F := ⟨_, rfl⟩
            rw [hFF] at HFS hFL
            have HFF := Lib.hid hFF
            have HFL := Lib.hid hFL
            have HOJ := Lib.hid hOj
            have hltj := hOj.lt
            have HLTJ := Lib.hid hltj
            have HBJ := Lib.hid hBj
            clear hcells hfit hq hFF hFL ej hlt hOj hBj hltj HOK HBK HO3 HP3 HB3
            go_wp2_with (first
              | (go_at_call 86; refine KC.out.mono ?_; rintro e w4 ⟨rfl, rfl⟩)
              | (go_at_call 84; refine (KB.out _).mono ?_; rintro e w4 ⟨u, rfl, hOu, hbu⟩; obtain ⟨gu, cu, rfl, _, _⟩ := owns_some hOu (by omega))
              | (at_builtin; (refine wpList_append_own _ rfl (.tmp 53) (.tmp 55) 45 rfl W0.heap.size 5 i0 (.int .u8 0) 1 1 Tryz.underlying45 hi hz0 hz1 hz2 rfl (by decide) _ (16 + j) _ rfl (owns_kept HOJ.out hbu (Nat.le_refl _)) ⟨gu, 0, none⟩ 4 cu _ rfl (by rfl) (Bts.news hOu) (one_u8 _) (by unfold maxLen; omega) (by omega) (by have := hbu.size; omega) ?_); intro v5 w5 hO5 hG5 _))
            have e24 : 16 + j + 4 = 24 := by omega
            rw [e24, ← HFS.out] at hO5
            have hB5 : Below W0.heap.size W0 w5 := (HBJ.out.trans (hbu.mono hszj)).grown hG5 (by have := hbu.size; omega) (fun q hq => (HLTJ.out q hq).1)
            obtain ⟨gF, cF, rfl, hgF, _⟩ := owns_some hO5 (by omega)
            have hcF : ∀ i, i < 24 → w5.cell? ⟨gF, i, none⟩ = some (.int .u8 (byteAt F i)) := by
              intro i hi24
              have h := hO5.cells (g := gF) rfl i (.int .u8 (byteAt F i)) (by
                rw [List.getElem?_map]
                unfold byteAt
                rw [List.getElem?_eq_getElem (by rw [HFL.out]; exact hi24)]; rfl)
              rwa [Addr.add_mid, Nat.zero_add] at h
            have HCF := Lib.hid hcF
            have HB5 := Lib.hid hB5
            have hsz5 := hB5.size
            obtain ⟨X0, hX0⟩ : ∃ X0, w5.alloc (.cells ((List.replicate 24 (Value.int .u8 0)).toArray) 44) = X0 := ⟨_, rfl⟩
            have hk0 : HasBlk X0 w5.heap.size 44 (cpy F 0) := by
              rw [← hX0]
              have h := heap_alloc_new w5 (.cells ((List.replicate 24 (Value.int .u8 0)).toArray) 44)
              simpa [HasBlk, cpy, List.replicate] using h
            have hBx : Below w5.heap.size w5 X0 := by rw [← hX0]; exact (Below.refl _ w5).alloc (Nat.le_refl _) _
            have hzx : X0.heap.size = w5.heap.size + 1 := by rw [← hX0]; simp
            simp only [List.replicate] at hX0
            rw [hX0]
            have HZX := Lib.hid hzx
            have HBX := Lib.hid hBx
            have HK0 := Lib.hid hk0
            clear hX0 hzx hBx hk0 hcF hB5 hO5 hG5 HOJ HLTJ HBJ HFS KB KC e24
            go_loopw [9] (fun i wI => ∃ m : Nat, m ≤ 24 ∧ i = .int .i64 m ∧ HasBlk wI w5.heap.size 44 (cpy F m) ∧ OnlyBlk X0 wI w5.heap.size)
              (fun i _ => 24 - (intOf i).toNat)
            case atStart => exact ⟨0, Nat.zero_le _, rfl, HK0.out, ⟨⟨rfl, rfl, rfl, Nat.le_refl _, fun _ _ _ => rfl⟩, rfl⟩⟩
            case round =>
              obtain ⟨m, hm, rfl, hkm, hom⟩ := hrel
              by_cases hm24 : m < 24
              · have hs := cpy_set HFL.out hm24
                have hc1 : wr.cell? ⟨gF, m, none⟩ = some (.int .u8 (byteAt F m)) := hom.cell ((HBX.out.cell (p := ⟨gF, m, none⟩) hgF).trans (HCF.out m hm24)) (by omega)
                have hc3 := hkm.cell (j := m) (v := (cpy F m)[m]?.getD 0) (by rw [List.getElem?_eq_getElem (by rw [cpy_len HFL.out hm]; exact hm24)]; rfl)
                have hf3 := hkm.frozen m
                have HKN : Hid (HasBlk (wr.setCell ⟨w5.heap.size, m, none⟩ (.int .u8 (byteAt F m))) w5.heap.size 44 (cpy F (m + 1))) := Lib.hid (by rw [← hs]; exact hkm.set _ _)
                have HON := Lib.hid (hom.trans (OnlyBlk.set wr w5.heap.size m (.int .u8 (byteAt F m))))
                obtain ⟨v, hv⟩ : ∃ v, byteAt F m = v := ⟨_, rfl⟩
                rw [hv] at hc1 HKN HON
                have g1 : (m : Int) < 24 := by omega
                have g3 : (0 : Int) ≤ (m : Int) := by omega
                clear hs hkm hom hv
                go_wp2_with fail
                go_roundw
                case rel => exact ⟨m + 1, by omega, by go_num, HKN.out, HON.out⟩
                case measure => simp [intOf]; omega
              · obtain rfl : m = 24 := by omega
                rw [cpy_24 HFL.out] at hkm
                obtain ⟨V, hV⟩ : ∃ V, F.map (Value.int .u8) = V := ⟨_, rfl⟩
                have HKM : Hid (wr.heap[w5.heap.size]? = some (.cells V.toArray 44 (0, 0))) := Lib.hid (by rw [← hV]; exact hkm)
                have V24 : V.length = 24 := by rw [← hV, List.length_map]; exact HFL.out
                have HV : Hid ((frame s c o x y z).map (Value.int .u8) = V) := Lib.hid (by rw [HFF.out]; exact hV)
                have hBw : Below W0.heap.size W0 wr := (HB5.out.trans (HBX.out.mono hsz5)).trans (hom.below (by have := HZX.out; omega) hsz5)
                have hrb : w.heap.size + 1 < W0.heap.size := by have := HZ0.out; omega
                have HR1 : Hid (wr.heap[w.heap.size + 1]? = some (.cells (List.replicate 24 (Value.int .u8 0)).toArray 44 (0, 0))) := Lib.hid ((hBw.block _ hrb).trans HBR.out)
                have HBW := Lib.hid (HB0.out.trans (hBw.mono (by omega)))
                have hiV : (Tryz.prog.info? 44).map (·.size) = some V.toArray.size := by rw [size24]; simp [V24]
                have HV1 : Hid (∀ u ∈ V, u.oneCell' = true) := Lib.hid (by rw [← hV]; exact one_u8 F)
                clear hkm hom hV hBw
                go_wp2_with (first
                  | (refine wpList_load_row rfl 44 (.tmp 8) rfl w5.heap.size rfl 44 _ (0, 0) _ HKM.out Tryz.underlying44 rfl hiV ?_)
                  | (refine wpList_store_row rfl 44 (.tmp 2) (.tmp 67) rfl (w.heap.size + 1) rfl V.toArray rfl 44 _ HR1.out ?i2 hiV ?i4 ?_))
                case i2 => simp [V24]
                case i4 => exact HV1.out
                go_wp2
                refine bodyPost_ret (v := .agg V.toArray) (results_cell_row Tryz.results23 _ _ (w.heap.size + 1) 44 _ (0, 0) _ rfl (setRow_heap wr _ _ _ _ _ HR1.out) Tryz.underlying44 rfl hiV) rfl ⟨by rw [HV.out], ?_⟩
                exact HBW.out.trans ((OnlyBlk.setRow wr (w.heap.size + 1) _).below HBW.out.size (by omega))
end Go.Proofs.YthmaoeajbmfmaaaGreatDoor
