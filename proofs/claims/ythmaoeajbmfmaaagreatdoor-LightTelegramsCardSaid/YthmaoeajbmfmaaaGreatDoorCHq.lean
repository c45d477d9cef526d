/-
  The walk of LightTelegrams.
-/
import Derived.Test.YthmaoeajbmfmaaaGreatDoorCVl
import Derived.Deep.CutBlock
import Derived.Deep.DeepCutAuto
namespace Go.Proofs.YthmaoeajbmfmaaaGreatDoor
open Go.RowKit Go.Shelf
set_option linter.unusedVariables false
set_option linter.unusedSimpArgs false

theorem run_eql_bytes {P : Program} (w : World) (t e : TypeId) (n : Nat) (ht : P.underlying t = some (.array n e)) (he : P.underlying e = some (.int .u8)) (hsz : ∀ w, (sizeOf e).run P w = .ok 1 w) (xs : List Int) (hx : xs.length = n) :
    (binOp .eql t (.agg (xs.map (Value.int .u8)).toArray) (.agg (xs.map (Value.int .u8)).toArray)).run P w = .ok (.bool true) w := by
  rw [run_eql_struct, run_equalIn_bytes w 9998 t e n ht he hsz xs xs hx hx]
  simp

theorem tel_cells6 {W : World} {B : Nat} {T : TypeId} {s c o x y z : Int} (h : W.heap[B]? = some (.cells #[.int .i64 s, .int .i64 c, .int .i64 o, .int .i64 x, .int .i64 y, .int .i64 z] T (0, 0))) :
    W.cell? ⟨B, 0, none⟩ = some (.int .i64 s) ∧ W.cell? ⟨B, 1, none⟩ = some (.int .i64 c) ∧ W.cell? ⟨B, 2, none⟩ = some (.int .i64 o) ∧ W.cell? ⟨B, 3, none⟩ = some (.int .i64 x) ∧ W.cell? ⟨B, 4, none⟩ = some (.int .i64 y) ∧ W.cell? ⟨B, 5, none⟩ = some (.int .i64 z) :=
  ⟨by rw [cell_of_row W B 0 _ _ (0, 0) h]; rfl, by rw [cell_of_row W B 1 _ _ (0, 0) h]; rfl, by rw [cell_of_row W B 2 _ _ (0, 0) h]; rfl, by rw [cell_of_row W B 3 _ _ (0, 0) h]; rfl, by rw [cell_of_row W B 4 _ _ (0, 0) h]; rfl, by rw [cell_of_row W B 5 _ _ (0, 0) h]; rfl⟩

set_option maxRecDepth 100000 in
set_option maxHeartbeats 12800000 in
theorem telegrams_walk (w : World) (s c o x y z : Int) (F : List Int) (hF : Bytes24 F) (S : List Int) (a : Option Addr) (n cp : Nat) (hn : n ≤ 400 ∨ n = 12289) (hA : AnyBytes w a n S) (ht : TabAt w) :
    Calls Tryz.prog 4 #[.agg #[.int .i64 s, .int .i64 c, .int .i64 o, .int .i64 x, .int .i64 y, .int .i64 z], .agg (F.map (Value.int .u8)).toArray, .slice a n cp] w (TruePost w) := by
  obtain ⟨i0, hi, hz0, hz1, hz2⟩ := info_parts Tryz.infoByte
  obtain ⟨L, P, E, hL, hP, kR, kQ⟩ := receiveds S n hn
  have KR := Lib.hid kR
  have KQ := Lib.hid (kQ a cp)
  have HA := Lib.hid hA
  have KW : Hid (∀ w1 : World, Below w.heap.size w w1 → Calls Tryz.prog 18 #[] w1 fun e w' => e = .returned (.bool true) ∧ Below w.heap.size w w') :=
    Lib.hid fun w1 h => (awake_any w1 (ht.on h)).mono fun e w' ⟨he, hb⟩ => ⟨he, h.trans (hb.mono h.size)⟩
  have KE := Lib.hid (encode_all ⟨s, c, o, x, y, z⟩)
  have KC := Lib.hid (refCheckTelegram_all s c o x y z)
  have KD := Lib.hid (decode_all F hF)
  have KG := Lib.hid (refDecode_all F hF)
  have hel := encL_len ⟨s, c, o, x, y, z⟩
  have e108 : ∀ w1, (binOp .eql 44 (.agg ((encL ⟨s, c, o, x, y, z⟩).map (Value.int .u8)).toArray) (.agg ((encL ⟨s, c, o, x, y, z⟩).map (Value.int .u8)).toArray)).run Tryz.prog w1 = .ok (.bool true) w1 :=
    fun w1 => run_eql_bytes w1 _ _ 24 Tryz.underlying44 Tryz.underlying5 (fun _ => by kernel_rfl) _ hel
  have hRr : (telErr s c o x y z = 0 ∧ GoodT s c o x y z ∧ encL ⟨s, c, o, x, y, z⟩ = frame s c o x y z) ∨ (telErr s c o x y z = 3 ∧ encL ⟨s, c, o, x, y, z⟩ = zero24) := by
    by_cases h : GoodT s c o x y z
    · exact .inl ⟨telErr_good h, h, encL_good (t := ⟨s, c, o, x, y, z⟩) h⟩
    · exact .inr ⟨telErr_bad h, encL_bad (t := ⟨s, c, o, x, y, z⟩) h⟩
  have kX : telErr s c o x y z = 0 → ∀ w1 : World, Calls Tryz.prog 23 #[.agg #[.int .i64 s, .int .i64 c, .int .i64 o, .int .i64 x, .int .i64 y, .int .i64 z]] w1 fun e w' => e = .returned (.agg ((encL ⟨s, c, o, x, y, z⟩).map (Value.int .u8)).toArray) ∧ Below w1.heap.size w1 w' := by
    intro h w1
    rcases hRr with ⟨_, hg, he⟩ | ⟨h3, _⟩
    · rw [he]; exact refEncode_any s c o x y z hg w1
    · omega
  have kZ : telErr s c o x y z ≠ 0 → (encL ⟨s, c, o, x, y, z⟩).map (Value.int .u8) = List.replicate 24 (Value.int .u8 0) := by
    intro h
    rcases hRr with ⟨h0, _, _⟩ | ⟨_, he⟩
    · exact absurd h0 h
    · rw [he]; rfl
  have hR03 : telErr s c o x y z = 0 ∨ telErr s c o x y z = 3 := hRr.elim (fun h => .inl h.1) (fun h => .inr h.1)
  clear hRr
  have one1 : ∀ u ∈ (encL ⟨s, c, o, x, y, z⟩).map (Value.int .u8), u.oneCell' = true := one_u8 _
  have VE24 : ((encL ⟨s, c, o, x, y, z⟩).map (Value.int .u8)).length = 24 := by rw [List.length_map]; exact hel
  have VF24 : (F.map (Value.int .u8)).length = 24 := by rw [List.length_map]; exact hF.1
  unfold Tel.err at KE
  simp only at KE
  obtain ⟨r, hr⟩ : ∃ r, telErr s c o x y z = r := ⟨_, rfl⟩
  obtain ⟨VE, hVE⟩ : ∃ V, (encL ⟨s, c, o, x, y, z⟩).map (Value.int .u8) = V := ⟨_, rfl⟩
  obtain ⟨VF, hVF⟩ : ∃ V, F.map (Value.int .u8) = V := ⟨_, rfl⟩
  obtain ⟨q, hq⟩ : ∃ q, decErr F = q := ⟨_, rfl⟩
  obtain ⟨d, hd⟩ : ∃ d, decTel F = d := ⟨_, rfl⟩
  obtain ⟨ds, dc, dd, dx, dy, dz⟩ := d
  rw [hr] at KE KC kX kZ hR03
  rw [hVE] at KE e108 kX kZ one1 VE24
  rw [hVF] at KD KG VF24 ⊢
  rw [hq, hd] at KD KG
  unfold Tel.agg at KD KG
  simp only at KD KG
  have KX := Lib.hid kX
  have KZ := Lib.hid kZ
  have H1 := Lib.hid one1
  have hiE : (Tryz.prog.info? 44).map (·.size) = some VE.toArray.size := by rw [size24]; simp [VE24]
  have hiF : (Tryz.prog.info? 44).map (·.size) = some VF.toArray.size := by rw [size24]; simp [VF24]
  have hiF2 : (Tryz.prog.info? 44).map (·.size) = some VF.length := by rw [size24, VF24]
  have HnN : n ≤ 100000 := by omega
  clear kX kZ one1 hr hVE hVF hq hd hel kR kQ hA hF ht
  have K0 : Kp w ((w.alloc (.cells #[.int .i64 s, .int .i64 c, .int .i64 o, .int .i64 x, .int .i64 y, .int .i64 z] 43)).alloc (.cells VF.toArray 44))
      [(w.heap.size + 1, .cells VF.toArray 44), (w.heap.size, .cells #[.int .i64 s, .int .i64 c, .int .i64 o, .int .i64 x, .int .i64 y, .int .i64 z] 43)] := by
    have h := ((Kp.none w).alloc (.cells #[.int .i64 s, .int .i64 c, .int .i64 o, .int .i64 x, .int .i64 y, .int .i64 z] 43)).alloc (.cells VF.toArray 44)
    simpa using h
  go_enter Tryz.func4, Tryz.ntmps4
  go_upto_region 1 with fail
  obtain ⟨W0, hW0⟩ : ∃ W0, (w.alloc (.cells #[.int .i64 s, .int .i64 c, .int .i64 o, .int .i64 x, .int .i64 y, .int .i64 z] 43)).alloc (.cells VF.toArray 44) = W0 := ⟨_, rfl⟩
  rw [hW0] at K0
  rw [hW0]
  have HK0 := Lib.hid K0
  clear hW0 K0
  have hg : (¬ ((400 : Int) < (n : Int))) ∨ ((400 : Int) < (n : Int) ∧ ((n : Int) != 12289) = false) := by
    rcases hn with h | h
    · exact .inl (by omega)
    · exact .inr ⟨by omega, by simp; omega⟩
  clear hn
  rcases hg with g1 | ⟨g1, g2⟩
  all_goals
    go_upto_region 5 with (first
      | (refine wpList_load_row rfl 43 (.tmp 3) rfl w.heap.size rfl 43 _ (0, 0) _ (HK0.out.2 _ (.tail _ (.head _))) Tryz.underlying43 rfl (by kernel_rfl) ?_)
      | (go_at_call 19; refine (KE.out _).mono ?_; rintro e w1 ⟨rfl, hb1⟩;
         have K1 := Lib.hid ((HK0.out.call hb1).alloc (.cells (List.replicate 24 (Value.int .u8 0)).toArray 44));
         have K2 := Lib.hid ((HK0.out.call hb1).stored (List.replicate 24 (Value.int .u8 0)).toArray VE.toArray 44); clear hb1)
      | (refine wpList_store_row rfl 44 (.tmp 7) (.tmp 33) rfl w1.heap.size rfl VE.toArray rfl 44 (List.replicate 24 (Value.int .u8 0)).toArray (K1.out.2 _ (.head _)) (by simp [VE24]) hiE (fun v hv => H1.out v hv) ?_)
      | (refine wpList_load_row rfl 44 (.tmp 4) rfl (w.heap.size + 1) rfl 44 _ (0, 0) _ (K2.out.2 _ (.tail _ (.head _))) Tryz.underlying44 rfl hiF ?_)
      | (go_at_call 20; refine (KD.out _).mono ?_; rintro e w2 ⟨rfl, hb2⟩;
         have K3 := Lib.hid ((K2.out.call hb2).alloc (.cells #[.int .i64 0, .int .i64 0, .int .i64 0, .int .i64 0, .int .i64 0, .int .i64 0] 48));
         have K4 := Lib.hid ((K2.out.call hb2).stored #[.int .i64 0, .int .i64 0, .int .i64 0, .int .i64 0, .int .i64 0, .int .i64 0] #[.int .i64 ds, .int .i64 dc, .int .i64 dd, .int .i64 dx, .int .i64 dy, .int .i64 dz] 48); clear hb2)
      | (refine wpList_store_row rfl 48 (.tmp 9) (.tmp 38) rfl w2.heap.size rfl #[.int .i64 ds, .int .i64 dc, .int .i64 dd, .int .i64 dx, .int .i64 dy, .int .i64 dz] rfl 48 #[.int .i64 0, .int .i64 0, .int .i64 0, .int .i64 0, .int .i64 0, .int .i64 0] (K3.out.2 _ (.head _)) (by rfl) (by kernel_rfl) (by simp [Value.oneCell']) ?_))
    obtain ⟨W5, hW5⟩ : ∃ W5, (w2.alloc (.cells #[.int .i64 0, .int .i64 0, .int .i64 0, .int .i64 0, .int .i64 0, .int .i64 0] 48)).setRow w2.heap.size #[.int .i64 ds, .int .i64 dc, .int .i64 dd, .int .i64 dx, .int .i64 dy, .int .i64 dz] = W5 := ⟨_, rfl⟩
    have K5 := K4.out
    rw [hW5] at K5 ⊢
    obtain ⟨l4, hl4⟩ : ∃ l, [(w2.heap.size, Obj.cells #[.int .i64 ds, .int .i64 dc, .int .i64 dd, .int .i64 dx, .int .i64 dy, .int .i64 dz] 48 (0, 0)), (w1.heap.size, .cells VE.toArray 44 (0, 0)), (w.heap.size + 1, .cells VF.toArray 44 (0, 0)), (w.heap.size, .cells #[.int .i64 s, .int .i64 c, .int .i64 o, .int .i64 x, .int .i64 y, .int .i64 z] 43 (0, 0))] = l := ⟨_, rfl⟩
    rw [hl4] at K5
    have HL4 := Lib.hid hl4
    have HK5 := Lib.hid K5
    have HA5 := Lib.hid (HA.out.kept K5.1)
    clear hW5 K5 hl4 K1 K2 K3 K4 HK0 KE KD
    go_cut [11, 12, 13] (fun s11 s12 s13 wc => ∃ a1 c1 a2 c2, s11 = .slice a1 L.length c1 ∧ s12 = .slice a2 P.length c2 ∧ s13 = .int .i64 E ∧ ∃ W6, W6 = wc ∧ AnyTels W6 a1 L.length L ∧ AnySpans W6 a2 P.length P ∧ Kp w W6 l4)
    case first =>
      have hC0 : (W5.alloc (.cells #[] 5)).ownsRow W5.heap.size 5 1 (.slice (some ⟨W5.heap.size, 0, none⟩) 0 0) 0 [] := by
        have h := World.ownsRow_made (base := W5.heap.size) (e := 5) (size := 1) W5 #[] 0 (by simp) (by unfold maxLen; omega) rfl
        simpa using h
      have HC0 := Lib.hid hC0
      have hB6 : Below W5.heap.size W5 (W5.alloc (.cells #[] 5)) := (Below.refl W5.heap.size W5).alloc (Nat.le_refl _) _
      have HB6 := Lib.hid hB6
      clear hC0 hB6
      cases a with
      | none =>
        obtain rfl : n = 0 := by
          rcases Nat.eq_zero_or_pos n with h | h
          · exact h
          · obtain ⟨b, q', e, _⟩ := HA5.out.2 0 h
            exact absurd e (by simp)
        have hAB : AnyBytes (W5.alloc (.cells #[] 5)) (some ⟨W5.heap.size, 0, none⟩) 0 S := ⟨HA5.out.1, fun j hj => absurd hj (Nat.not_lt_zero j)⟩
        have HAB := Lib.hid hAB
        clear hAB
        go_wp2_with (first
          | (at_builtin; (refine wpList_append_own_none rfl (.tmp 41) (.tmp 42) 45 rfl W5.heap.size 5 i0 1 Tryz.underlying45 hi (.slice (some ⟨W5.heap.size, 0, none⟩) 0 0) 0 [] rfl HC0.out rfl ?_))
          | (go_at_call 21; (refine (KR.out _ _ (Nat.le_refl _) (by omega) _ HAB.out).mono ?_); rintro e w7 ⟨a1, c1, a2, c2, rfl, hT, hQ, hb7⟩))
        go_meet
        exact ⟨a1, c1, a2, c2, rfl, rfl, rfl, _, rfl, hT, hQ, (HK5.out.call HB6.out).call hb7⟩
      | some ad =>
        have hln : (S.map (Value.int .u8)).length = n * 1 := by rw [List.length_map, HA5.out.1.1, Nat.mul_one]
        have hnw : ∀ j u, (S.map (Value.int .u8))[j]? = some u → (W5.alloc (.cells #[] 5)).cell? (ad.add j) = some u := by
          intro j u hu
          have hj : j < n := by have := (List.getElem?_eq_some_iff.1 hu).1; rw [hln] at this; omega
          obtain ⟨b, q', e, hb, hc⟩ := HA5.out.2 j hj
          cases e
          rw [Addr.add_mid]
          rw [HB6.out.cell (by exact hb)]
          exact hc j u hu
        have HLN := Lib.hid hln
        have HNW := Lib.hid hnw
        clear hln hnw
        go_wp2_with (first
          | (at_builtin; (refine wpList_append_own _ rfl (.tmp 41) (.tmp 42) 45 rfl W5.heap.size 5 i0 (.int .u8 0) 1 1 Tryz.underlying45 hi hz0 hz1 hz2 rfl (by decide) (.slice (some ⟨W5.heap.size, 0, none⟩) 0 0) 0 [] rfl HC0.out ad n cp (S.map (Value.int .u8)) rfl HLN.out HNW.out (one_u8 S) (by unfold maxLen; omega) (by omega) (by simp) ?_); intro v6 w6 hO6 hG6 _;
             have hb6 := HB6.out.grown hG6 (by simp) (fun q hq => by cases hq; exact Nat.le_refl _);
             rw [Nat.zero_add, List.nil_append] at hO6;
             obtain ⟨a6, c6, rfl, h6a, h6b, hA6⟩ := AnyBytes.of_row HA5.out.1 hO6)
          | (go_at_call 21; (refine (KR.out _ _ h6a h6b _ hA6).mono ?_); rintro e w7 ⟨a1, c1, a2, c2, rfl, hT, hQ, hb7⟩))
        go_meet
        exact ⟨a1, c1, a2, c2, rfl, rfl, rfl, _, rfl, hT, hQ, (HK5.out.call hb6).call hb7⟩
    case rest =>
      obtain ⟨a1, c1, a2, c2, rfl, rfl, rfl, W6, rfl, hT, hQ, hK6⟩ := hcut
      rw [← HL4.out] at hK6
      have HK6 := Lib.hid hK6
      have HT := Lib.hid hT
      have HQ := Lib.hid hQ
      clear hK6 hT hQ HK5 HL4 HA5 KR
      go_upto_if 51 with (first
        | (refine wpList_load_row rfl 43 (.tmp 3) rfl w.heap.size rfl 43 _ (0, 0) _ (HK6.out.2 _ (.tail _ (.tail _ (.tail _ (.head _))))) Tryz.underlying43 rfl (by kernel_rfl) ?_)
        | (go_at_call 22; refine (KC.out _).mono ?_; rintro e w8 ⟨rfl, hb8⟩;
           have hT8 := HT.out.kept hb8;
           have hQ8 := HQ.out.kept hb8;
           have hB9 := (Below.refl w8.heap.size w8).alloc (Nat.le_refl _) (.cells (List.replicate 24 (Value.int .u8 0)).toArray 44);
           have hK8 := (HK6.out.call hb8).alloc (.cells (List.replicate 24 (Value.int .u8 0)).toArray 44)))
      obtain ⟨W9, hW9⟩ : ∃ W9, w8.alloc (.cells (List.replicate 24 (Value.int .u8 0)).toArray 44) = W9 := ⟨_, rfl⟩
      rw [hW9] at hB9 hK8
      simp only [List.replicate] at hW9
      rw [hW9]
      have HG8 : Hid (w.heap.size ≤ w8.heap.size) := Lib.hid (Nat.le_trans HK6.out.1.size hb8.size)
      have HN8 : Hid (∀ p ∈ [(w2.heap.size, Obj.cells #[.int .i64 ds, .int .i64 dc, .int .i64 dd, .int .i64 dx, .int .i64 dy, .int .i64 dz] 48 (0, 0)), (w1.heap.size, .cells VE.toArray 44 (0, 0)), (w.heap.size + 1, .cells VF.toArray 44 (0, 0)), (w.heap.size, .cells #[.int .i64 s, .int .i64 c, .int .i64 o, .int .i64 x, .int .i64 y, .int .i64 z] 43 (0, 0))], p.1 ≠ w8.heap.size) :=
        Lib.hid fun p hp => Nat.ne_of_lt (lt_of_blk ((HK6.out.call hb8).2 p hp))
      have hz9 := hB9.size
      have HB9 := Lib.hid hB9
      have HT8 := Lib.hid hT8
      have HQ8 := Lib.hid hQ8
      have HK8 := Lib.hid hK8
      clear hW9 hT8 hQ8 hK8 hB9 hb8 HT HQ HK6 KC
      go_cut [14] (fun s14 wc => s14 = .int .i64 r ∧ ∃ W10, W10 = wc ∧ AnyTels W10 a1 L.length L ∧ AnySpans W10 a2 P.length P ∧ Kp w W10 ((w8.heap.size, .cells VE.toArray 44 (0, 0)) :: [(w2.heap.size, Obj.cells #[.int .i64 ds, .int .i64 dc, .int .i64 dd, .int .i64 dx, .int .i64 dy, .int .i64 dz] 48 (0, 0)), (w1.heap.size, .cells VE.toArray 44 (0, 0)), (w.heap.size + 1, .cells VF.toArray 44 (0, 0)), (w.heap.size, .cells #[.int .i64 s, .int .i64 c, .int .i64 o, .int .i64 x, .int .i64 y, .int .i64 z] 43 (0, 0))]))
      case first =>
        rcases hR03 with rfl | rfl
        · have KX0 := Lib.hid (KX.out rfl)
          go_wp2_with (first
            | (refine wpList_load_row rfl 43 (.tmp 3) rfl w.heap.size rfl 43 _ (0, 0) _ (HK8.out.2 _ (.tail _ (.tail _ (.tail _ (.tail _ (.head _)))))) Tryz.underlying43 rfl (by kernel_rfl) ?_)
            | (go_at_call 23; refine (KX0.out _).mono ?_; rintro e w10 ⟨rfl, hb10⟩; have K10 := Lib.hid (HK8.out.call hb10))
            | (refine wpList_store_row rfl 44 (.tmp 15) (.tmp 53) rfl w8.heap.size rfl VE.toArray rfl 44 (List.replicate 24 (Value.int .u8 0)).toArray (K10.out.2 _ (.head _)) (by simp [VE24]) hiE (fun v hv => H1.out v hv) ?_))
          go_meet
          have hz10 := hb10.size
          have hBX : Below w8.heap.size w8 (w10.setRow w8.heap.size VE.toArray) := (HB9.out.trans (hb10.mono hz9)).trans ((OnlyBlk.setRow w10 w8.heap.size VE.toArray).below (by omega) (Nat.le_refl _))
          exact ⟨rfl, _, rfl, HT8.out.kept hBX, HQ8.out.kept hBX, K10.out.setHead VE.toArray HG8.out HN8.out⟩
        · go_wp2_with fail
          go_meet
          have hk := HK8.out
          rw [← KZ.out (by decide)] at hk
          exact ⟨rfl, _, rfl, HT8.out.kept HB9.out, HQ8.out.kept HB9.out, hk⟩
      case rest =>
        obtain ⟨rfl, W10, rfl, hT, hQ, hK⟩ := hcut
        have HK := Lib.hid hK
        have HT := Lib.hid hT
        have HQ := Lib.hid hQ
        clear hT hQ hK HT8 HQ8 HK8 HB9 HG8 HN8 hR03 KX KZ
        go_wp2_with (first
          | (refine wpList_load_row rfl 44 (.tmp 4) rfl (w.heap.size + 1) rfl 44 _ (0, 0) _ (HK.out.2 _ (.tail _ (.tail _ (.tail _ (.head _))))) Tryz.underlying44 rfl hiF ?_)
          | (go_at_call 24; refine (KG.out _).mono ?_; rintro e w11 ⟨rfl, hb11⟩;
             have K11 := Lib.hid ((HK.out.call hb11).alloc (.cells #[.int .i64 0, .int .i64 0, .int .i64 0, .int .i64 0, .int .i64 0, .int .i64 0] 43));
             have K12 := Lib.hid ((HK.out.call hb11).stored #[.int .i64 0, .int .i64 0, .int .i64 0, .int .i64 0, .int .i64 0, .int .i64 0] #[.int .i64 ds, .int .i64 dc, .int .i64 dd, .int .i64 dx, .int .i64 dy, .int .i64 dz] 43);
             have T12 := Lib.hid ((HT.out.kept hb11).kept ((Kp.none w11).stored #[.int .i64 0, .int .i64 0, .int .i64 0, .int .i64 0, .int .i64 0, .int .i64 0] #[.int .i64 ds, .int .i64 dc, .int .i64 dd, .int .i64 dx, .int .i64 dy, .int .i64 dz] 43).1);
             have Q12 := Lib.hid ((HQ.out.kept hb11).kept ((Kp.none w11).stored #[.int .i64 0, .int .i64 0, .int .i64 0, .int .i64 0, .int .i64 0, .int .i64 0] #[.int .i64 ds, .int .i64 dc, .int .i64 dd, .int .i64 dx, .int .i64 dy, .int .i64 dz] 43).1); clear hb11)
          | (refine wpList_store_row rfl 43 (.tmp 16) (.tmp 57) rfl w11.heap.size rfl #[.int .i64 ds, .int .i64 dc, .int .i64 dd, .int .i64 dx, .int .i64 dy, .int .i64 dz] rfl 43 #[.int .i64 0, .int .i64 0, .int .i64 0, .int .i64 0, .int .i64 0, .int .i64 0] (K11.out.2 _ (.head _)) (by rfl) (by kernel_rfl) (by simp [Value.oneCell']) ?_)
          | (go_at_call 25; refine (KQ.out _ (HA.out.kept K12.out.1)).mono ?_; rintro e w13 ⟨b1, d1, b2, d2, rfl, hT13, hQ13, hb13⟩;
             have K13 := Lib.hid (K12.out.call hb13);
             have T13 := Lib.hid (T12.out.kept hb13);
             have Q13 := Lib.hid (Q12.out.kept hb13);
             have U13 := Lib.hid hT13; have V13 := Lib.hid hQ13; clear hb13 hT13 hQ13;
             obtain ⟨p0, p1, p2, p3, p4, p5⟩ := tel_cells6 (K13.out.2 _ (.tail _ (.tail _ (.head _))));
             obtain ⟨q0, q1, q2, q3, q4, q5⟩ := tel_cells6 (K13.out.2 _ (.head _)))
          | (refine wpList_load_row rfl 44 (.tmp 7) rfl w1.heap.size rfl 44 _ (0, 0) _ (K13.out.2 _ (.tail _ (.tail _ (.tail _ (.head _))))) Tryz.underlying44 rfl hiE ?_)
          | (refine wpList_load_row rfl 44 (.tmp 15) rfl w8.heap.size rfl 44 _ (0, 0) _ (K13.out.2 _ (.tail _ (.head _))) Tryz.underlying44 rfl hiE ?_)
          | (go_at_call 26; refine (sameTels_any L a1 b1 L.length c1 d1 _ hL T13.out U13.out).mono ?_; rintro e w14 ⟨rfl, hb14⟩;
             have K14 := Lib.hid (K13.out.call hb14); have Q14 := Lib.hid (Q13.out.kept hb14); have V14 := Lib.hid (V13.out.kept hb14); clear hb14)
          | (go_at_call 27; refine (sameSpans_any P a2 b2 P.length c2 d2 _ hP Q14.out V14.out).mono ?_; rintro e w15 ⟨rfl, hb15⟩;
             have K15 := Lib.hid (K14.out.call hb15); clear hb15)
          | (go_at_call 18; refine (KW.out _ K15.out.1).mono ?_; rintro e w16 ⟨rfl, hb16⟩))
        go_ret
        exact ⟨rfl, hb16⟩
end Go.Proofs.YthmaoeajbmfmaaaGreatDoor
