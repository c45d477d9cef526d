/-
  What both Receiveds give, in one contract.
-/
import Derived.Test.YtlnhgplloaiiiaaGreatDoorKHk
import Derived.Deep.CutBlock
import Derived.Deep.DeepCutAuto
import Derived.Test.YtlnhgplloaiiiaaGreatDoorKBl
import Derived.OpenShut
namespace Go.Proofs.YtlnhgplloaiiiaaGreatDoor
open Go.RowKit
set_option linter.unusedVariables false
set_option linter.unusedSimpArgs false

theorem rcv_len (S : List Int) (n : Nat) : ∀ (f k : Nat) (ts : List Tel) (sp : List (Int × Int)), (rcv S n f k ts sp).1.length ≤ ts.length + f ∧ (rcv S n f k ts sp).2.length ≤ sp.length + f
  | 0, _, _, _ => ⟨Nat.le_refl _, Nat.le_refl _⟩
  | f + 1, k, ts, sp => by
    rw [rcv]
    by_cases h : k < n
    · rw [if_pos h]
      by_cases ho : okAt S n k = true
      · rw [if_pos ho]
        have h1 := rcv_len S n f (k + 24) (ts ++ [telAt S n k]) sp
        rw [List.length_append] at h1
        simp only [List.length_cons, List.length_nil] at h1
        omega
      · rw [if_neg ho]
        have h1 := rcv_len S n f (k + 1) ts (extL sp k)
        have h2 := extL_len sp k
        omega
    · rw [if_neg h]
      exact ⟨Nat.le_add_right _ _, Nat.le_add_right _ _⟩

/-- Telegrams, spans and an error. -/
def RP (w1 : World) (L : List Tel) (P : List (Int × Int)) (E : Int) (e : Ending) (w' : World) : Prop :=
  ∃ a1 c1 a2 c2, e = .returned (.tuple #[.slice a1 L.length c1, .slice a2 P.length c2, .int .i64 E]) ∧ AnyTels w' a1 L.length L ∧ AnySpans w' a2 P.length P ∧ Below w1.heap.size w1 w'
theorem RP.long (w1 : World) : RP w1 [] [] 26 (.returned (.tuple #[.slice none 0 0, .slice none 0 0, .int .i64 26])) w1 :=
  ⟨none, 0, none, 0, rfl, ⟨rfl, fun j hj => absurd hj (Nat.not_lt_zero j)⟩, ⟨rfl, fun j hj => absurd hj (Nat.not_lt_zero j)⟩, Below.refl _ _⟩

theorem receiveds (S : List Int) (n : Nat) (hn : n ≤ 400 ∨ n = 12289) : ∃ (L : List Tel) (P : List (Int × Int)) (E : Int), L.length ≤ 13000 ∧ P.length ≤ 13000 ∧
    (∀ (a : Option Addr) (c : Nat), n ≤ c → c ≤ 9223372036854775807 → ∀ w1 : World, AnyBytes w1 a n S → Calls Tryz.prog 70 #[.slice a n c] w1 (RP w1 L P E)) ∧
    (∀ (a : Option Addr) (c : Nat) (w1 : World), AnyBytes w1 a n S → Calls Tryz.prog 74 #[.slice a n c] w1 (RP w1 L P E)) := by
  rcases hn with hn | rfl
  · have hl := rcv_len S n n 0 [] []
    refine ⟨rcvL S n, rcvP S n, 0, ?_, ?_, ?_, ?_⟩
    · have h : (rcvL S n).length ≤ 0 + n := hl.1
      omega
    · have h : (rcvP S n).length ≤ 0 + n := hl.2
      omega
    · intro a c h1 h2 w1 hA
      refine (received_all S a n c (by omega) h1 h2 w1 hA).mono ?_
      rintro e w' ⟨v1, v2, rfl, ho1, ho2, hb⟩
      obtain ⟨a1, c1, rfl, hT⟩ := AnyTels.of_row rfl ho1
      obtain ⟨a2, c2, rfl, hP⟩ := AnySpans.of_row ho2
      exact ⟨a1, c1, a2, c2, rfl, hT, hP, hb⟩
    · intro a c w1 hA
      refine (refReceived_all S a n c (by omega) w1 hA).mono ?_
      rintro e w' ⟨v1, v2, rfl, ho1, ho2, hb⟩
      obtain ⟨a1, c1, rfl, hT⟩ := AnyTels.of_rowR rfl ho1
      obtain ⟨a2, c2, rfl, hP⟩ := AnySpans.of_row ho2
      exact ⟨a1, c1, a2, c2, rfl, hT, hP, hb⟩
  · refine ⟨[], [], 26, by simp, by simp, ?_, ?_⟩
    · intro a c h1 h2 w1 hA
      refine (received_long a 12289 c (by omega) (by omega) w1).mono ?_
      rintro e w' ⟨rfl, rfl⟩
      exact RP.long _
    · intro a c w1 hA
      refine (refReceived_long a 12289 c (by omega) (by omega) w1).mono ?_
      rintro e w' ⟨rfl, rfl⟩
      exact RP.long _
end Go.Proofs.YtlnhgplloaiiiaaGreatDoor

/-
  The walk of LightTelegrams.
-/
namespace Go.Proofs.YtlnhgplloaiiiaaGreatDoor
open Go.RowKit Go.Shelf
set_option linter.unusedVariables false
set_option linter.unusedSimpArgs false

theorem run_eql_bytes {P : Program} (w : World) (t e : TypeId) (n : Nat) (ht : P.underlying t = some (.array n e)) (he : P.underlying e = some (.int .u8)) (hsz : ∀ w, (sizeOf e).run P w = .ok 1 w) (xs : List Int) (hx : xs.length = n) :
    (binOp .eql t (.agg (xs.map (Value.int .u8)).toArray) (.agg (xs.map (Value.int .u8)).toArray)).run P w = .ok (.bool true) w := by
  rw [run_eql_struct, run_equalIn_bytes w 9998 t e n ht he hsz xs xs hx hx]
  simp

theorem tel_cells6 {W : World} {B : Nat} {T : TypeId} {s c o x y z : Int} (h : W.heap[B]? = some (.cells #[.int .i64 s, .int .i64 c, .int .i64 o, .int .i64 x, .int .i64 y, .int .i64 z] T (0, 0))) :
    W.cell? ⟨B, 0, none⟩ = some (.int .i64 s) ∧ W.cell? ⟨B, 1, none⟩ = some (.int .i64 c) ∧ W.cell? ⟨B, 2, none⟩ = some (.int .i64 o) ∧ W.cell? ⟨B, 3, none⟩ = some (.int .i64 x) ∧ W.cell? ⟨B, 4, none⟩ = some (.int .i64 y) ∧ W.cell? ⟨B, 5, none⟩ = some (.int .i64 z) :=
  ⟨by rw [cell_of_row W B 0 _ _ (0, 0) h]; rfl, by rw [cell_of_row W B 1 _ _ (0, 0) h]; rfl, by rw [cell_of_row W B 2 _ _ (0, 0) h]; rfl, by rw [cell_of_row W B 3 _ _ (0, 0) h]; rfl, by rw [cell_of_row W B 4 _ _ (0, 0) h]; rfl, by rw [cell_of_row W B 5 _ _ (0, 0) h]; rfl⟩

set_option maxRecDepth 100000 in
set_option maxHeartbeats 12800000 in
theorem telegrams_walk (w : World) (s c o x y z : Int) (F : List Int) (hF : Bytes24 F) (S : List Int) (a : Option Addr) (n cp : Nat) (hn : n ≤ 400 ∨ n = 12289) (hA : AnyBytes w a n S) (ht : TabAt w) :
    Calls Tryz.prog 9 #[.agg #[.int .i64 s, .int .i64 c, .int .i64 o, .int .i64 x, .int .i64 y, .int .i64 z], .agg (F.map (Value.int .u8)).toArray, .slice a n cp] w (TruePost w) := by
  obtain ⟨i0, hi, hz0, hz1, hz2⟩ := info_parts Tryz.infoByte
  obtain ⟨L, P, E, hL, hP, kR, kQ⟩ := receiveds S n hn
  have KR := Lib.hid kR
  have KQ := Lib.hid (kQ a cp)
  have HA := Lib.hid hA
  have KW : Hid (∀ w1 : World, Below w.heap.size w w1 → Calls Tryz.prog 13 #[] w1 fun e w' => e = .returned (.bool true) ∧ Below w.heap.size w w') :=
    Lib.hid fun w1 h => (awake_any w1 (ht.on h)).mono fun e w' ⟨he, hb⟩ => ⟨he, h.trans (hb.mono h.size)⟩
  have KE := Lib.hid (encode_all ⟨s, c, o, x, y, z⟩)
  have KC := Lib.hid (refCheckTelegram_all s c o x y z)
  have KD := Lib.hid (decode_all F hF)
  have KG := Lib.hid (refDecode_all F hF)
  have hel := encL_len ⟨s, c, o, x, y, z⟩
  have e108 : ∀ w1, (binOp .eql 108 (.agg ((encL ⟨s, c, o, x, y, z⟩).map (Value.int .u8)).toArray) (.agg ((encL ⟨s, c, o, x, y, z⟩).map (Value.int .u8)).toArray)).run Tryz.prog w1 = .ok (.bool true) w1 :=
    fun w1 => run_eql_bytes w1 _ _ 24 Tryz.underlying108 Tryz.underlying5 (fun _ => by kernel_rfl) _ hel
  have hRr : (telErr s c o x y z = 0 ∧ GoodT s c o x y z ∧ encL ⟨s, c, o, x, y, z⟩ = frame s c o x y z) ∨ (telErr s c o x y z = 3 ∧ encL ⟨s, c, o, x, y, z⟩ = zero24) := by
    by_cases h : GoodT s c o x y z
    · exact .inl ⟨telErr_good h, h, encL_good (t := ⟨s, c, o, x, y, z⟩) h⟩
    · exact .inr ⟨telErr_bad h, encL_bad (t := ⟨s, c, o, x, y, z⟩) h⟩
  have kX : telErr s c o x y z = 0 → ∀ w1 : World, Calls Tryz.prog 72 #[.agg #[.int .i64 s, .int .i64 c, .int .i64 o, .int .i64 x, .int .i64 y, .int .i64 z]] w1 fun e w' => e = .returned (.agg ((encL ⟨s, c, o, x, y, z⟩).map (Value.int .u8)).toArray) ∧ Below w1.heap.size w1 w' := by
    intro h w1
    rcases hRr with ⟨_, hg, he⟩ | ⟨h3, _⟩
    · rw [he]; exact refEncode_any s c o x y z hg w1
    · omega
  have kZ : telErr s c o x y z ≠ 0 → (encL ⟨s, c, o, x, y, z⟩).map (Value.int .u8) = List.replicate 24 (Value.int .u8 0) := by
    intro h
    rcases hRr with ⟨h0, _, _⟩ | ⟨_, he⟩
    · exact absurd h0 h
    · rw [he]; rfl
  have hR03 : telErr s c o x y z = 0 ∨ telErr s c o x y z = 3 := hRr.elim (fun h => .inl h.1) (fun h => .inr h.1)
  clear hRr
  have one1 : ∀ u ∈ (encL ⟨s, c, o, x, y, z⟩).map (Value.int .u8), u.oneCell' = true := one_u8 _
  have VE24 : ((encL ⟨s, c, o, x, y, z⟩).map (Value.int .u8)).length = 24 := by rw [List.length_map]; exact hel
  have VF24 : (F.map (Value.int .u8)).length = 24 := by rw [List.length_map]; exact hF.1
  unfold Tel.err at KE
  simp only at KE
  obtain ⟨r, hr⟩ : ∃ r, telErr s c o x y z = r := ⟨_, rfl⟩
  obtain ⟨VE, hVE⟩ : ∃ V, (encL ⟨s, c, o, x, y, z⟩).map (Value.int .u8) = V := ⟨_, rfl⟩
  obtain ⟨VF, hVF⟩ : ∃ V, F.map (Value.int .u8) = V := ⟨_, rfl⟩
  obtain ⟨q, hq⟩ : ∃ q, decErr F = q := ⟨_, rfl⟩
  obtain ⟨d, hd⟩ : ∃ d, decTel F = d := ⟨_, rfl⟩
  obtain ⟨ds, dc, dd, dx, dy, dz⟩ := d
  rw [hr] at KE KC kX kZ hR03
  rw [hVE] at KE e108 kX kZ one1 VE24
  rw [hVF] at KD KG VF24 ⊢
  rw [hq, hd] at KD KG
  unfold Tel.agg at KD KG
  simp only at KD KG
  have KX := Lib.hid kX
  have KZ := Lib.hid kZ
  have H1 := Lib.hid one1
  have hiE : (Tryz.prog.info? 108).map (·.size) = some VE.toArray.size := by rw [size24]; simp [VE24]
  have hiF : (Tryz.prog.info? 108).map (·.size) = some VF.toArray.size := by rw [size24]; simp [VF24]
  have hiF2 : (Tryz.prog.info? 108).map (·.size) = some VF.length := by rw [size24, VF24]
  have HnN : n ≤ 100000 := by omega
  clear kX kZ one1 hr hVE hVF hq hd hel kR kQ hA hF ht
  have K0 : Kp w ((w.alloc (.cells #[.int .i64 s, .int .i64 c, .int .i64 o, .int .i64 x, .int .i64 y, .int .i64 z] 107)).alloc (.cells VF.toArray 108))
      [(w.heap.size + 1, .cells VF.toArray 108), (w.heap.size, .cells #[.int .i64 s, .int .i64 c, .int .i64 o, .int .i64 x, .int .i64 y, .int .i64 z] 107)] := by
    have h := ((Kp.none w).alloc (.cells #[.int .i64 s, .int .i64 c, .int .i64 o, .int .i64 x, .int .i64 y, .int .i64 z] 107)).alloc (.cells VF.toArray 108)
    simpa using h
  go_enter Tryz.func9, Tryz.ntmps9
  go_upto_region 1 with fail
  obtain ⟨W0, hW0⟩ : ∃ W0, (w.alloc (.cells #[.int .i64 s, .int .i64 c, .int .i64 o, .int .i64 x, .int .i64 y, .int .i64 z] 107)).alloc (.cells VF.toArray 108) = W0 := ⟨_, rfl⟩
  rw [hW0] at K0
  rw [hW0]
  have HK0 := Lib.hid K0
  clear hW0 K0
  have hg : (¬ ((400 : Int) < (n : Int))) ∨ ((400 : Int) < (n : Int) ∧ ((n : Int) != 12289) = false) := by
    rcases hn with h | h
    · exact .inl (by omega)
    · exact .inr ⟨by omega, by simp; omega⟩
  clear hn
  rcases hg with g1 | ⟨g1, g2⟩
  all_goals
    go_upto_region 5 with (first
      | (refine wpList_load_row rfl 107 (.tmp 3) rfl w.heap.size rfl 107 _ (0, 0) _ (HK0.out.2 _ (.tail _ (.head _))) Tryz.underlying107 rfl (by kernel_rfl) ?_)
      | (go_at_call 68; refine (KE.out _).mono ?_; rintro e w1 ⟨rfl, hb1⟩;
         have K1 := Lib.hid ((HK0.out.call hb1).alloc (.cells (List.replicate 24 (Value.int .u8 0)).toArray 108));
         have K2 := Lib.hid ((HK0.out.call hb1).stored (List.replicate 24 (Value.int .u8 0)).toArray VE.toArray 108); clear hb1)
      | (refine wpList_store_row rfl 108 (.tmp 7) (.tmp 33) rfl w1.heap.size rfl VE.toArray rfl 108 (List.replicate 24 (Value.int .u8 0)).toArray (K1.out.2 _ (.head _)) (by simp [VE24]) hiE (fun v hv => H1.out v hv) ?_)
      | (refine wpList_load_row rfl 108 (.tmp 4) rfl (w.heap.size + 1) rfl 108 _ (0, 0) _ (K2.out.2 _ (.tail _ (.head _))) Tryz.underlying108 rfl hiF ?_)
      | (go_at_call 69; refine (KD.out _).mono ?_; rintro e w2 ⟨rfl, hb2⟩;
         have K3 := Lib.hid ((K2.out.call hb2).alloc (.cells #[.int .i64 0, .int .i64 0, .int .i64 0, .int .i64 0, .int .i64 0, .int .i64 0] 112));
         have K4 := Lib.hid ((K2.out.call hb2).stored #[.int .i64 0, .int .i64 0, .int .i64 0, .int .i64 0, .int .i64 0, .int .i64 0] #[.int .i64 ds, .int .i64 dc, .int .i64 dd, .int .i64 dx, .int .i64 dy, .int .i64 dz] 112); clear hb2)
      | (refine wpList_store_row rfl 112 (.tmp 9) (.tmp 38) rfl w2.heap.size rfl #[.int .i64 ds, .int .i64 dc, .int .i64 dd, .int .i64 dx, .int .i64 dy, .int .i64 dz] rfl 112 #[.int .i64 0, .int .i64 0, .int .i64 0, .int .i64 0, .int .i64 0, .int .i64 0] (K3.out.2 _ (.head _)) (by rfl) (by kernel_rfl) (by simp [Value.oneCell']) ?_))
    obtain ⟨W5, hW5⟩ : ∃ W5, (w2.alloc (.cells #[.int .i64 0, .int .i64 0, .int .i64 0, .int .i64 0, .int .i64 0, .int .i64 0] 112)).setRow w2.heap.size #[.int .i64 ds, .int .i64 dc, .int .i64 dd, .int .i64 dx, .int .i64 dy, .int .i64 dz] = W5 := ⟨_, rfl⟩
    have K5 := K4.out
    rw [hW5] at K5 ⊢
    obtain ⟨l4, hl4⟩ : ∃ l, [(w2.heap.size, Obj.cells #[.int .i64 ds, .int .i64 dc, .int .i64 dd, .int .i64 dx, .int .i64 dy, .int .i64 dz] 112 (0, 0)), (w1.heap.size, .cells VE.toArray 108 (0, 0)), (w.heap.size + 1, .cells VF.toArray 108 (0, 0)), (w.heap.size, .cells #[.int .i64 s, .int .i64 c, .int .i64 o, .int .i64 x, .int .i64 y, .int .i64 z] 107 (0, 0))] = l := ⟨_, rfl⟩
    rw [hl4] at K5
    have HL4 := Lib.hid hl4
    have HK5 := Lib.hid K5
    have HA5 := Lib.hid (HA.out.kept K5.1)
    clear hW5 K5 hl4 K1 K2 K3 K4 HK0 KE KD
    go_cut [11, 12, 13] (fun s11 s12 s13 wc => ∃ a1 c1 a2 c2, s11 = .slice a1 L.length c1 ∧ s12 = .slice a2 P.length c2 ∧ s13 = .int .i64 E ∧ ∃ W6, W6 = wc ∧ AnyTels W6 a1 L.length L ∧ AnySpans W6 a2 P.length P ∧ Kp w W6 l4)
    case first =>
      have hC0 : (W5.alloc (.cells #[] 5)).ownsRow W5.heap.size 5 1 (.slice (some ⟨W5.heap.size, 0, none⟩) 0 0) 0 [] := by
        have h := World.ownsRow_made (base := W5.heap.size) (e := 5) (size := 1) W5 #[] 0 (by simp) (by unfold maxLen; omega) rfl
        simpa using h
      have HC0 := Lib.hid hC0
      have hB6 : Below W5.heap.size W5 (W5.alloc (.cells #[] 5)) := (Below.refl W5.heap.size W5).alloc (Nat.le_refl _) _
      have HB6 := Lib.hid hB6
      clear hC0 hB6
      cases a with
      | none =>
        obtain rfl : n = 0 := by
          rcases Nat.eq_zero_or_pos n with h | h
          · exact h
          · obtain ⟨b, q', e, _⟩ := HA5.out.2 0 h
            exact absurd e (by simp)
        have hAB : AnyBytes (W5.alloc (.cells #[] 5)) (some ⟨W5.heap.size, 0, none⟩) 0 S := ⟨HA5.out.1, fun j hj => absurd hj (Nat.not_lt_zero j)⟩
        have HAB := Lib.hid hAB
        clear hAB
        go_wp2_with (first
          | (at_builtin; (refine wpList_append_own_none rfl (.tmp 41) (.tmp 42) 109 rfl W5.heap.size 5 i0 1 Tryz.underlying109 hi (.slice (some ⟨W5.heap.size, 0, none⟩) 0 0) 0 [] rfl HC0.out rfl ?_))
          | (go_at_call 70; (refine (KR.out _ _ (Nat.le_refl _) (by omega) _ HAB.out).mono ?_); rintro e w7 ⟨a1, c1, a2, c2, rfl, hT, hQ, hb7⟩))
        go_meet
        exact ⟨a1, c1, a2, c2, rfl, rfl, rfl, _, rfl, hT, hQ, (HK5.out.call HB6.out).call hb7⟩
      | some ad =>
        have hln : (S.map (Value.int .u8)).length = n * 1 := by rw [List.length_map, HA5.out.1.1, Nat.mul_one]
        have hnw : ∀ j u, (S.map (Value.int .u8))[j]? = some u → (W5.alloc (.cells #[] 5)).cell? (ad.add j) = some u := by
          intro j u hu
          have hj : j < n := by have := (List.getElem?_eq_some_iff.1 hu).1; rw [hln] at this; omega
          obtain ⟨b, q', e, hb, hc⟩ := HA5.out.2 j hj
          cases e
          rw [Addr.add_mid]
          rw [HB6.out.cell (by exact hb)]
          exact hc j u hu
        have HLN := Lib.hid hln
        have HNW := Lib.hid hnw
        clear hln hnw
        go_wp2_with (first
          | (at_builtin; (refine wpList_append_own _ rfl (.tmp 41) (.tmp 42) 109 rfl W5.heap.size 5 i0 (.int .u8 0) 1 1 Tryz.underlying109 hi hz0 hz1 hz2 rfl (by decide) (.slice (some ⟨W5.heap.size, 0, none⟩) 0 0) 0 [] rfl HC0.out ad n cp (S.map (Value.int .u8)) rfl HLN.out HNW.out (one_u8 S) (by unfold maxLen; omega) (by omega) (by simp) ?_); intro v6 w6 hO6 hG6 _;
             have hb6 := HB6.out.grown hG6 (by simp) (fun q hq => by cases hq; exact Nat.le_refl _);
             rw [Nat.zero_add, List.nil_append] at hO6;
             obtain ⟨a6, c6, rfl, h6a, h6b, hA6⟩ := AnyBytes.of_row HA5.out.1 hO6)
          | (go_at_call 70; (refine (KR.out _ _ h6a h6b _ hA6).mono ?_); rintro e w7 ⟨a1, c1, a2, c2, rfl, hT, hQ, hb7⟩))
        go_meet
        exact ⟨a1, c1, a2, c2, rfl, rfl, rfl, _, rfl, hT, hQ, (HK5.out.call hb6).call hb7⟩
    case rest =>
      obtain ⟨a1, c1, a2, c2, rfl, rfl, rfl, W6, rfl, hT, hQ, hK6⟩ := hcut
      rw [← HL4.out] at hK6
      have HK6 := Lib.hid hK6
      have HT := Lib.hid hT
      have HQ := Lib.hid hQ
      clear hK6 hT hQ HK5 HL4 HA5 KR
      go_upto_if 51 with (first
        | (refine wpList_load_row rfl 107 (.tmp 3) rfl w.heap.size rfl 107 _ (0, 0) _ (HK6.out.2 _ (.tail _ (.tail _ (.tail _ (.head _))))) Tryz.underlying107 rfl (by kernel_rfl) ?_)
        | (go_at_call 71; refine (KC.out _).mono ?_; rintro e w8 ⟨rfl, hb8⟩;
           have hT8 := HT.out.kept hb8;
           have hQ8 := HQ.out.kept hb8;
           have hB9 := (Below.refl w8.heap.size w8).alloc (Nat.le_refl _) (.cells (List.replicate 24 (Value.int .u8 0)).toArray 108);
           have hK8 := (HK6.out.call hb8).alloc (.cells (List.replicate 24 (Value.int .u8 0)).toArray 108)))
      obtain ⟨W9, hW9⟩ : ∃ W9, w8.alloc (.cells (List.replicate 24 (Value.int .u8 0)).toArray 108) = W9 := ⟨_, rfl⟩
      rw [hW9] at hB9 hK8
      simp only [List.replicate] at hW9
      rw [hW9]
      have HG8 : Hid (w.heap.size ≤ w8.heap.size) := Lib.hid (Nat.le_trans HK6.out.1.size hb8.size)
      have HN8 : Hid (∀ p ∈ [(w2.heap.size, Obj.cells #[.int .i64 ds, .int .i64 dc, .int .i64 dd, .int .i64 dx, .int .i64 dy, .int .i64 dz] 112 (0, 0)), (w1.heap.size, .cells VE.toArray 108 (0, 0)), (w.heap.size + 1, .cells VF.toArray 108 (0, 0)), (w.heap.size, .cells #[.int .i64 s, .int .i64 c, .int .i64 o, .int .i64 x, .int .i64 y, .int .i64 z] 107 (0, 0))], p.1 ≠ w8.heap.size) :=
        Lib.hid fun p hp => Nat.ne_of_lt (lt_of_blk ((HK6.out.call hb8).2 p hp))
      have hz9 := hB9.size
      have HB9 := Lib.hid hB9
      have HT8 := Lib.hid hT8
      have HQ8 := Lib.hid hQ8
      have HK8 := Lib.hid hK8
      clear hW9 hT8 hQ8 hK8 hB9 hb8 HT HQ HK6 KC
      go_cut [14] (fun s14 wc => s14 = .int .i64 r ∧ ∃ W10, W10 = wc ∧ AnyTels W10 a1 L.length L ∧ AnySpans W10 a2 P.length P ∧ Kp w W10 ((w8.heap.size, .cells VE.toArray 108 (0, 0)) :: [(w2.heap.size, Obj.cells #[.int .i64 ds, .int .i64 dc, .int .i64 dd, .int .i64 dx, .int .i64 dy, .int .i64 dz] 112 (0, 0)), (w1.heap.size, .cells VE.toArray 108 (0, 0)), (w.heap.size + 1, .cells VF.toArray 108 (0, 0)), (w.heap.size, .cells #[.int .i64 s, .int .i64 c, .int .i64 o, .int .i64 x, .int .i64 y, .int .i64 z] 107 (0, 0))]))
      case first =>
        rcases hR03 with rfl | rfl
        · have KX0 := Lib.hid (KX.out rfl)
          go_wp2_with (first
            | (refine wpList_load_row rfl 107 (.tmp 3) rfl w.heap.size rfl 107 _ (0, 0) _ (HK8.out.2 _ (.tail _ (.tail _ (.tail _ (.tail _ (.head _)))))) Tryz.underlying107 rfl (by kernel_rfl) ?_)
            | (go_at_call 72; refine (KX0.out _).mono ?_; rintro e w10 ⟨rfl, hb10⟩; have K10 := Lib.hid (HK8.out.call hb10))
            | (refine wpList_store_row rfl 108 (.tmp 15) (.tmp 53) rfl w8.heap.size rfl VE.toArray rfl 108 (List.replicate 24 (Value.int .u8 0)).toArray (K10.out.2 _ (.head _)) (by simp [VE24]) hiE (fun v hv => H1.out v hv) ?_))
          go_meet
          have hz10 := hb10.size
          have hBX : Below w8.heap.size w8 (w10.setRow w8.heap.size VE.toArray) := (HB9.out.trans (hb10.mono hz9)).trans ((OnlyBlk.setRow w10 w8.heap.size VE.toArray).below (by omega) (Nat.le_refl _))
          exact ⟨rfl, _, rfl, HT8.out.kept hBX, HQ8.out.kept hBX, K10.out.setHead VE.toArray HG8.out HN8.out⟩
        · go_wp2_with fail
          go_meet
          have hk := HK8.out
          rw [← KZ.out (by decide)] at hk
          exact ⟨rfl, _, rfl, HT8.out.kept HB9.out, HQ8.out.kept HB9.out, hk⟩
      case rest =>
        obtain ⟨rfl, W10, rfl, hT, hQ, hK⟩ := hcut
        have HK := Lib.hid hK
        have HT := Lib.hid hT
        have HQ := Lib.hid hQ
        clear hT hQ hK HT8 HQ8 HK8 HB9 HG8 HN8 hR03 KX KZ
        go_wp2_with (first
          | (refine wpList_load_row rfl 108 (.tmp 4) rfl (w.heap.size + 1) rfl 108 _ (0, 0) _ (HK.out.2 _ (.tail _ (.tail _ (.tail _ (.head _))))) Tryz.underlying108 rfl hiF ?_)
          | (go_at_call 73; refine (KG.out _).mono ?_; rintro e w11 ⟨rfl, hb11⟩;
             have K11 := Lib.hid ((HK.out.call hb11).alloc (.cells #[.int .i64 0, .int .i64 0, .int .i64 0, .int .i64 0, .int .i64 0, .int .i64 0] 107));
             have K12 := Lib.hid ((HK.out.call hb11).stored #[.int .i64 0, .int .i64 0, .int .i64 0, .int .i64 0, .int .i64 0, .int .i64 0] #[.int .i64 ds, .int .i64 dc, .int .i64 dd, .int .i64 dx, .int .i64 dy, .int .i64 dz] 107);
             have T12 := Lib.hid ((HT.out.kept hb11).kept ((Kp.none w11).stored #[.int .i64 0, .int .i64 0, .int .i64 0, .int .i64 0, .int .i64 0, .int .i64 0] #[.int .i64 ds, .int .i64 dc, .int .i64 dd, .int .i64 dx, .int .i64 dy, .int .i64 dz] 107).1);
             have Q12 := Lib.hid ((HQ.out.kept hb11).kept ((Kp.none w11).stored #[.int .i64 0, .int .i64 0, .int .i64 0, .int .i64 0, .int .i64 0, .int .i64 0] #[.int .i64 ds, .int .i64 dc, .int .i64 dd, .int .i64 dx, .int .i64 dy, .int .i64 dz] 107).1); clear hb11)
          | (refine wpList_store_row rfl 107 (.tmp 16) (.tmp 57) rfl w11.heap.size rfl #[.int .i64 ds, .int .i64 dc, .int .i64 dd, .int .i64 dx, .int .i64 dy, .int .i64 dz] rfl 107 #[.int .i64 0, .int .i64 0, .int .i64 0, .int .i64 0, .int .i64 0, .int .i64 0] (K11.out.2 _ (.head _)) (by rfl) (by kernel_rfl) (by simp [Value.oneCell']) ?_)
          | (go_at_call 74; refine (KQ.out _ (HA.out.kept K12.out.1)).mono ?_; rintro e w13 ⟨b1, d1, b2, d2, rfl, hT13, hQ13, hb13⟩;
             have K13 := Lib.hid (K12.out.call hb13);
             have T13 := Lib.hid (T12.out.kept hb13);
             have Q13 := Lib.hid (Q12.out.kept hb13);
             have U13 := Lib.hid hT13; have V13 := Lib.hid hQ13; clear hb13 hT13 hQ13;
             obtain ⟨p0, p1, p2, p3, p4, p5⟩ := tel_cells6 (K13.out.2 _ (.tail _ (.tail _ (.head _))));
             obtain ⟨q0, q1, q2, q3, q4, q5⟩ := tel_cells6 (K13.out.2 _ (.head _)))
          | (refine wpList_load_row rfl 108 (.tmp 7) rfl w1.heap.size rfl 108 _ (0, 0) _ (K13.out.2 _ (.tail _ (.tail _ (.tail _ (.head _))))) Tryz.underlying108 rfl hiE ?_)
          | (refine wpList_load_row rfl 108 (.tmp 15) rfl w8.heap.size rfl 108 _ (0, 0) _ (K13.out.2 _ (.tail _ (.head _))) Tryz.underlying108 rfl hiE ?_)
          | (go_at_call 75; refine (sameTels_any L a1 b1 L.length c1 d1 _ hL T13.out U13.out).mono ?_; rintro e w14 ⟨rfl, hb14⟩;
             have K14 := Lib.hid (K13.out.call hb14); have Q14 := Lib.hid (Q13.out.kept hb14); have V14 := Lib.hid (V13.out.kept hb14); clear hb14)
          | (go_at_call 76; refine (sameSpans_any P a2 b2 P.length c2 d2 _ hP Q14.out V14.out).mono ?_; rintro e w15 ⟨rfl, hb15⟩;
             have K15 := Lib.hid (K14.out.call hb15); clear hb15)
          | (go_at_call 13; refine (KW.out _ K15.out.1).mono ?_; rintro e w16 ⟨rfl, hb16⟩))
        go_ret
        exact ⟨rfl, hb16⟩
end Go.Proofs.YtlnhgplloaiiiaaGreatDoor

/-
  Arguments that are slices of telegrams, opened.
-/
namespace Go.Proofs.YtlnhgplloaiiiaaGreatDoor
open Go.ChangeShapes Go.WideShapes Go.ChangeAt Go.RowKit Go.Joins Go.Deep
set_option linter.unusedVariables false
set_option maxRecDepth 100000

theorem cellsVec : Tryz.prog.cellsOf 36 = 3 := by kernel_rfl
theorem cellsTel : Tryz.prog.cellsOf 107 = 6 := by kernel_rfl
theorem list6 {α : Type} {l : List α} (h : l.length = 6) : ∃ a b c d e f, l = [a, b, c, d, e, f] := by
  match l, h with
  | [a, b, c, d, e, f], _ => exact ⟨a, b, c, d, e, f, rfl⟩

theorem tel_form {H : Type} {enc : TypeId × Value → H} {W : World} {sp : Nat → Bool} {k : Nat} {cs : List Value} {x : DataW H × List MemPlace} (hl : cs.length = 6)
    (h : DataW.trod enc Tryz.prog W 0 sp true k 107 cs = some x) : ∃ t : Tel, cs = t.val := by
  obtain ⟨c0, c1, c2, c3, c4, c5, rfl⟩ := list6 hl
  have e1 : Tryz.prog.cellsOf 3 = 1 := cellsInt
  have e3 : Tryz.prog.cellsOf 36 = 3 := cellsVec
  obtain ⟨y0, y1, y2, y3, n, _, _, h0, h1, h2, h3⟩ := trod_struct4 Tryz.underlying107 h
  simp only [e1, e3] at h0 h1 h2 h3
  obtain ⟨X0, q0, _, _⟩ := DataW.trod_int Tryz.underlying3 h0
  obtain ⟨X1, q1, _, _⟩ := DataW.trod_int Tryz.underlying3 h1
  obtain ⟨X2, q2, _, _⟩ := DataW.trod_int Tryz.underlying3 h2
  obtain ⟨xs, m, _, _, _, hlen, hf⟩ := DataW.trod_struct Tryz.underlying36 h3
  match xs, hlen with
  | [z0, z1, z2], _ =>
    have g0 : DataW.trod enc Tryz.prog W 0 sp true m 3 (([c3, c4, c5].drop 0).take (Tryz.prog.cellsOf 3)) = some z0 := hf 0 _ rfl
    have g1 : DataW.trod enc Tryz.prog W 0 sp true m 3 (([c3, c4, c5].drop 1).take (Tryz.prog.cellsOf 3)) = some z1 := hf 1 _ rfl
    have g2 : DataW.trod enc Tryz.prog W 0 sp true m 3 (([c3, c4, c5].drop 2).take (Tryz.prog.cellsOf 3)) = some z2 := hf 2 _ rfl
    rw [e1] at g0 g1 g2
    obtain ⟨X3, q3, _, _⟩ := DataW.trod_int Tryz.underlying3 g0
    obtain ⟨X4, q4, _, _⟩ := DataW.trod_int Tryz.underlying3 g1
    obtain ⟨X5, q5, _, _⟩ := DataW.trod_int Tryz.underlying3 g2
    simp at q0 q1 q2 q3 q4 q5
    subst q0 q1 q2 q3 q4 q5
    exact ⟨⟨X0, X1, X2, X3, X4, X5⟩, rfl⟩

instance : Inhabited Tel := ⟨tel0⟩

theorem openTels {H : Type} {enc : TypeId × Value → H} {W : World} {b0 : Nat} {v : Value} {d : DataW H} {p : List MemPlace}
    (hv : Value.okWide Tryz.prog W .any b0 123 v) (h : DataW.Trod enc Tryz.prog W 0 (fun _ => true) true 123 v d p) :
    ∃ (a : Option Addr) (n c : Nat) (L : List Tel), v = .slice a n c ∧ n ≤ maxLen ∧ AnyTels W a n L := by
  obtain ⟨a, n, c, rfl⟩ := okWide_slice Tryz.underlying123 hv
  obtain ⟨fuel, hf⟩ := h
  rcases open_slice Tryz.underlying123 hf with ⟨hcs, _⟩ | ⟨a, n, c, m, k, D, Pl, hcs, _, hl, hm, hmm, _, hx⟩
  · simp [Value.cells] at hcs
    obtain ⟨rfl, rfl, rfl⟩ := hcs
    exact ⟨none, 0, 0, [], rfl, by unfold maxLen; omega, rfl, fun j hj => absurd hj (by omega)⟩
  · simp [Value.cells] at hcs
    obtain ⟨rfl, rfl, rfl⟩ := hcs
    have hnm : n ≤ m := by rw [hmm]; simp; exact hl
    rw [cellsTel] at hx
    obtain ⟨T, hT⟩ := choose_lt (α := Tel) (p := fun i t => ∀ j u, t.val[j]? = some u → W.cell? ((a.add (i * 6)).add j) = some u) (n := n) (fun i hi => by
      obtain ⟨cs', h1, h2⟩ := hx i (by omega)
      obtain ⟨_, hlen, hc⟩ := World.cells?_some h1
      obtain ⟨t, rfl⟩ := tel_form hlen h2
      exact ⟨t, fun j u hu => (hc j (by have := (List.getElem?_eq_some_iff.1 hu).1; omega)).trans hu⟩)
    refine ⟨_, _, _, (List.range n).map T, rfl, Nat.le_trans hl hm, by simp, fun j hj => ?_⟩
    have h0 := hT 0 (by omega) 0 _ rfl
    have hpl := plain_at (a := a) (by simpa [Addr.add] using h0)
    refine ⟨a.block, a.off, by rw [← hpl.1], hpl.2, fun i hi j u hu => ?_⟩
    have hi2 : i < n := by simpa using hi
    have e : ((List.range n).map T)[i]?.getD tel0 = T i := by rw [List.getElem?_map, List.getElem?_range hi2]; rfl
    rw [e] at hu
    have h := hT i hi2 j u hu
    rw [hpl.1] at h
    simp only [Addr.add_mid] at h
    exact h
end Go.Proofs.YtlnhgplloaiiiaaGreatDoor

/-
  LightTelegrams returns true for all arguments; arguments that are bytes or a telegram, opened.
-/
namespace Go.Proofs.YtlnhgplloaiiiaaGreatDoor
open Go.ChangeShapes Go.WideShapes Go.ChangeAt Go.RowKit Go.Joins Go.Deep
set_option linter.unusedVariables false
set_option maxRecDepth 100000

theorem byte_of {z : Int} (h : (Lit.int .u8 z).wf = true) : 0 ≤ z ∧ z ≤ 255 := by
  have e0 : IntKind.u8.min = 0 := by rfl
  have e1 : IntKind.u8.max = 255 := by rfl
  simp only [Lit.wf, Bool.and_eq_true, decide_eq_true_eq, e0, e1] at h
  exact h

theorem cellsByte : Tryz.prog.cellsOf 5 = 1 := by kernel_rfl
theorem cellsFrame : Tryz.prog.cellsOf 108 = 24 := by kernel_rfl

theorem openFrame {H : Type} {enc : TypeId × Value → H} {W : World} {b0 : Nat} {v : Value} {d : DataW H} {p : List MemPlace}
    (hv : Value.okWide Tryz.prog W .any b0 108 v) (h : DataW.Trod enc Tryz.prog W 0 (fun _ => true) true 108 v d p) : ∃ F : List Int, Bytes24 F ∧ v = .agg (F.map (Value.int .u8)).toArray := by
  obtain ⟨cs, rfl, hsz⟩ := okWide_arr Tryz.underlying108 hv
  rw [cellsFrame] at hsz
  obtain ⟨fuel, hf⟩ := h
  obtain ⟨xs, m, _, _, _, hl, hi⟩ := DataW.trod_array Tryz.underlying108 hf
  have key : ∀ i, i < 24 → ∃ z : Int, cs.toList[i]? = some (.int .u8 z) ∧ 0 ≤ z ∧ z ≤ 255 := by
    intro i hlt
    have h := hi i hlt
    rw [cellsByte, Nat.mul_one] at h
    simp only [Value.cells] at h
    obtain ⟨y, hy⟩ : ∃ y, xs[i]? = some y := ⟨_, List.getElem?_eq_getElem (by omega)⟩
    rw [hy] at h
    have hli : i < cs.toList.length := by rw [Array.length_toList]; omega
    have e1 : (cs.toList.drop i).take 1 = [cs.toList[i]] := by
      rw [List.drop_eq_getElem_cons hli]; rfl
    rw [e1] at h
    obtain ⟨X, e0, _, hw⟩ := DataW.trod_int Tryz.underlying5 h
    simp only [List.cons.injEq, and_true] at e0
    exact ⟨X, by rw [List.getElem?_eq_getElem hli, e0], byte_of hw⟩
  refine ⟨(List.range 24).map (fun i => match cs.toList[i]? with | some (Value.int _ z) => z | _ => (0 : Int)), ⟨by simp, ?_⟩, ?_⟩
  · intro v hv'
    obtain ⟨i, hi', rfl⟩ := List.mem_map.1 hv'
    obtain ⟨z, hz, hb⟩ := key i (by simpa using hi')
    rw [hz]; exact hb
  congr 1
  apply Array.ext'
  refine List.ext_getElem? fun i => ?_
  simp only [List.map_map, List.getElem?_map]
  by_cases hi' : i < 24
  · obtain ⟨z, hz, _⟩ := key i hi'
    rw [hz, List.getElem?_range hi']
    have hz2 : cs[i]? = some (.int .u8 z) := by simpa using hz
    simp [hz2]
  · have h1 : cs.toList[i]? = none := by rw [List.getElem?_eq_none]; rw [Array.length_toList]; omega
    have h2 : (List.range 24)[i]? = none := by rw [List.getElem?_eq_none]; simp; omega
    rw [h1, h2]; rfl

theorem openBytes {H : Type} {enc : TypeId × Value → H} {W : World} {b0 : Nat} {v : Value} {d : DataW H} {p : List MemPlace}
    (hv : Value.okWide Tryz.prog W .any b0 109 v) (h : DataW.Trod enc Tryz.prog W 0 (fun _ => true) true 109 v d p) :
    ∃ (a : Option Addr) (n c : Nat) (S : List Int), v = .slice a n c ∧ n ≤ maxLen ∧ AnyBytes W a n S := by
  obtain ⟨a, n, c, rfl⟩ := okWide_slice Tryz.underlying109 hv
  obtain ⟨fuel, hf⟩ := h
  rcases open_slice Tryz.underlying109 hf with ⟨hcs, _⟩ | ⟨a, n, c, m, k, D, Pl, hcs, _, hl, hm, hmm, _, hx⟩
  · simp [Value.cells] at hcs
    obtain ⟨rfl, rfl, rfl⟩ := hcs
    exact ⟨none, 0, 0, [], rfl, by unfold maxLen; omega, ⟨rfl, fun v hv => nomatch hv⟩, fun j hj => absurd hj (by omega)⟩
  · simp [Value.cells] at hcs
    obtain ⟨rfl, rfl, rfl⟩ := hcs
    have hnm : n ≤ m := by rw [hmm]; simp; exact hl
    rw [cellsByte] at hx
    obtain ⟨T, hT⟩ := choose_lt (α := Int) (p := fun i t => (0 ≤ t ∧ t ≤ 255) ∧ W.cell? ((a.add (i * 1)).add 0) = some (.int .u8 t)) (n := n) (fun i hi => by
      obtain ⟨cs', h1, h2⟩ := hx i (by omega)
      obtain ⟨_, hlen, hc⟩ := World.cells?_some h1
      obtain ⟨X, e0, _, hw⟩ := DataW.trod_int Tryz.underlying5 h2
      exact ⟨X, byte_of hw, (hc 0 (by omega)).trans (by rw [e0]; rfl)⟩)
    refine ⟨_, _, _, (List.range n).map T, rfl, Nat.le_trans hl hm, ⟨by simp, ?_⟩, fun j hj => ?_⟩
    · intro v hv'
      obtain ⟨i, hi', rfl⟩ := List.mem_map.1 hv'
      exact (hT i (by simpa using hi')).1
    have h0 := (hT 0 (by omega)).2
    have hpl := plain_at (a := a) (by simpa [Addr.add] using h0)
    refine ⟨a.block, a.off, by rw [← hpl.1], hpl.2, fun i u hu => ?_⟩
    rw [List.map_map, List.getElem?_map] at hu
    by_cases hi2 : i < n
    · rw [List.getElem?_range hi2] at hu
      have h := (hT i hi2).2
      rw [hpl.1] at h
      simp only [Addr.add_mid, Nat.mul_one, Nat.add_zero] at h
      rw [h]
      simpa using hu
    · rw [List.getElem?_eq_none (by simp; omega)] at hu
      simp at hu

theorem okWide_rec {P : Program} {w : World} {r : Reach} {base : Nat} {t : TypeId} {fs} {v : Value} (ht : P.underlying t = some (.struct fs)) (h : Value.okWide P w r base t v) : ∃ cs, v = .agg cs ∧ cs.size = P.cellsOf t := by
  simp only [Value.okWide, ht] at h
  cases v <;> simp_all
theorem openTel {H : Type} {enc : TypeId × Value → H} {W : World} {b0 : Nat} {v : Value} {d : DataW H} {p : List MemPlace}
    (hv : Value.okWide Tryz.prog W .any b0 107 v) (h : DataW.Trod enc Tryz.prog W 0 (fun _ => true) true 107 v d p) :
    ∃ (s c o x y z : Int), v = .agg #[.int .i64 s, .int .i64 c, .int .i64 o, .int .i64 x, .int .i64 y, .int .i64 z] := by
  obtain ⟨cs, rfl, hsz⟩ := okWide_rec Tryz.underlying107 hv
  rw [cellsTel] at hsz
  obtain ⟨fuel, hf⟩ := h
  simp only [Value.cells] at hf
  obtain ⟨t, ht⟩ := tel_form (by rw [Array.length_toList]; exact hsz) hf
  exact ⟨t.s, t.c, t.o, t.x, t.y, t.z, by rw [← Array.toArray_toList (xs := cs), ht]; rfl⟩

set_option maxHeartbeats 3200000 in
theorem telegrams_all (w : World) (s c o x y z : Int) (F : List Int) (hF : Bytes24 F) (S : List Int) (a : Option Addr) (n cp : Nat) (hm : n ≤ maxLen) (hA : AnyBytes w a n S) (ht : TabAt w) :
    Calls Tryz.prog 9 #[.agg #[.int .i64 s, .int .i64 c, .int .i64 o, .int .i64 x, .int .i64 y, .int .i64 z], .agg (F.map (Value.int .u8)).toArray, .slice a n cp] w (TruePost w) := by
  by_cases hn : n ≤ 400 ∨ n = 12289
  · exact telegrams_walk w s c o x y z F hF S a n cp hn hA ht
  · have KW : Hid (∀ w1 : World, Below w.heap.size w w1 → Calls Tryz.prog 13 #[] w1 fun e w' => e = .returned (.bool true) ∧ Below w.heap.size w w') :=
      Lib.hid fun w1 h => (awake_any w1 (ht.on h)).mono fun e w' ⟨he, hb⟩ => ⟨he, h.trans (hb.mono h.size)⟩
    have VF24 : (F.map (Value.int .u8)).length = 24 := by rw [List.length_map]; exact hF.1
    obtain ⟨VF, hVF⟩ : ∃ V, F.map (Value.int .u8) = V := ⟨_, rfl⟩
    rw [hVF] at VF24 ⊢
    have hiF2 : (Tryz.prog.info? 108).map (·.size) = some VF.length := by rw [size24, VF24]
    have g1 : (400 : Int) < (n : Int) := by omega
    have g2 : ((n : Int) != 12289) = true := by simp; omega
    unfold maxLen at hm
    clear hVF hF hn hA ht
    have hB0 : Below w.heap.size w ((w.alloc (.cells #[.int .i64 s, .int .i64 c, .int .i64 o, .int .i64 x, .int .i64 y, .int .i64 z] 107)).alloc (.cells VF.toArray 108)) := ((Below.refl _ w).alloc (Nat.le_refl _) _).alloc (by simp) _
    have HB0 := Lib.hid hB0
    clear hB0
    go_enter Tryz.func9, Tryz.ntmps9
    go_wp2_with (go_at_call 13; refine (KW.out _ HB0.out).mono ?_; rintro e w1 ⟨rfl, hb1⟩)
    go_ret
    exact ⟨rfl, hb1⟩
end Go.Proofs.YtlnhgplloaiiiaaGreatDoor

/-
  LightTelegrams returns true for every input, and each argument reads behind the call as it read before: for every telegram (with any numbers), every 24 bytes and every stream of bytes (of any length, nil or not); the package variables as its row lists them. The row's statement and its card.
-/
namespace Go.Proofs.YtlnhgplloaiiiaaGreatDoor.lightTelegrams
open Go.ChangeShapes Go.WideShapes Go.ChangeAt Go.RowKit Go.Joins Go.Deep
set_option linter.unusedVariables false

theorem params : Tryz.f9.params = #[107, 108, 109] := by kernel_rfl

set_option maxRecDepth 100000 in
theorem contract (H : Type) (enc : TypeId × Value → H) (W : World) (base : Nat) (args : Array Value) (ds gs : List (DataW H)) (before : List MemPlace)
    (hval0 : ∀ (j : Nat) t v, Tryz.f9.params[j]? = some t → args[j]? = some v → Value.okWide Tryz.prog W .any base t v)
    (hW : DataW.Whole enc Tryz.prog Tryz.f9.params.toList Rows.lightTelegramsSpec.vars false W args.toList ds gs before) (hL : laidMetH Tryz.prog Rows.lightTelegramsRow.laid W) :
    Calls Tryz.prog 9 args W fun e W' => ∃ v, e = .returned v ∧ Rows.lightTelegramsSpec.post enc Tryz.prog Tryz.f9 false true false false W args v W' := by
  have hval := hval0
  have hW' := hW
  obtain ⟨p, q, hA0, hV, rfl, hfz, hnd⟩ := hW
  have hA : DataW.TrodAll enc Tryz.prog W 0 (fun _ => true) true Tryz.f9.params.toList args.toList ds p := hA0
  rw [params] at hA hval
  obtain ⟨v0, vs0, d0, ds0, p0, q0, hargs, rfl, rfl, h0, r0⟩ := trodAll_cons hA
  obtain ⟨v1, vs1, d1, ds1, p1, q1, rfl, rfl, rfl, h1, r1⟩ := trodAll_cons r0
  obtain ⟨v2, vs2, d2, ds2, p2, q2, rfl, rfl, rfl, h2, r2⟩ := trodAll_cons r1
  obtain ⟨rfl, rfl, rfl⟩ := trodAll_nil r2
  obtain rfl : args = #[v0, v1, v2] := by cases args; simp_all
  obtain ⟨rfl, rfl⟩ := trodVars_none hV
  clear hA0 hval0
  simp only [List.append_nil] at hW'
  have hlt : ∀ x ∈ p0 ++ (p1 ++ p2), x.block < W.heap.size := fun x hx => by simpa using hW'.lt x hx
  obtain ⟨s, c, o, x, y, z, rfl⟩ := openTel (hval 0 107 v0 rfl rfl) h0
  obtain ⟨F, hF, rfl⟩ := openFrame (hval 1 108 v1 rfl rfl) h1
  obtain ⟨a, n, cp, S, rfl, hm, hA2⟩ := openBytes (hval 2 109 v2 rfl rfl) h2
  refine (telegrams_all W s c o x y z F hF S a n cp hm hA2 (tabAt_of hL)).mono fun e W' ⟨he, hb⟩ => ?_
  subst he
  refine ⟨_, rfl, _, _, _, [], p0 ++ (p1 ++ p2), [], hW', trodAll_cons_mk (shut_bool Tryz.underlying4 _) trodAll_mk0, ?_, rfl, hb.frame _, fun h => by cases h⟩
  have h := (trodAll_cons_mk (Below.trod laidOut (by kernel_rfl) (of_decide_eq_true (by kernel_rfl)) h0 hb (fun x hx => hlt x (List.mem_append_left _ hx))) (trodAll_cons_mk (Below.trod laidOut (by kernel_rfl) (of_decide_eq_true (by kernel_rfl)) h1 hb (fun x hx => hlt x (List.mem_append_right _ (List.mem_append_left _ hx)))) (trodAll_cons_mk (Below.trod laidOut (by kernel_rfl) (of_decide_eq_true (by kernel_rfl)) h2 hb (fun x hx => hlt x (List.mem_append_right _ (List.mem_append_right _ hx)))) trodAll_mk0)))
  simp only [List.append_nil] at h
  exact h

def wArgs : Array Value := #[.agg #[.int .i64 0, .int .i64 0, .int .i64 0, .int .i64 0, .int .i64 0, .int .i64 0], .agg #[.int .u8 0, .int .u8 0, .int .u8 0, .int .u8 0, .int .u8 0, .int .u8 0, .int .u8 0, .int .u8 0, .int .u8 0, .int .u8 0, .int .u8 0, .int .u8 0, .int .u8 0, .int .u8 0, .int .u8 0, .int .u8 0, .int .u8 0, .int .u8 0, .int .u8 0, .int .u8 0, .int .u8 0, .int .u8 0, .int .u8 0, .int .u8 0], .slice none 0 0]
theorem reads (os : Os) {H : Type} (enc : TypeId × Value → H) : ∃ places, DataW.whole enc Tryz.prog ((laidWorld os).forCall (fun _ _ => 0) ⟨#[], wArgs, []⟩).memory Tryz.f9.params.toList Rows.lightTelegramsSpec.vars false wArgs.toList 8 = some ([.agg [.lit (.int .i64 0), .lit (.int .i64 0), .lit (.int .i64 0), .agg [.lit (.int .i64 0), .lit (.int .i64 0), .lit (.int .i64 0)]], .agg [.lit (.int .u8 0), .lit (.int .u8 0), .lit (.int .u8 0), .lit (.int .u8 0), .lit (.int .u8 0), .lit (.int .u8 0), .lit (.int .u8 0), .lit (.int .u8 0), .lit (.int .u8 0), .lit (.int .u8 0), .lit (.int .u8 0), .lit (.int .u8 0), .lit (.int .u8 0), .lit (.int .u8 0), .lit (.int .u8 0), .lit (.int .u8 0), .lit (.int .u8 0), .lit (.int .u8 0), .lit (.int .u8 0), .lit (.int .u8 0), .lit (.int .u8 0), .lit (.int .u8 0), .lit (.int .u8 0), .lit (.int .u8 0)], .nil], [], places) :=
  ⟨[], by kernel_rfl⟩

set_option maxRecDepth 100000 in
theorem lifted (os : Os) (started : os.Started) (H : Type) (enc : TypeId × Value → H) (F : Stop.Interp) :
    ReturnsInHanded {} Tryz.checked os 9 .any ((OpenSpec.ofChange Rows.lightTelegramsSpec).preRow enc Tryz.prog Tryz.f9 Rows.lightTelegramsRow.domain false Rows.lightTelegramsRow.laid) (((OpenSpec.ofChange Rows.lightTelegramsSpec).at F).post enc Tryz.prog Tryz.f9 false true false false) := by
  obtain ⟨places, hx⟩ := reads os enc
  refine returnsInHanded_of_row (C := Tryz.checked) (s := OpenSpec.ofChange Rows.lightTelegramsSpec) ownKnobOff started (by kernel_rfl) Tryz.func9
    (witness_row_at (enc := enc) (C := Tryz.checked) false (laidWorld os) wArgs rfl (by kernel_rfl) (by kernel_rfl) (by kernel_rfl)
      (OpenSpec.preRow_of_cond 8 hx (by kernel_rfl) (fun k hk => by cases hk) (by kernel_rfl) (laid_met os _))) ?_
  intro W base args ds gs before hval hW _ _ _ hL _ _
  exact contract H enc W base args ds gs before hval hW hL

theorem said : Rows.LightTelegramsSaid :=
  OpenClaim.holds_of_cond 9 Tryz.f9 rfl rfl rfl rfl rfl rfl rfl ⟨rfl, rfl, rfl, rfl, rfl⟩ rfl rfl rfl rfl rfl (by kernel_rfl) Tryz.func9 (by kernel_rfl)
    (of_decide_eq_true (by kernel_rfl)) (by unfold Func.isWrapper; first | (rw [if_pos (by decide +kernel)]; kernel_rfl) | (rw [if_neg (by decide +kernel)]; exact ⟨rfl, rfl⟩))
    (fun os started H enc _ F => by rw [OpenClaim.pre_eq_preRow]; exact lifted os started H enc F)

/-- No parameter wants a stand-in; the program's own looks are off: what the card asks. -/
theorem plain (f : FuncId) (fn : Func) (hf : Tryz.pinned.checked.prog.funcNamed "spillage/spillagelaw01.LightTelegrams" = some f) (hfn : Tryz.pinned.checked.prog.funcs[f]? = some fn) :
    false = Tryz.pinned.checked.prog.looks [] ∧ ∀ (j : Nat) t, fn.params[j]? = some t → Tryz.pinned.checked.prog.wantsStandIn t = false := by
  obtain rfl : f = 9 := Option.some.inj ((show Tryz.prog.funcNamed "spillage/spillagelaw01.LightTelegrams" = some 9 by kernel_rfl).symm.trans hf) |>.symm
  obtain rfl : fn = Tryz.f9 := (Option.some.inj (Tryz.func9.symm.trans hfn)).symm
  refine ⟨by kernel_rfl, fun j t ht => ?_⟩
  rw [params] at ht
  have hm : t = 107 ∨ t = 108 ∨ t = 109 := by simpa using Array.mem_of_getElem? ht
  rcases hm with rfl | rfl | rfl
  · exact (show Tryz.prog.wantsStandIn 107 = false by kernel_rfl)
  · exact (show Tryz.prog.wantsStandIn 108 = false by kernel_rfl)
  · exact (show Tryz.prog.wantsStandIn 109 = false by kernel_rfl)

/-- ████ THE CARD ████ -/
theorem card : Rows.LightTelegramsCardSaid :=
  Claim7.holds_tied_plain_at .later [] _ _ _ _ said (fun _ h => by cases h) (by kernel_rfl) (fun _ h => by cases h) lightTelegrams_row_tie rfl ⟨rfl, rfl⟩ (by kernel_rfl) rfl plain (by kernel_rfl)
#print axioms card
end Go.Proofs.YtlnhgplloaiiiaaGreatDoor.lightTelegrams
