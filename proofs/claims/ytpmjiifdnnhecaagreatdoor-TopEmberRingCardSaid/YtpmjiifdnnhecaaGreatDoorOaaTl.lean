/-
  LightBack's calls: Parse of a right map's text, whole and without its last byte; Print of what a text was read as; Unpack of a right map's stream, whole and without its last byte; how many lines Split finds.
-/
import Derived.Test.YtpmjiifdnnhecaaGreatDoorOaaSv
import Derived.Test.YtpmjiifdnnhecaaGreatDoorOaaSw
import Derived.Test.YtpmjiifdnnhecaaGreatDoorOaaZy
import Derived.Test.YtpmjiifdnnhecaaGreatDoorOaaJi
import Derived.Test.YtpmjiifdnnhecaaGreatDoorOaaPf
import Derived.Test.YtpmjiifdnnhecaaGreatDoorOaaEda
import Derived.Test.YtpmjiifdnnhecaaGreatDoorOaaPc
namespace Go.Proofs.YtpmjiifdnnhecaaGreatDoor
open Go.RowKit
set_option linter.unusedVariables false
set_option linter.unusedSimpArgs false

/-- Print of a right map gives its text. -/
theorem print_map {W H : Nat} {ks : List Int} {b o n c : Nat} {xs : List Nat} (w : World) (hr : RightMap w W H b o n xs ks) (hb : b < w.heap.size) (ht : TabAt w) :
    Calls Tryz.prog 73 #[.agg #[.int .i64 W, .int .i64 H, .slice (some ⟨b, o, none⟩) n c]] w fun e w' => e = .returned (.tuple #[.string (strB (textL W H ks)), .int .i64 0]) ∧ Below w.heap.size w w' :=
  print_any W H b o c n xs ks w hr hb ht
end Go.Proofs.YtpmjiifdnnhecaaGreatDoor

/-
  TopEmberRing's calls by right maps: emberMap, Print and Parse, Pack and Unpack, Four of one number; how long the ring's text is.
-/

namespace Go.Proofs.YtpmjiifdnnhecaaGreatDoor
open Go.RowKit
set_option linter.unusedVariables false
set_option linter.unusedSimpArgs false

theorem nDigits4 {u : Nat} (h : u < 10000) : Lib.nDigits u ≤ 4 := by
  by_cases h1 : u < 10
  · rw [Lib.nDigits_small h1]; omega
  · rw [Lib.nDigits_big h1]
    by_cases h2 : u / 10 < 10
    · rw [Lib.nDigits_small h2]; omega
    · rw [Lib.nDigits_big h2]
      by_cases h3 : u / 10 / 10 < 10
      · rw [Lib.nDigits_small h3]; omega
      · rw [Lib.nDigits_big h3, Lib.nDigits_small (by omega)]; omega
theorem itoa_len5 {k : Int} (h : k.natAbs ≤ 1024) : (Lib.itoa k).length ≤ 5 := by
  by_cases hneg : k < 0
  · obtain ⟨u, rfl⟩ : ∃ u : Nat, k = -(u : Int) := ⟨k.natAbs, by omega⟩
    rw [Lib.itoa_neg u (by omega), List.length_cons, Lib.decDigits_length]
    have := nDigits4 (u := u) (by omega)
    omega
  · obtain ⟨u, rfl⟩ : ∃ u : Nat, k = u := ⟨k.toNat, by omega⟩
    rw [Lib.itoa_nonneg, Lib.decDigits_length]
    have := nDigits4 (u := u) (by omega)
    omega
theorem joinTail_len6 (ls : List (List UInt8)) (h : ∀ l ∈ ls, l.length ≤ 5) : (Lib.joinTail [32] ls).length ≤ 6 * ls.length := by
  induction ls with
  | nil => simp [Lib.joinTail]
  | cons l ls ih =>
    have h1 := h l List.mem_cons_self
    have h2 := ih fun l' h' => h l' (List.mem_cons_of_mem _ h')
    simp only [Lib.joinTail, List.map_cons, List.flatten_cons, List.length_append, List.length_cons, List.length_nil] at h2 ⊢
    omega
theorem line_len6 (wd : List UInt8) (ks : List Int) (h : ∀ k ∈ ks, k.natAbs ≤ 1024) : (lineL wd ks).length ≤ wd.length + 6 * ks.length + 1 := by
  unfold lineL
  rw [List.length_append, Lib.join_cons, List.length_append]
  have := joinTail_len6 (ks.map Lib.itoa) (fun l hl => by obtain ⟨k, hk, rfl⟩ := List.mem_map.1 hl; exact itoa_len5 (h k hk))
  rw [List.length_map] at this
  simp only [List.length_cons, List.length_nil]
  omega
theorem rows_size6 {W : Nat} {ks : List Int} (h : ∀ k ∈ ks, k.natAbs ≤ 1024) : ∀ ys : List Nat, (rowsL W ks ys).length ≤ (4 + 6 * W) * ys.length
  | [] => by simp [rowsL]
  | y :: ys => by
    have ih := rows_size6 (W := W) h ys
    have h1 := line_len6 [114, 111, 119] (rowOf W ks y) (fun k hk => h k (rowOf_mem hk))
    have h2 : (rowOf W ks y).length ≤ W := by unfold rowOf; rw [List.length_take]; omega
    have e : rowsL W ks (y :: ys) = lineL [114, 111, 119] (rowOf W ks y) ++ rowsL W ks ys := by unfold rowsL; rw [List.flatMap_cons]
    have h3 : ([114, 111, 119] : List UInt8).length = 3 := rfl
    rw [e, List.length_append, List.length_cons, Nat.mul_add, Nat.mul_one]
    omega
theorem text_size6 {W H : Nat} {ks : List Int} (hW : W ≤ 16) (hH : H ≤ 16) (h : ∀ k ∈ ks, k.natAbs ≤ 1024) : (textL W H ks).length ≤ 4096 := by
  have h1 := rows_size6 (W := W) h (List.range H)
  have h2 := line_len6 [109, 97, 112] [(W : Int), (H : Int)] (fun k hk => by simp at hk; rcases hk with rfl | rfl <;> omega)
  have h3 : ([109, 97, 112] : List UInt8).length = 3 := rfl
  have h4 : [(W : Int), (H : Int)].length = 2 := rfl
  rw [List.length_range] at h1
  have h5 : (4 + 6 * W) * H ≤ (4 + 6 * 16) * 16 := Nat.mul_le_mul (by omega) hH
  unfold textL
  rw [List.length_append]
  omega

/-- A call that returns a right map with what stands behind it, whatever its slice's capacity. -/
def MapOut (w : World) (W H n : Nat) (L : List Int) (tl : List Value) (e : Ending) (w' : World) : Prop :=
  ∃ g c, e = .returned (.tuple (.agg #[.int .i64 W, .int .i64 H, .slice (some ⟨g, 0, none⟩) n c] :: tl).toArray) ∧ RM w' W H n L g 0 ∧ Below w.heap.size w w'
theorem resV_rm {w : World} {W H N : Nat} {L : List Int} {X Y : Int} {a : Option Addr} {n c : Nat} (h : ResV w 0 (W : Int) (H : Int) L X Y a n c) (hl : L.length = N) (hN : H * W = N) (hW : 1 ≤ W ∧ W ≤ 64) (hH : 1 ≤ H ∧ H ≤ 64) :
    ∃ g, X = W ∧ Y = H ∧ a = Option.some ⟨g, 0, Option.none⟩ ∧ n = N ∧ RM w W H N L g 0 := by
  obtain ⟨rfl, rfl, h3, h4, h5, g, rfl, h7, h8⟩ := h.ok rfl
  obtain rfl : n = N := by omega
  exact ⟨g, rfl, rfl, rfl, rfl, RM.of_cells h3 h4 h5 hW hH hN h7 h8⟩
theorem rm_emberMap {w : World} {W H n b o : Nat} {L : List Int} (h : RM w W H n L b o) (c : Nat) :
    Calls Tryz.prog 63 #[.agg #[.int .i64 W, .int .i64 H, .slice (some ⟨b, o, none⟩) n c]] w fun e w' =>
      ∃ g c', e = .returned (.agg #[.int .i64 W, .int .i64 H, .slice (some ⟨g, 0, none⟩) n c']) ∧ RM w' W H n L g 0 ∧ Below w.heap.size w w' := by
  have hn := h.small
  have ha := h.area
  have hw := h.wid
  have hh := h.hei
  have hn1 : 1 ≤ n := by rw [← ha]; exact Nat.mul_pos hh.1 hw.1
  obtain ⟨h1, xs, hR⟩ := h
  refine (emberMap_any W H b o n c xs hR.len hn1 hn h1 hR.cells).mono ?_
  rintro e w' ⟨g, c', he, _, hg, hc, hb, _⟩
  exact ⟨g, c', he, ⟨hg, xs, ⟨⟨hR.len, hR.lenk, hR.small, fun j hj => by rw [Nat.zero_add]; exact hc j hj, hR.words, hR.smps, hR.sizes⟩, hR.wid, hR.hei, hR.area⟩⟩, hb⟩
theorem rm_print {w : World} {W H n b o : Nat} {L : List Int} (h : RM w W H n L b o) (c : Nat) (ht : TabAt w) :
    Calls Tryz.prog 73 #[.agg #[.int .i64 W, .int .i64 H, .slice (some ⟨b, o, none⟩) n c]] w fun e w' => e = .returned (.tuple #[.string (strB (textL W H L)), .int .i64 0]) ∧ Below w.heap.size w w' := by
  obtain ⟨h1, xs, hR⟩ := h
  exact print_map w hR h1 ht
theorem rm_parse {W H n : Nat} {L : List Int} (hW : 1 ≤ W ∧ W ≤ 16) (hH : 1 ≤ H ∧ H ≤ 16) (hl : L.length = n) (ha : H * W = n) (hs : ∀ k ∈ L, k.natAbs ≤ 1024) (w : World) (hm : MaxAt w) :
    Calls Tryz.prog 74 #[.string (strB (textL W H L))] w (MapOut w W H n L [.int .i64 0, .int .i64 0]) := by
  refine (parse_any (strB (textL W H L)) w (by rw [strB_size]; exact text_size6 hW.2 hH.2 hs) hm).mono fun e w' hp => ?_
  obtain ⟨X, Y, a, m, c, idx, err, W', H', ls, rfl, hq, hres, hb⟩ := hp
  obtain ⟨rfl, rfl, heq⟩ := parseR_fun (text_reads (by omega) (by omega) (by rw [hl, Nat.mul_comm]; exact ha) (fun k hk => by have := hs k hk; omega)) hq
  obtain ⟨rfl, rfl, rfl⟩ := heq rfl
  obtain ⟨g, rfl, rfl, rfl, rfl, hr⟩ := resV_rm hres hl ha (by omega) (by omega)
  exact ⟨g, c, rfl, hr, hb⟩
theorem rm_pack {w : World} {W H n b o : Nat} {L : List Int} (h : RM w W H n L b o) (c : Nat) :
    Calls Tryz.prog 75 #[.agg #[.int .i64 W, .int .i64 H, .slice (some ⟨b, o, none⟩) n c]] w fun e w' =>
      ∃ a c', e = .returned (.tuple #[.slice a (10 + 4 * n) c', .int .i64 0]) ∧ 10 + 4 * n ≤ c' ∧ c' ≤ 9223372036854775807 ∧ AnyBytes w' a (10 + 4 * n) (packL W H L) ∧ Below w.heap.size w w' := by
  have hw := h.wid
  have hh := h.hei
  have hl := h.len
  obtain ⟨h1, xs, hR⟩ := h
  refine (pack_any W H b o c n xs L w hR h1).mono ?_
  rintro e w' ⟨v, rfl, hown, hb⟩
  have hV := pack_bytes (ks := L) hw.2 hh.2
  rw [hl] at hV
  obtain ⟨a, c', rfl, g1, g2, g3⟩ := AnyBytes.of_row hV hown
  exact ⟨a, c', rfl, g1, g2, g3, hb⟩
theorem rm_unpack {W H n : Nat} {L : List Int} (hW : 1 ≤ W ∧ W ≤ 64) (hH : 1 ≤ H ∧ H ≤ 64) (hl : L.length = n) (ha : H * W = n) (hn : n ≤ 256) (hs : ∀ k ∈ L, k.natAbs ≤ 1024) (w : World) (a : Option Addr) (cp : Nat) (hcp : 10 + 4 * n ≤ cp) (hcq : cp ≤ 9223372036854775807) (hA : AnyBytes w a (10 + 4 * n) (packL W H L)) :
    Calls Tryz.prog 76 #[.slice a (10 + 4 * n) cp] w (MapOut w W H n L [.int .i64 0]) := by
  have k := unpack_all (packL W H L) a (10 + 4 * n) cp (by omega) hcp hcq w hA
  have hr := pack_reads (ks := L) hW hH (by rw [hl, Nat.mul_comm]; exact ha) (fun k hk => by have := hs k hk; omega)
  rw [hr.1, hr.2, (pack_W W H L).1, (pack_W W H L).2.1] at k
  refine k.mono ?_
  rintro e w' ⟨X, Y, a', m, c, rfl, hres, hb⟩
  obtain ⟨g, rfl, rfl, rfl, rfl, hr⟩ := resV_rm hres hl ha (by omega) (by omega)
  exact ⟨g, c, rfl, hr, hb⟩
/-- The transform of a number taken four times. -/
theorem four_one (T : Int) (hT : T.natAbs ≤ 16384) (w : World) :
    Calls Tryz.prog 72 #[.agg #[.float .f32 (smpOf T), .float .f32 (smpOf T), .float .f32 (smpOf T), .float .f32 (smpOf T)]] w fun e w' =>
      ∃ a0 b0 a1 b1 a2 b2 a3 b3, e = .returned (.tuple #[.agg #[.complex .f32 a0 b0, .complex .f32 a1 b1, .complex .f32 a2 b2, .complex .f32 a3 b3], .int .i64 0]) ∧
        Smp a0 (4 * T) ∧ Smp b0 0 ∧ Smp a1 0 ∧ Smp b1 0 ∧ Smp a2 0 ∧ Smp b2 0 ∧ Smp a3 0 ∧ Smp b3 0 ∧ Below w.heap.size w w' := by
  have hlt : T.natAbs < 2 ^ 24 := Nat.lt_of_le_of_lt hT (by decide)
  refine (four_any (smpOf T) (smpOf T) (smpOf T) (smpOf T) [T, T, T, T] rfl (fun j hj => ?_) w).mono ?_
  · match j, hj with
    | 0, _ => exact ⟨smpOf_word _ hlt, smpOf_smp _ hlt, hT⟩
    | 1, _ => exact ⟨smpOf_word _ hlt, smpOf_smp _ hlt, hT⟩
    | 2, _ => exact ⟨smpOf_word _ hlt, smpOf_smp _ hlt, hT⟩
    | 3, _ => exact ⟨smpOf_word _ hlt, smpOf_smp _ hlt, hT⟩
  · rintro e w' ⟨L, rfl, hP, hb⟩
    obtain ⟨hl, hp⟩ := hP
    obtain ⟨x0, x1, x2, x3, rfl⟩ := panel_list hl
    obtain ⟨a0, b0, e0, s0, t0, _⟩ := hp 0 (by omega)
    obtain ⟨a1, b1, e1, s1, t1, _⟩ := hp 1 (by omega)
    obtain ⟨a2, b2, e2, s2, t2, _⟩ := hp 2 (by omega)
    obtain ⟨a3, b3, e3, s3, t3, _⟩ := hp 3 (by omega)
    obtain ⟨⟨r0, i0⟩, ⟨r1, i1⟩, ⟨r2, i2⟩, r3, i3⟩ := acc_four T T T T
    rw [r0] at s0; rw [i0] at t0
    rw [r1] at s1; rw [i1] at t1
    rw [r2] at s2; rw [i2] at t2
    rw [r3] at s3; rw [i3] at t3
    cases e0; cases e1; cases e2; cases e3
    refine ⟨a0, b0, a1, b1, a2, b2, a3, b3, rfl, ?_, t0, ?_, ?_, ?_, t2, ?_, ?_, hb⟩
    · rwa [show T + T + T + T = 4 * T by omega] at s0
    · rwa [show T - T = 0 by omega] at s1
    · rwa [show T - T = 0 by omega] at t1
    · rwa [show T - T + T - T = 0 by omega] at s2
    · rwa [show T - T = 0 by omega] at s3
    · rwa [show T - T = 0 by omega] at t3
section
variable {P : Program} (w : World)
theorem equalIn_cplxR (d : Nat) (t e : TypeId) (n : Nat) (ht : P.underlying t = some (.array n e)) (he : P.underlying e = some (.complex .f32)) (hsz : ∀ w, (sizeOf e).run P w = .ok 1 w) (xs ys : List (Nat × Nat)) (hx : xs.length = n) (hy : ys.length = n)
    (ho : ∀ i, i < n → FloatKind.f32.format.order (xs[i]?.getD (0, 0)).1 (ys[i]?.getD (0, 0)).1 = some .eq ∧ FloatKind.f32.format.order (xs[i]?.getD (0, 0)).2 (ys[i]?.getD (0, 0)).2 = some .eq) :
    (Op.equalIn (d + 2) t (.agg (xs.map (fun z => Value.complex .f32 z.1 z.2)).toArray) (.agg (ys.map (fun z => Value.complex .f32 z.1 z.2)).toArray)).run P w = .ok true w := by
  rw [Op.equalIn]
  simp only [Sem.run_bind, run_underlying ht, Result.andThen_ok, hsz, Std.Legacy.Range.forIn_eq_forIn_range', Std.Legacy.Range.size, Nat.sub_zero, Nat.add_sub_cancel, Nat.div_one]
  have hl : ∀ i ∈ List.range' 0 n 1, i < n := fun i hi => by simpa using (List.mem_range'_1.1 hi).2
  generalize List.range' 0 n 1 = l at hl ⊢
  induction l with
  | nil => simp
  | cons i l ih =>
    have hi : i < n := hl i (by simp)
    obtain ⟨o1, o2⟩ := ho i hi
    have px : (part e (xs.map (fun z => Value.complex .f32 z.1 z.2)).toArray (i * 1)).run P w = .ok (Value.complex .f32 (xs[i]?.getD (0, 0)).1 (xs[i]?.getD (0, 0)).2) w := by
      simp [part, isAgg, run_underlying he, List.getElem?_eq_getElem (show i < xs.length by omega)]
    have py : (part e (ys.map (fun z => Value.complex .f32 z.1 z.2)).toArray (i * 1)).run P w = .ok (Value.complex .f32 (ys[i]?.getD (0, 0)).1 (ys[i]?.getD (0, 0)).2) w := by
      simp [part, isAgg, run_underlying he, List.getElem?_eq_getElem (show i < ys.length by omega)]
    have pe : (Op.equalIn (d + 1) e (Value.complex .f32 (xs[i]?.getD (0, 0)).1 (xs[i]?.getD (0, 0)).2) (Value.complex .f32 (ys[i]?.getD (0, 0)).1 (ys[i]?.getD (0, 0)).2)).run P w = .ok true w := by
      rw [Op.equalIn]
      simp [run_underlying he, Sem.run_bind, Op.floatEq, o1, o2]
    simp only [List.forIn_cons, Sem.run_bind, px, py, pe, Result.andThen_ok]
    simp only [Bool.not_true, Bool.false_eq_true, if_false, Sem.run_pure, Result.andThen_ok]
    exact ih fun j hj => hl j (by simp [hj])
end
theorem eq_panelR (q0 q1 q2 q3 q4 q5 q6 q7 c0 c1 c2 c3 c4 c5 c6 c7 : Nat) (h : FloatKind.f32.format.order q0 c0 = some .eq ∧ FloatKind.f32.format.order q1 c1 = some .eq ∧ FloatKind.f32.format.order q2 c2 = some .eq ∧ FloatKind.f32.format.order q3 c3 = some .eq ∧ FloatKind.f32.format.order q4 c4 = some .eq ∧ FloatKind.f32.format.order q5 c5 = some .eq ∧ FloatKind.f32.format.order q6 c6 = some .eq ∧ FloatKind.f32.format.order q7 c7 = some .eq) (w : World) :
    (Op.equalIn 10000 136 (.agg #[.complex .f32 q0 q1, .complex .f32 q2 q3, .complex .f32 q4 q5, .complex .f32 q6 q7]) (.agg #[.complex .f32 c0 c1, .complex .f32 c2 c3, .complex .f32 c4 c5, .complex .f32 c6 c7])).run Tryz.prog w = .ok true w := by
  obtain ⟨o0, o1, o2, o3, o4, o5, o6, o7⟩ := h
  refine equalIn_cplxR w 9998 136 135 4 (Tryz.underlying136) (Tryz.underlying135) (fun w => by first | kernel_rfl | rfl) [(q0, q1), (q2, q3), (q4, q5), (q6, q7)] [(c0, c1), (c2, c3), (c4, c5), (c6, c7)] rfl rfl (fun i hi => ?_)
  match i, hi with
  | 0, _ => exact ⟨o0, o1⟩
  | 1, _ => exact ⟨o2, o3⟩
  | 2, _ => exact ⟨o4, o5⟩
  | 3, _ => exact ⟨o6, o7⟩
theorem smp_mul4 {x : Nat} {k : Int} (hx : Smp x k) (hk : k.natAbs < 2 ^ 40) : ∃ r, floatBits .mul .f32 1082130432 x = some r ∧ Smp r (4 * k) := by
  obtain ⟨s, h, h1, h2⟩ := hx
  have hc : Ieee.single.read 1082130432 = .number false (2 ^ Ieee.single.fractionBits) (((2 : Nat) : Int) - Ieee.single.fractionBits) := by decide +kernel
  have e : k.natAbs * 2 ^ 145 * 2 ^ 2 = (4 * k).natAbs * 2 ^ 145 := by
    rw [Int.natAbs_mul, Nat.mul_right_comm, Nat.mul_comm k.natAbs]; rfl
  obtain ⟨r, m1, m2, m3⟩ := h.mul_pow two32 hc (by
    rw [e]
    have h4 : (4 * k).natAbs < 2 ^ 42 := by rw [Int.natAbs_mul]; show 4 * k.natAbs < 2 ^ 42; omega
    exact Nat.lt_trans (pow_split h4) (by decide +kernel))
  rw [e] at m3
  exact ⟨r, m2, s, m3, fun h => h1 (by omega), fun h => h2 (by omega)⟩
theorem rm_lit4 (w : World) {T : Int} (hT : T.natAbs ≤ 16384) : RM (w.alloc (.cells #[.float .f32 (smpOf T), .float .f32 (smpOf T), .float .f32 (smpOf T), .float .f32 (smpOf T)] 119)) 2 2 4 [T, T, T, T] w.heap.size 0 := by
  have hb : (w.alloc (.cells #[.float .f32 (smpOf T), .float .f32 (smpOf T), .float .f32 (smpOf T), .float .f32 (smpOf T)] 119)).heap[w.heap.size]? = some (.cells #[.float .f32 (smpOf T), .float .f32 (smpOf T), .float .f32 (smpOf T), .float .f32 (smpOf T)] 119 (0, 0)) := blk_alloc_new w _
  refine RM.of_cells rfl (by omega) (fun j hj => ?_) (by omega) (by omega) rfl (by simp) (fun j hj => ?_)
  · match j, hj with
    | 0, _ => exact hT
    | 1, _ => exact hT
    | 2, _ => exact hT
    | 3, _ => exact hT
  · rw [cell_of_row _ _ j _ _ (0, 0) hb]
    match j, hj with
    | 0, _ => rfl
    | 1, _ => rfl
    | 2, _ => rfl
    | 3, _ => rfl
/-- The ring binned. -/
theorem rm_ringBin {w : World} {s g : Nat} {L : List Int} (hs : 1 ≤ s ∧ s ≤ 8) (hL : L.length = s * s) (hsm : ∀ j : Nat, (L[j]?.getD 0 : Int).natAbs ≤ 256) (h : RM w (2 * s) (2 * s) (2 * s * (2 * s)) (ringK s L 4) g 0) (c : Nat) :
    Calls Tryz.prog 70 #[.agg #[.int .i64 (2 * s : Nat), .int .i64 (2 * s : Nat), .slice (some ⟨g, 0, none⟩) (2 * s * (2 * s)) c], .int .i64 (s : Nat)] w fun e w' =>
      ∃ g' c', e = .returned (.tuple #[.agg #[.int .i64 2, .int .i64 2, .slice (some ⟨g', 0, none⟩) 4 c'], .int .i64 0]) ∧ RM w' 2 2 4 [L.sum, L.sum, L.sum, L.sum] g' 0 ∧ Below w.heap.size w w' := by
  have hd : 2 * s / s = 2 := Nat.mul_div_cancel _ (by omega)
  have hr : 2 * s % s = 0 := Nat.mul_mod_left 2 s
  have hb : binR (2 * s) (2 * s) s = 0 := by unfold binR; rw [if_pos ⟨hr, hr⟩]
  have k := rm_binned h c s (by omega) (fun _ X Y => by
    have h1 := binTo_small (W := 2 * s) hs.1 (fun j => ring_small hsm j) X Y (L := ringK s L 4)
    have h2 : s * (s * 256) ≤ 8 * (8 * 256) := Nat.mul_le_mul hs.2 (Nat.mul_le_mul_right _ hs.2)
    omega)
  rw [hb, hd, ring_bin hs.1 hL] at k
  refine k.mono ?_
  rintro e w' ⟨X, Y, a', n', c', rfl, hv, hb'⟩
  obtain ⟨g', rfl, rfl, rfl, rfl, hr'⟩ := resV_rm (W := 2) (H := 2) (N := 4) hv rfl rfl (by omega) (by omega)
  exact ⟨g', c', rfl, hr', hb'⟩
end Go.Proofs.YtpmjiifdnnhecaaGreatDoor
