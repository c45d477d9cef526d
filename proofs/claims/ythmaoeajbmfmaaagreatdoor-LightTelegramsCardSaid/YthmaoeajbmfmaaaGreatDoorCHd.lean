/-
  Contract of Extended over a row of spans that the call owns.
-/
import Derived.Test.YthmaoeajbmfmaaaGreatDoorCXe
import Derived.Test.YthmaoeajbmfmaaaGreatDoorCHj
import Derived.Test.YthmaoeajbmfmaaaGreatDoorCGd
namespace Go.Proofs.YthmaoeajbmfmaaaGreatDoor
open Go.RowKit
set_option linter.unusedVariables false
set_option linter.unusedSimpArgs false

/-- Spans behind an index more. -/
def extL (l : List (Int × Int)) (at' : Int) : List (Int × Int) :=
  if l.length ≠ 0 ∧ (l[l.length - 1]?.getD (0, 0)).2 = at' then l.set (l.length - 1) ((l[l.length - 1]?.getD (0, 0)).1, at' + 1) else l ++ [(at', at' + 1)]
theorem extL_len (l : List (Int × Int)) (a : Int) : (extL l a).length ≤ l.length + 1 := by
  unfold extL; split <;> simp
theorem flat_len2 (l : List (Int × Int)) : (l.flatMap qval).length = l.length * 2 := by
  induction l with
  | nil => rfl
  | cons p r ih => rw [List.flatMap_cons, List.length_append, ih]; simp [qval]; omega
theorem flat_at2 : ∀ (l : List (Int × Int)) (k : Nat), k < l.length → (l.flatMap qval)[k * 2]? = some (.int .i64 (l[k]?.getD (0, 0)).1) ∧ (l.flatMap qval)[k * 2 + 1]? = some (.int .i64 (l[k]?.getD (0, 0)).2)
  | [], _, h => by simp at h
  | q :: l, 0, _ => by simp [qval]
  | q :: l, k + 1, h => by
    have ih := flat_at2 l k (by simpa using h)
    have e1 : (k + 1) * 2 = k * 2 + 1 + 1 := by omega
    rw [e1]
    simp only [List.flatMap_cons, qval, List.cons_append, List.nil_append, List.getElem?_cons_succ]
    exact ih
theorem flat_set2 : ∀ (l : List (Int × Int)) (k : Nat) (b : Int), k < l.length → (l.flatMap qval).set (k * 2 + 1) (.int .i64 b) = (l.set k ((l[k]?.getD (0, 0)).1, b)).flatMap qval
  | [], _, _, h => by simp at h
  | q :: l, 0, b, _ => by simp [qval]
  | q :: l, k + 1, b, h => by
    have ih := flat_set2 l k b (by simpa using h)
    have e1 : (k + 1) * 2 + 1 = (k * 2 + 1) + 1 + 1 := by omega
    rw [e1]
    simp only [List.flatMap_cons, qval, List.cons_append, List.nil_append, List.set_cons_succ, List.getElem?_cons_succ, List.set_cons_succ]
    rw [ih]
theorem grownBy_trans {a b c : World} {row : Option Nat} (h : a.grownBy b row) (k : b.grownBy c row) : a.grownBy c row :=
  ⟨k.os.trans h.os, k.tape.trans h.tape, k.output.trans h.output, Nat.le_trans h.size k.size, fun i hi hne => (k.block i (Nat.lt_of_lt_of_le hi h.size) hne).trans (h.block i hi hne)⟩
theorem own_ne {w : World} {B B' e1 e2 s1 s2 n1 n2 : Nat} {v1 v2 : Value} {x1 x2 : List Value} (h1 : w.ownsRow B e1 s1 v1 n1 x1) (h2 : w.ownsRow B' e2 s2 v2 n2 x2) (hne : e1 ≠ e2) : v1.ownBlock = none ∨ v1.ownBlock ≠ v2.ownBlock := by
  rcases h1.2 with ⟨rfl, _⟩ | ⟨g, cap, cur, rfl, _, hg, _⟩
  · exact .inl rfl
  · rcases h2.2 with ⟨rfl, _⟩ | ⟨g', cap', cur', rfl, _, hg', _⟩
    · exact .inr (by simp [Value.ownBlock])
    · refine .inr fun e => ?_
      simp [Value.ownBlock] at e
      subst e
      rw [hg] at hg'
      simp at hg'
      exact hne hg'.2
theorem Tryz.infoSpan : (Tryz.prog.info? 92).map (fun i => (i.zero, i.size, i.bytes)) = some (some (.agg #[.int .i64 0, .int .i64 0]), 2, 16) := by kernel_rfl
theorem cells_newQ (w : World) (T : TypeId) (a b : Value) : ∀ j u, [a, b][j]? = some u → (w.alloc (.cells #[a, b] T)).cell? ((⟨w.heap.size, 0, none⟩ : Addr).add j) = some u := fun j u h => by
  rw [Addr.add_mid, cell_of_row _ w.heap.size (0 + j) _ _ (0, 0) (heap_alloc_new w _)]
  simpa using h

set_option maxRecDepth 100000 in
set_option maxHeartbeats 3200000 in
theorem extended_any (l : List (Int × Int)) (a : Nat) (B : Nat) (v : Value) (w : World) (hB : B ≤ w.heap.size) (hm : l.length ≤ 13000) (ha : a ≤ 13000) (ho : w.ownsRow B 92 2 v l.length (l.flatMap qval)) :
    Calls Tryz.prog 80 #[v, .int .i64 a] w fun e w' => ∃ v', e = .returned v' ∧ w'.ownsRow B 92 2 v' (extL l a).length ((extL l a).flatMap qval) ∧ w.grownBy w' v.ownBlock := by
  obtain ⟨i0, hi, hz0, hz1, hz2⟩ := info_parts Tryz.infoSpan
  by_cases h : l.length ≠ 0 ∧ (l[l.length - 1]?.getD (0, 0)).2 = a
  · have hX : extL l a = l.set (l.length - 1) ((l[l.length - 1]?.getD (0, 0)).1, (a : Int) + 1) := by unfold extL; rw [if_pos h]
    obtain ⟨g, c, rfl, hgl, hgB⟩ := owns_some ho (by omega)
    obtain ⟨m, hm'⟩ : ∃ m, l.length = m + 1 := ⟨l.length - 1, by omega⟩
    have hc1 := (flat_at2 l m (by omega)).2
    have hs := flat_set2 l m ((a : Int) + 1) (by omega)
    have e2 : (l[m]?.getD (0, 0)).2 = a := by have := h.2; rwa [hm', Nat.add_sub_cancel] at this
    rw [e2] at hc1
    have c1 : w.cell? ⟨g, m * 2 + 1, none⟩ = some (.int .i64 a) := by
      have h := ho.cells (g := g) rfl (m * 2 + 1) _ hc1
      rwa [Addr.add_mid, Nat.zero_add] at h
    have f1 := ho.frozenAt (m * 2 + 1)
    have hst := ho.stored (m * 2 + 1) (.int .i64 ((a : Int) + 1))
    rw [hs] at hst
    rw [hX, hm', Nat.add_sub_cancel, List.length_set]
    rw [hm'] at hst ⊢
    have HST := Lib.hid hst
    have HGR : Hid (w.grownBy (w.setCell ⟨g, m * 2 + 1, none⟩ (.int .i64 ((a : Int) + 1))) (some g)) := Lib.hid (OnlyBlk.set w g (m * 2 + 1) _).1
    have k0 : (0 : Int) ≤ (m : Int) := by omega
    have k1 : (m : Int) < (m : Int) + 1 := by omega
    have k2 : ((a : Int) == a) = true := by simp
    have k3 : (m : Int) ≤ 13000 := by omega
    have k4 : (a : Int) ≤ 13000 := by omega
    clear h hX ho hc1 hs e2 hst hm' hm
    go_enter Tryz.func80, Tryz.ntmps80
    go_wp2
    go_ret
    exact ⟨_, rfl, HST.out.1, HGR.out⟩
  · have hX : extL l a = l ++ [((a : Int), (a : Int) + 1)] := by unfold extL; rw [if_neg h]
    have hF : (extL l a).flatMap qval = l.flatMap qval ++ [.int .i64 (a : Int), .int .i64 ((a : Int) + 1)] := by rw [hX]; simp [qval]
    have hL : (extL l a).length = l.length + 1 := by rw [hX]; simp
    rw [hF, hL]
    have k4 : (a : Int) ≤ 13000 := by omega
    have hgr : w.grownBy (w.alloc (.cells #[.int .i64 (a : Int), .int .i64 ((a : Int) + 1)] 92)) v.ownBlock := World.grownBy_alloc _ _ _
    have HGR := Lib.hid hgr
    clear hX hF hL hgr
    by_cases h0 : l.length = 0
    · obtain ⟨F, hFl⟩ : ∃ F, l.flatMap qval = F := ⟨_, rfl⟩
      rw [hFl, h0] at ho
      rw [hFl, h0]
      obtain ⟨aa, c, rfl⟩ := nil_slice ho
      clear h h0 hm hFl
      go_enter Tryz.func80, Tryz.ntmps80
      go_wp2_with (at_builtin; refine wpList_append_own _ rfl (.tmp 29) (.tmp 34) 52 rfl B 92 i0 (.agg #[.int .i64 0, .int .i64 0]) 2 16 Tryz.underlying52 hi hz0 hz1 hz2 rfl (by decide) _ 0 _ rfl (ho.alloc _) ⟨w.heap.size, 0, none⟩ 1 1 [.int .i64 (a : Int), .int .i64 ((a : Int) + 1)] rfl rfl (cells_newQ _ _ _ _) (by intro u hu; simp at hu; rcases hu with rfl | rfl <;> rfl) (by unfold maxLen; omega) (by omega) (by simp; omega) ?_; intro v' w1 hown1 hgrow1 _)
      go_ret
      exact ⟨_, rfl, hown1, grownBy_trans HGR.out hgrow1⟩
    · obtain ⟨g, c, rfl, hgl, hgB⟩ := owns_some ho (by omega)
      obtain ⟨m, hm'⟩ : ∃ m, l.length = m + 1 := ⟨l.length - 1, by omega⟩
      have hc1 := (flat_at2 l m (by omega)).2
      obtain ⟨x, hx⟩ : ∃ x, (l[m]?.getD (0, 0)).2 = x := ⟨_, rfl⟩
      have e2 : x ≠ a := fun e => h ⟨h0, by rw [hm', Nat.add_sub_cancel, hx]; exact e⟩
      rw [hx] at hc1
      have c1 : w.cell? ⟨g, m * 2 + 1, none⟩ = some (.int .i64 x) := by
        have h := ho.cells (g := g) rfl (m * 2 + 1) _ hc1
        rwa [Addr.add_mid, Nat.zero_add] at h
      obtain ⟨F, hFl⟩ : ∃ F, l.flatMap qval = F := ⟨_, rfl⟩
      rw [hFl, hm'] at ho
      rw [hFl, hm']
      have k0 : (0 : Int) ≤ (m : Int) := by omega
      have k1 : (m : Int) < (m : Int) + 1 := by omega
      have k2 : (x == (a : Int)) = false := by simp [e2]
      have k3 : (m : Int) ≤ 13000 := by omega
      have k5 : m ≤ 13000 := by omega
      have HO := Lib.hid ho
      clear h h0 hm hFl hm' hc1 hx e2 ho
      go_enter Tryz.func80, Tryz.ntmps80
      go_wp2_with (at_builtin; refine wpList_append_own _ rfl (.tmp 29) (.tmp 34) 52 rfl B 92 i0 (.agg #[.int .i64 0, .int .i64 0]) 2 16 Tryz.underlying52 hi hz0 hz1 hz2 rfl (by decide) _ (m + 1) _ rfl (HO.out.alloc _) ⟨w.heap.size, 0, none⟩ 1 1 [.int .i64 (a : Int), .int .i64 ((a : Int) + 1)] rfl rfl (cells_newQ _ _ _ _) (by intro u hu; simp at hu; rcases hu with rfl | rfl <;> rfl) (by unfold maxLen; omega) (by omega) (by simp; omega) ?_; intro v' w1 hown1 hgrow1 _)
      go_ret
      exact ⟨_, rfl, hown1, grownBy_trans HGR.out hgrow1⟩
end Go.Proofs.YthmaoeajbmfmaaaGreatDoor

/-
  Contract of Received for any stream.
-/
namespace Go.Proofs.YthmaoeajbmfmaaaGreatDoor
open Go.RowKit
set_option linter.unusedVariables false
set_option linter.unusedSimpArgs false

/-- What is received, and skipped, from a place on. -/
noncomputable def rcv (S : List Int) (n : Nat) : Nat → Nat → List Tel → List (Int × Int) → List Tel × List (Int × Int)
  | 0, _, ts, sp => (ts, sp)
  | f + 1, k, ts, sp => if k < n then (if okAt S n k = true then rcv S n f (k + 24) (ts ++ [telAt S n k]) sp else rcv S n f (k + 1) ts (extL sp k)) else (ts, sp)
theorem rcv_fuel (S : List Int) (n : Nat) : ∀ (f g k : Nat) (ts : List Tel) (sp : List (Int × Int)), n ≤ k + f → n ≤ k + g → rcv S n f k ts sp = rcv S n g k ts sp
  | 0, 0, _, _, _, _, _ => rfl
  | 0, g + 1, k, ts, sp, h, _ => by rw [rcv, rcv, if_neg (by omega)]
  | f + 1, 0, k, ts, sp, _, h => by rw [rcv, rcv, if_neg (by omega)]
  | f + 1, g + 1, k, ts, sp, hf, hg => by
    rw [rcv, rcv]
    by_cases h : k < n
    · rw [if_pos h, if_pos h]
      by_cases ho : okAt S n k = true
      · rw [if_pos ho, if_pos ho, rcv_fuel S n f g (k + 24) _ _ (by omega) (by omega)]
      · rw [if_neg ho, if_neg ho, rcv_fuel S n f g (k + 1) _ _ (by omega) (by omega)]
    · rw [if_neg h, if_neg h]
theorem rcv_hit {S : List Int} {n k : Nat} {ts : List Tel} {sp : List (Int × Int)} (h : k < n) (ho : okAt S n k = true) : rcv S n n k ts sp = rcv S n n (k + 24) (ts ++ [telAt S n k]) sp := by
  obtain ⟨m, rfl⟩ : ∃ m, n = m + 1 := ⟨n - 1, by omega⟩
  rw [rcv, if_pos h, if_pos ho]
  exact rcv_fuel _ _ _ _ _ _ _ (by omega) (by omega)
theorem rcv_miss {S : List Int} {n k : Nat} {ts : List Tel} {sp : List (Int × Int)} (h : k < n) (ho : okAt S n k = false) : rcv S n n k ts sp = rcv S n n (k + 1) ts (extL sp k) := by
  obtain ⟨m, rfl⟩ : ∃ m, n = m + 1 := ⟨n - 1, by omega⟩
  rw [rcv, if_pos h, if_neg (by simp [ho])]
  exact rcv_fuel _ _ _ _ _ _ _ (by omega) (by omega)
theorem rcv_end {S : List Int} {n k : Nat} {ts : List Tel} {sp : List (Int × Int)} (h : n ≤ k) : rcv S n n k ts sp = (ts, sp) := by
  cases n with
  | zero => rfl
  | succ m => rw [rcv, if_neg (by omega)]
noncomputable def rcvL (S : List Int) (n : Nat) : List Tel := (rcv S n n 0 [] []).1
noncomputable def rcvP (S : List Int) (n : Nat) : List (Int × Int) := (rcv S n n 0 [] []).2
theorem flat_snoc (ts : List Tel) (t : Tel) : (ts ++ [t]).flatMap Tel.val = ts.flatMap Tel.val ++ t.val := by simp

/-- A slice, nil or not, of bytes. -/
def AnyBytes (w : World) (a : Option Addr) (n : Nat) (S : List Int) : Prop := BytesV S n ∧ ∀ j, j < n → ∃ b q, a = some ⟨b, q, none⟩ ∧ b < w.heap.size ∧ w.rangeAt b q (S.map (Value.int .u8))
theorem AnyBytes.kept {w w' : World} {a : Option Addr} {n : Nat} {S : List Int} (h : AnyBytes w a n S) (hb : Below w.heap.size w w') : AnyBytes w' a n S :=
  ⟨h.1, fun j hj => by
    obtain ⟨b, q, e, h1, h2⟩ := h.2 j hj
    exact ⟨b, q, e, Nat.lt_of_lt_of_le h1 hb.size, fun i v hv => by rw [hb.cell (by exact h1)]; exact h2 i v hv⟩⟩

set_option maxRecDepth 100000 in
set_option maxHeartbeats 6400000 in
theorem received_all (S : List Int) (a : Option Addr) (n cp : Nat) (hm : n ≤ 12288) (hcp : n ≤ cp) (hcq : cp ≤ 9223372036854775807) (w : World) (hA : AnyBytes w a n S) :
    Calls Tryz.prog 21 #[.slice a n cp] w fun e w' =>
      ∃ v1 v2, e = .returned (.tuple #[v1, v2, .int .i64 0]) ∧ w'.ownsRow w.heap.size 48 6 v1 (rcvL S n).length ((rcvL S n).flatMap Tel.val) ∧ w'.ownsRow w.heap.size 92 2 v2 (rcvP S n).length ((rcvP S n).flatMap qval) ∧ Below w.heap.size w w' := by
  obtain ⟨i0, hi, hz0, hz1, hz2⟩ := info_parts Tryz.infoTel
  have HA := Lib.hid hA
  have i1 : ((n : Int) ≤ 12288) := by omega
  clear hA
  go_enter Tryz.func21, Tryz.ntmps21
  go_wp2
  go_loopw [5, 6, 7] (fun out sk i wr => ∃ (k : Nat) (ts : List Tel) (sp : List (Int × Int)), i = .int .i64 k ∧ k ≤ n + 23 ∧ ts.length ≤ k ∧ sp.length ≤ k ∧ Hid (rcv S n n k ts sp = rcv S n n 0 [] []) ∧
      wr.ownsRow w.heap.size 48 6 out ts.length (ts.flatMap Tel.val) ∧ wr.ownsRow w.heap.size 92 2 sk sp.length (sp.flatMap qval) ∧ Below w.heap.size w wr)
    (fun _ _ i _ => n - (intOf i).toNat)
  case atStart => exact ⟨0, [], [], rfl, by omega, by simp, by simp, Lib.hid rfl, World.ownsRow_nil _ _ _ _, World.ownsRow_nil _ _ _ _, Below.refl _ _⟩
  case round =>
    obtain ⟨k, ts, sp, rfl, hk, hts, hsp, hr, hown, hsk, hnx⟩ := hrel
    have hsz : w.heap.size ≤ wr.heap.size := hnx.size
    by_cases hlt : k < n
    · have h4 : (k : Int) < (n : Int) := by omega
      obtain ⟨b, q, rfl, hb, hc⟩ := HA.out.2 k hlt
      have hS := HA.out.1
      have hc2 : wr.rangeAt b q (S.map (Value.int .u8)) := fun i v hv => by rw [hnx.cell (by exact hb)]; exact hc i v hv
      have K := Lib.hid (telegramAt_all S b q n cp k hS (by omega) hm hcp hcq wr (by omega) hc2)
      obtain ⟨t, ht⟩ : ∃ t, telAt S n k = t := ⟨_, rfl⟩
      rw [ht] at K
      unfold Tel.agg at K
      have h5 : k ≤ 12311 := by omega
      have h6 : (k : Int) ≤ 12311 := by omega
      by_cases ho : okAt S n k = true
      · have hstep := rcv_hit (ts := ts) (sp := sp) hlt ho
        rw [ht] at hstep
        rw [ho] at K
        have HST : Hid (rcv S n n (k + 24) (ts ++ [t]) sp = rcv S n n 0 [] []) := Lib.hid (hstep.symm.trans hr.out)
        have HFL := Lib.hid (flat_snoc ts t)
        obtain ⟨F, hF⟩ : ∃ F, ts.flatMap Tel.val = F := ⟨_, rfl⟩
        obtain ⟨G, hG⟩ : ∃ G, sp.flatMap qval = G := ⟨_, rfl⟩
        obtain ⟨m1, hm1⟩ : ∃ m, ts.length = m := ⟨_, rfl⟩
        obtain ⟨m2, hm2⟩ : ∃ m, sp.length = m := ⟨_, rfl⟩
        rw [hF] at HFL
        rw [hF, hm1] at hown
        rw [hG, hm2] at hsk
        rw [hm1] at hts
        rw [hm2] at hsp
        have HM := Lib.hid (And.intro hm1 (And.intro hm2 hG))
        have HSK := Lib.hid hsk
        have HOWN := Lib.hid hown
        have HNX := Lib.hid hnx
        clear ho ht hstep hr hc hc2 hS hF hG hm1 hm2 hsk hown hnx HA
        go_wp2_with (first
          | (go_at_call 79; refine K.out.mono ?_; rintro e w2 ⟨rfl, hb2⟩
             have hown2 := owns_kept HOWN.out hb2 (Nat.le_refl _)
             have hsk2 := owns_kept HSK.out hb2 (Nat.le_refl _)
             have HSK2 := Lib.hid hsk2
             have hs2 := hb2.size
             clear hsk2)
          | (at_builtin; refine wpList_append_own _ rfl (.tmp 24) (.tmp 26) 51 rfl w.heap.size 48 i0 (.agg #[.int .i64 0, .int .i64 0, .int .i64 0, .int .i64 0, .int .i64 0, .int .i64 0]) 6 48 Tryz.underlying51 hi hz0 hz1 hz2 rfl (by decide) _ m1 _ rfl ((hown2.alloc _).alloc _) ⟨w2.heap.size + 1, 0, none⟩ 1 1 t.val rfl rfl (cells_new6' _ _ _ _ _ _ _ _ _) (by intro u hu; simp [Tel.val] at hu; rcases hu with rfl | rfl | rfl | rfl | rfl | rfl <;> rfl) (by unfold maxLen; omega) (by omega) (by simp; omega) ?_; intro v' w3 hown3 hgrow3 _))
        have hlt' := hown2.lt
        have hB2 : Below w.heap.size w w2 := HNX.out.trans (hb2.mono hsz)
        have hskE := ((HSK2.out.alloc (.cells #[.int .i64 t.s, .int .i64 t.c, .int .i64 t.o, .int .i64 t.x, .int .i64 t.y, .int .i64 t.z] 48)).alloc (.cells #[.int .i64 t.s, .int .i64 t.c, .int .i64 t.o, .int .i64 t.x, .int .i64 t.y, .int .i64 t.z] 48)).kept hgrow3 (own_ne HSK2.out hown2 (by decide))
        go_roundw
        case rel => exact ⟨k + 24, ts ++ [t], sp, by go_num, by omega, by rw [List.length_append, HM.out.1]; simp; omega, by rw [HM.out.2.1]; omega, HST, by rw [List.length_append, HM.out.1, HFL.out]; exact hown3, by rw [HM.out.2.1, HM.out.2.2]; exact hskE, ((hB2.alloc (by omega) _).alloc (by simp; omega) _).grown hgrow3 (by simp; omega) (fun j hj => (hlt' j hj).1)⟩
        case measure => simp [intOf]; omega
      · have ho := Bool.eq_false_iff.2 ho
        have hstep := rcv_miss (ts := ts) (sp := sp) hlt ho
        rw [ho] at K
        have HST : Hid (rcv S n n (k + 1) ts (extL sp k) = rcv S n n 0 [] []) := Lib.hid (hstep.symm.trans hr.out)
        have hxl := extL_len sp k
        have KE := Lib.hid (fun (w1 : World) (h1 : w.heap.size ≤ w1.heap.size) h2 => extended_any sp k w.heap.size u6 w1 h1 (by omega) (by omega) h2)
        obtain ⟨F, hF⟩ : ∃ F, ts.flatMap Tel.val = F := ⟨_, rfl⟩
        obtain ⟨m1, hm1⟩ : ∃ m, ts.length = m := ⟨_, rfl⟩
        obtain ⟨X, hX⟩ : ∃ X, extL sp k = X := ⟨_, rfl⟩
        rw [hX] at HST KE hxl
        rw [hF, hm1] at hown
        rw [hm1] at hts
        have HM := Lib.hid (And.intro hm1 hF)
        have HSK := Lib.hid hsk
        have HOWN := Lib.hid hown
        have HNX := Lib.hid hnx
        clear ho ht hstep hr hc hc2 hS hF hm1 hX hsk hown hnx HA
        go_wp2_with (first
          | (go_at_call 79; refine K.out.mono ?_; rintro e w2 ⟨rfl, hb2⟩
             have hown2 := owns_kept HOWN.out hb2 (Nat.le_refl _)
             have hsk2 := owns_kept HSK.out hb2 (Nat.le_refl _)
             have HOWN2 := Lib.hid hown2
             have hs2 := hb2.size
             clear hown2)
          | (go_at_call 80; refine (KE.out _ (by simp; omega) (hsk2.alloc _)).mono ?_; rintro e w3 ⟨v', rfl, hown3, hgrow3⟩))
        have hlt' := hsk2.lt
        have hB2 : Below w.heap.size w w2 := HNX.out.trans (hb2.mono hsz)
        have hoE := (HOWN2.out.alloc (.cells #[.int .i64 t.s, .int .i64 t.c, .int .i64 t.o, .int .i64 t.x, .int .i64 t.y, .int .i64 t.z] 48)).kept hgrow3 (own_ne HOWN2.out hsk2 (by decide))
        go_roundw
        case rel => exact ⟨k + 1, ts, X, by go_num, by omega, by rw [HM.out.1]; omega, by omega, HST, by rw [HM.out.1, HM.out.2]; exact hoE, hown3, (hB2.alloc (by omega) _).grown hgrow3 (by simp; omega) (fun j hj => (hlt' j hj).1)⟩
        case measure => simp [intOf]; omega
    · have h4 : ¬ ((k : Int) < (n : Int)) := by omega
      have he := rcv_end (S := S) (ts := ts) (sp := sp) (show n ≤ k by omega)
      have e1 : rcvL S n = ts := by unfold rcvL; rw [← hr.out, he]
      have e2 : rcvP S n = sp := by unfold rcvP; rw [← hr.out, he]
      rw [← e1] at hown
      rw [← e2] at hsk
      have HO := Lib.hid hown
      have HK := Lib.hid hsk
      have HX := Lib.hid hnx
      clear he e1 e2 hown hsk hnx hr
      go_wp2
      refine bodyPost_ret (v := .tuple #[u5, u6, .int .i64 0]) (by simp [results, Tryz.results21, go_sem]) rfl ⟨_, _, rfl, HO.out, HK.out, HX.out⟩

set_option maxRecDepth 100000 in
theorem received_long (a : Option Addr) (n cp : Nat) (hm : 12288 < n) (hl : n ≤ 100000) (w : World) :
    Calls Tryz.prog 21 #[.slice a n cp] w fun e w' => e = .returned (.tuple #[.slice none 0 0, .slice none 0 0, .int .i64 26]) ∧ w = w' := by
  have i1 : (12288 : Int) < (n : Int) := by omega
  have i2 : (n : Int) ≤ 100000 := by omega
  go_enter Tryz.func21, Tryz.ntmps21
  go_wp2
  refine bodyPost_ret (v := .tuple #[.slice none 0 0, .slice none 0 0, .int .i64 26]) (by simp [results, Tryz.results21, go_sem]) rfl ⟨rfl, rfl⟩
end Go.Proofs.YthmaoeajbmfmaaaGreatDoor
