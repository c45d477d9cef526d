/-
  Contract of the reference's Lost, for right telegrams.
-/
import Derived.Test.YtfdkmmllemkogaaGreatDoorOGa
import Derived.Test.YtfdkmmllemkogaaGreatDoorOBd
import Derived.Test.YtfdkmmllemkogaaGreatDoorODg
import Derived.OpenShut
namespace Go.Proofs.YtfdkmmllemkogaaGreatDoor
open Go.RowKit
set_option linter.unusedVariables false
set_option linter.unusedSimpArgs false

theorem cycTo_app (xs ys : List Int) : ∀ k, k < xs.length → cycTo (xs ++ ys) k = cycTo xs k
  | 0, _ => by simp [cycTo]
  | k + 1, h => by
    rw [cycTo_succ, cycTo_succ, cycTo_app xs ys k (by omega), List.getElem?_append_left (by omega), List.getElem?_append_left (by omega)]
def endOf (xs : List Int) : Int := if xs.length = 0 then -1 else xs[xs.length - 1]?.getD 0
/-- What is lost between the counters. -/
def lostOf (xs : List Int) : List Int := cycTo xs (xs.length - 1)
theorem lostOf_one (xs : List Int) (c : Int) (h : xs.length = 0) : lostOf (xs ++ [c]) = [] ∧ lostOf xs = [] := by
  obtain rfl := List.length_eq_zero_iff.1 h
  exact ⟨rfl, rfl⟩
theorem lostOf_more (xs : List Int) (c : Int) (h : xs.length ≠ 0) : lostOf (xs ++ [c]) = lostOf xs ++ cyc (endOf xs) c := by
  unfold lostOf endOf
  obtain ⟨m, hm⟩ : ∃ m, xs.length = m + 1 := ⟨xs.length - 1, by omega⟩
  rw [if_neg h, List.length_append, hm]
  show cycTo (xs ++ [c]) (m + 1) = _
  rw [cycTo_succ, cycTo_app xs [c] m (by omega), List.getElem?_append_left (by omega), List.getElem?_append_right (by omega), hm]
  simp
theorem endOf_app (xs : List Int) (c : Int) : endOf (xs ++ [c]) = c := by
  unfold endOf
  rw [if_neg (by simp)]
  simp
theorem lostOf_pre (xs : List Int) (c : Int) : lostOf xs <+: lostOf (xs ++ [c]) := by
  by_cases h : xs.length = 0
  · rw [(lostOf_one xs c h).2]; exact List.nil_prefix
  · rw [lostOf_more xs c h]; exact List.prefix_append _ _
theorem lostTo_step (L : List Tel) (st : Int) (k : Nat) (hk : k < L.length) : lostOf (countsOf (L.take k) st) <+: lostOf (countsOf (L.take (k + 1)) st) := by
  rw [countsOf_succ L st k hk]
  split
  · exact lostOf_pre _ _
  · exact List.prefix_refl _
theorem lostTo_pre (L : List Tel) (st : Int) : ∀ d k, k + d = L.length → lostOf (countsOf (L.take k) st) <+: lostOf (countsOf L st)
  | 0, k, h => by rw [List.take_of_length_le (by omega)]; exact List.prefix_refl _
  | d + 1, k, h => (lostTo_step L st k (by omega)).trans (lostTo_pre L st d (k + 1) (by omega))
theorem lostOf_L (L : List Tel) (st : Int) : lostL L st = lostOf (countsOf L st) := rfl
theorem some_pre (pre : List Int) (a b : Int) (j : Nat) (hj : j ≤ wide a b) : someOf pre a j <+: pre ++ cyc a b := by
  unfold someOf cyc
  refine (List.prefix_append_right_inj _).2 (List.IsPrefix.map _ ?_)
  obtain ⟨d, hd⟩ : ∃ d, wide a b = j + d := ⟨_, (Nat.add_sub_of_le hj).symm⟩
  rw [hd, List.range_add]
  exact List.prefix_append _ _
theorem endOf_bd (xs : List Int) (h : ∀ j, j < xs.length → 0 ≤ xs[j]?.getD 0 ∧ xs[j]?.getD 0 ≤ 65535) : -1 ≤ endOf xs ∧ endOf xs ≤ 65535 ∧ (xs.length ≠ 0 → 0 ≤ endOf xs) ∧ (xs.length = 0 → endOf xs = -1) := by
  unfold endOf
  by_cases h0 : xs.length = 0
  · rw [if_pos h0]; exact ⟨by omega, by omega, fun h => absurd h0 h, fun _ => rfl⟩
  · rw [if_neg h0]
    have := h (xs.length - 1) (by omega)
    exact ⟨by omega, by omega, fun _ => this.1, fun h => absurd h h0⟩

/-- What the reference's Lost answers. -/
def RefLost (X : List Int) (w : World) (e : Ending) (w' : World) : Prop := ∃ v, e = .returned (.tuple #[v, .int .i64 (if 256 < X.length then 5 else 0)]) ∧ IntsV w' v (if 256 < X.length then 0 else X.length) X ∧ Below w.heap.size w w'
theorem RefLost.many {X : List Int} {w w' : World} (h : 256 < X.length) (hb : Below w.heap.size w w') : RefLost X w (.returned (.tuple #[.slice none 0 0, .int .i64 5])) w' :=
  ⟨_, by rw [if_pos h], by rw [if_pos h]; exact IntsV.nil _ _, hb⟩
theorem RefLost.few {X : List Int} {w w' : World} {v : Value} (h : ¬ 256 < X.length) (hi : IntsV w' v X.length X) (hb : Below w.heap.size w w') : RefLost X w (.returned (.tuple #[v, .int .i64 0])) w' :=
  ⟨_, by rw [if_neg h], by rw [if_neg h]; exact hi, hb⟩

set_option maxRecDepth 100000 in
set_option maxHeartbeats 6400000 in
theorem refLost_any (L : List Tel) (a : Option Addr) (n cp : Nat) (st : Int) (hm : n ≤ 512) (hgood : ∀ t ∈ L, t.Good) (w : World) (hA : AnyTels w a n L) :
    Calls Tryz.prog 87 #[.slice a n cp, .int .i64 st] w (RefLost (lostOf (countsOf L st)) w) := by
  obtain ⟨i0, hi, hz0, hz1, hz2⟩ := info_parts Tryz.infoInt
  have HC := Lib.hid hA.2
  have HN := Lib.hid hA.1.symm
  have HG := Lib.hid hgood
  have i1 : ((n : Int) ≤ 512) := by omega
  clear hA hgood
  go_enter Tryz.func87, Tryz.ntmps87
  go_wp2
  go_loopw [6, 7, 8] (fun out la i wr => ∃ k : Nat, k ≤ n ∧ i = .int .i64 k ∧ la = .int .i64 (endOf (countsOf (L.take k) st)) ∧ (lostOf (countsOf (L.take k) st)).length ≤ 256 ∧ wr.ownsRow w.heap.size 3 1 out (lostOf (countsOf (L.take k) st)).length ((lostOf (countsOf (L.take k) st)).map (Value.int .i64)) ∧ Below w.heap.size w wr)
    (fun _ _ i _ => n - (intOf i).toNat)
  case atStart => exact ⟨0, Nat.zero_le _, rfl, rfl, by simp [countsOf, lostOf, cycTo], World.ownsRow_nil _ _ _ _, Below.refl _ _⟩
  case round =>
    obtain ⟨k, hk, rfl, rfl, hlen, hown, hnx⟩ := hrel
    have hsz : w.heap.size ≤ wr.heap.size := hnx.size
    by_cases hlt : k < n
    · have hlt2 : k < L.length := by have := HN.out; omega
      obtain ⟨b, q, rfl, hb, hT0⟩ := HC.out k hlt
      have hT := hT0 k hlt2
      have hS := countsOf_succ L st k hlt2
      have hG : (L[k]?.getD tel0).Good := by
        rw [List.getElem?_eq_getElem hlt2]; exact HG.out _ (List.getElem_mem hlt2)
      have hP := lostTo_pre L st (L.length - (k + 1)) (k + 1) (by omega)
      have hbd := endOf_bd (countsOf (L.take k) st) (counts_bd (L.take k) st (fun t ht => HG.out t (List.mem_of_mem_take ht)))
      obtain ⟨t, ht⟩ : ∃ t, L[k]?.getD tel0 = t := ⟨_, rfl⟩
      rw [ht] at hT hS hG
      have hc0 : wr.cell? ⟨b, q + k * 6, none⟩ = some (.int .i64 t.s) := (hnx.cell (by exact hb)).trans (hT 0 _ rfl)
      have hc1 : wr.cell? ⟨b, q + k * 6 + 1, none⟩ = some (.int .i64 t.c) := (hnx.cell (by exact hb)).trans (hT 1 _ rfl)
      have hct := hG.ct
      obtain ⟨xs, hxs⟩ : ∃ xs, countsOf (L.take k) st = xs := ⟨_, rfl⟩
      rw [hxs] at hS hlen hown hbd ⊢
      obtain ⟨la, hla⟩ : ∃ la, endOf xs = la := ⟨_, rfl⟩
      have HLA := Lib.hid hla
      rw [hla] at hbd ⊢
      obtain ⟨pre, hpre⟩ : ∃ pre, lostOf xs = pre := ⟨_, rfl⟩
      have HPRE := Lib.hid hpre
      rw [hpre] at hlen hown
      clear ht hT hT0 hG hxs hlt2 HC HG hla hpre
      by_cases hst : t.s = st
      · have e0 : (t.s != st) = false := by simp [hst]
        rw [if_pos hst] at hS
        clear hst
        by_cases h0 : xs.length = 0
        · have e1 : ¬ (0 ≤ la) := by have := hbd.2.2.2 h0; omega
          have h1 := lostOf_one xs t.c h0
          have HS : Hid (endOf (countsOf (L.take (k + 1)) st) = t.c ∧ lostOf (countsOf (L.take (k + 1)) st) = pre) := Lib.hid ⟨by rw [hS, endOf_app], by rw [hS, h1.1, ← HPRE.out, h1.2]⟩
          have HO := Lib.hid hown
          have HX := Lib.hid hnx
          have HLN := Lib.hid hlen
          clear hS hP h1 h0 hbd hown hnx hlen
          go_wp2
          go_roundw
          case rel => exact ⟨k + 1, by omega, by go_num, by rw [HS.out.1], by rw [HS.out.2]; exact HLN.out, by rw [HS.out.2]; exact HO.out, HX.out⟩
          case measure => simp [intOf]; omega
        · have e1 : 0 ≤ la := hbd.2.2.1 h0
          have e2 : la ≤ 65535 := hbd.2.1
          have hL := lostOf_more xs t.c h0
          rw [HLA.out, HPRE.out] at hL
          have HS : Hid (endOf (countsOf (L.take (k + 1)) st) = t.c ∧ lostOf (countsOf (L.take (k + 1)) st) = pre ++ cyc la t.c) := Lib.hid ⟨by rw [hS, endOf_app], by rw [hS, hL]⟩
          rw [HS.out.2] at hP
          have HP := Lib.hid (fun j hj => (some_pre pre la t.c j hj).trans hP)
          have HQ := Lib.hid (fun j => @onward_eq la _ hct j)
          obtain ⟨Wd, hWide⟩ : ∃ Wd : Nat, wide la t.c = Wd := ⟨_, rfl⟩
          have HALL : Hid (pre ++ cyc la t.c = someOf pre la Wd) := Lib.hid (by rw [← hWide]; rfl)
          rw [hWide] at HP HQ
          have hf0 := onward_0 la
          obtain ⟨x0, hx0⟩ : ∃ x0, onward la 0 = x0 := ⟨_, rfl⟩
          rw [hx0] at hf0
          have HX0 := Lib.hid hx0
          clear hS hP hL hWide h0 hbd hx0
          go_wp2_with fail
          have HO := Lib.hid hown
          have HNX := Lib.hid hnx
          have HC0 := Lib.hid hc0
          have HC1 := Lib.hid hc1
          clear hown hc0 hf0
          obtain ⟨wo, hwo⟩ : ∃ wo : World, wo = wr := ⟨_, rfl⟩
          subst hwo
          go_loopw [6, 9] (fun out i wi => ∃ j : Nat, j ≤ Wd ∧ i = .int .i64 (onward la j) ∧ (someOf pre la j).length ≤ 256 ∧ wi.ownsRow w.heap.size 3 1 out (someOf pre la j).length ((someOf pre la j).map (Value.int .i64)) ∧ Below w.heap.size w wi)
            (fun out i _ => match out with | .slice _ l _ => 300 - l | _ => 0)
          case atStart => exact ⟨0, by omega, by rw [onward_0 la], by simpa [someOf] using hlen, by simpa [someOf] using HO.out, HNX.out⟩
          case round =>
            obtain ⟨j, hj, rfl, hln, hown, hnx2⟩ := hrel
            have hsz2 := hnx2.size
            have hc1' : wr.cell? ⟨b, q + k * 6 + 1, none⟩ = some (.int .i64 t.c) := (hnx2.cell (p := ⟨b, q + k * 6 + 1, none⟩) hb).trans ((HNX.out.cell (p := ⟨b, q + k * 6 + 1, none⟩) hb).symm.trans HC1.out)
            have hc0' : wr.cell? ⟨b, q + k * 6, none⟩ = some (.int .i64 t.s) := (hnx2.cell (p := ⟨b, q + k * 6, none⟩) hb).trans ((HNX.out.cell (p := ⟨b, q + k * 6, none⟩) hb).symm.trans HC0.out)
            clear hnx hc1
            by_cases hjl : j < Wd
            · have hne : (onward la j != t.c) = true := by
                have h := (HQ.out j hj).1
                simp; intro h2; have := h h2; omega
              have hob := onward_bd la j
              have hos := onward_succ la j
              have hsu := someOf_succ pre la j
              have hsl := someOf_len pre la (j + 1)
              have hsl0 := someOf_len pre la j
              have hPj := HP.out (j + 1) (by omega)
              obtain ⟨S, hSd⟩ : ∃ S, someOf pre la j = S := ⟨_, rfl⟩
              obtain ⟨S1, hSd1⟩ : ∃ S1, someOf pre la (j + 1) = S1 := ⟨_, rfl⟩
              rw [hSd] at hsl0 hln hown hsu
              rw [hSd1] at hsl hsu hPj
              obtain ⟨ℓ, hℓ⟩ : ∃ ℓ, S.length = ℓ := ⟨_, rfl⟩
              obtain ⟨x, hx⟩ : ∃ x, onward la j = x := ⟨_, rfl⟩
              obtain ⟨x1, hx1⟩ : ∃ x1, onward la (j + 1) = x1 := ⟨_, rfl⟩
              rw [hx] at hne hob hos hsu ⊢
              rw [hx1] at hos
              rw [hℓ] at hown hln hsl0
              have hl1 : S1.length = ℓ + 1 := by omega
              have hob1 := hob.1
              have hob2 := hob.2
              have HSU := Lib.hid hsu
              have HOS := Lib.hid hos
              clear hos
              have HD := Lib.hid (And.intro hSd1 hx1)
              have HL1 := Lib.hid hl1
              by_cases h256 : ℓ = 256
              · have hT : 256 < (lostOf (countsOf L st)).length := by
                  have := hPj.length_le
                  omega
                have HT := Lib.hid hT
                have i9 : (256 : Int) < (ℓ : Int) + 1 := by omega
                clear hT hPj hℓ hsl hsl0 hsu hl1 hSd hSd1 hx hx1 h256 hob
                go_wp2_with (at_builtin; refine wpList_append_own _ rfl (.tmp 38) (.tmp 40) 25 rfl w.heap.size 3 i0 (.int .i64 0) 1 8 Tryz.underlying25 hi hz0 hz1 hz2 rfl (by decide) _ _ _ rfl (hown.alloc _) ⟨wr.heap.size, 0, none⟩ 1 1 [.int .i64 x] rfl rfl (cell_one_new _ _ _) (by intro u hu; simp at hu; subst hu; rfl) (by unfold maxLen; omega) (by omega) (by simp; omega) ?_; intro v' w3 hown3 hgrow3 _; obtain ⟨ao, cc, rfl⟩ := owns_slice hown3)
                have hlt' := hown.lt
                go_ret2
                exact RefLost.many HT.out ((hnx2.alloc hsz2 _).grown hgrow3 (by simp; omega) (fun q hq => (hlt' q hq).1))
              · have i9 : ¬ ((256 : Int) < (ℓ : Int) + 1) := by omega
                have hℓ2 : ℓ ≤ 255 := by omega
                clear hPj hℓ hsl hsl0 hsu hl1 hSd hSd1 hx hx1 h256 hob
                go_wp2_with (at_builtin; refine wpList_append_own _ rfl (.tmp 38) (.tmp 40) 25 rfl w.heap.size 3 i0 (.int .i64 0) 1 8 Tryz.underlying25 hi hz0 hz1 hz2 rfl (by decide) _ _ _ rfl (hown.alloc _) ⟨wr.heap.size, 0, none⟩ 1 1 [.int .i64 x] rfl rfl (cell_one_new _ _ _) (by intro u hu; simp at hu; subst hu; rfl) (by unfold maxLen; omega) (by omega) (by simp; omega) ?_; intro v' w3 hown3 hgrow3 _; obtain ⟨ao, cc, rfl⟩ := owns_slice hown3)
                have hlt' := hown.lt
                go_roundw
                case rel =>
                  refine ⟨j + 1, by omega, by rw [HD.out.2, HOS.out], by rw [HD.out.1, HL1.out]; omega, ?_, (hnx2.alloc hsz2 _).grown hgrow3 (by simp; omega) (fun q hq => (hlt' q hq).1)⟩
                  rw [HD.out.1, HSU.out, HL1.out]
                  exact hown3
                case measure =>
                  obtain ⟨ao2, cc2, hv2⟩ := owns_slice hown
                  subst hv2
                  simp; omega
            · have hje : j = Wd := by omega
              have hne : (onward la j != t.c) = false := by
                have h := (HQ.out j hj).2 hje
                simp [h]
              subst hje
              have HO2 := Lib.hid hown
              have HX := Lib.hid hnx2
              have HLN := Lib.hid hln
              clear hown hnx2 hln
              go_wp2
              go_roundw
              case rel => exact ⟨k + 1, by omega, by go_num, by rw [HS.out.1], by rw [HS.out.2, HALL.out]; exact HLN.out, by rw [HS.out.2, HALL.out]; exact HO2.out, HX.out⟩
              case measure => simp [intOf]; omega
      · have e0 : (t.s != st) = true := by simp [hst]
        rw [if_neg hst] at hS
        have HS : Hid (endOf (countsOf (L.take (k + 1)) st) = la ∧ lostOf (countsOf (L.take (k + 1)) st) = pre) := Lib.hid ⟨by rw [hS, HLA.out], by rw [hS, HPRE.out]⟩
        have HO := Lib.hid hown
        have HX := Lib.hid hnx
        have HLN := Lib.hid hlen
        clear hst hS hP hbd hown hnx hlen
        go_wp2
        go_roundw
        case rel => exact ⟨k + 1, by omega, by go_num, by rw [HS.out.1], by rw [HS.out.2]; exact HLN.out, by rw [HS.out.2]; exact HO.out, HX.out⟩
        case measure => simp [intOf]; omega
    · obtain rfl : k = n := by omega
      have ht : L.take k = L := List.take_of_length_le (by have := HN.out; omega)
      rw [ht] at hlen hown ⊢
      have HI := Lib.hid (IntsV.of_row hown)
      have hnn : ¬ (256 < (lostOf (countsOf L st)).length) := by omega
      have HNN := Lib.hid hnn
      have HX := Lib.hid hnx
      clear ht hown hnx hnn hlen
      go_wp2
      go_ret2
      exact RefLost.few HNN.out HI.out HX.out
end Go.Proofs.YtfdkmmllemkogaaGreatDoor

/-
  The walk of LightLosses.
-/
namespace Go.Proofs.YtfdkmmllemkogaaGreatDoor
open Go.RowKit Go.Shelf
set_option linter.unusedVariables false
set_option linter.unusedSimpArgs false

set_option maxHeartbeats 1600000 in
theorem lFirst_any (b o n c : Nat) (zs : List Int) (hz : zs.length = n) (hm : n ≤ 4611686018427387904) (w : World)
    (hc : ∀ j, j < n → w.cell? ⟨b, o + j, none⟩ = some (.int .i64 (zs[j]?.getD 0))) :
    Calls Tryz.prog 21 #[.slice (some ⟨b, o, none⟩) n c] w fun e w' => e = .returned (.int .i64 (firstNZ zs)) ∧ w = w' := by
  have K := Lib.hid (refFirst_any b o n c zs hz hm w hc)
  clear hz hm hc
  go_enter Tryz.func21, Tryz.ntmps21
  go_wp2_with (go_at_call 111; refine K.out.mono ?_; rintro e w1 ⟨rfl, rfl⟩)
  go_ret
  exact ⟨rfl, rfl⟩

set_option maxRecDepth 100000 in
set_option maxHeartbeats 1600000 in
theorem refCheckTelegrams_many (a : Option Addr) (cp : Nat) (w : World) :
    Calls Tryz.prog 86 #[.slice a 513 cp] w fun e w' => e = .returned (.int .i64 5) ∧ Below w.heap.size w w' := by
  go_enter Tryz.func86, Tryz.ntmps86
  go_wp2
  go_ret
  exact ⟨rfl, Below.refl _ _⟩

set_option maxRecDepth 100000 in
set_option maxHeartbeats 6400000 in
theorem losses_walk (w : World) (L : List Tel) (a : Option Addr) (n cp : Nat) (st : Int) (E T Q : Int) (N : Nat) (X : List Int) (hN : N ≤ 4096) (hE : E ≠ 0 → N = 0)
    (hs : (decide (n ≤ 20) || decide (n = 513)) = true) (hA : AnyTels w a n L) (ht : TabAt w)
    (k2 : ∀ (w1 : World) (a' : Option Addr) (c' : Nat), AnyTels w1 a' n L → Calls Tryz.prog 84 #[.slice a' n c', .int .i64 st] w1 fun e w' => ∃ v, e = .returned (.tuple #[v, .int .i64 E]) ∧ IntsV w' v N X ∧ Below w1.heap.size w1 w')
    (k3 : ∀ w1 : World, AnyTels w1 a n L → Calls Tryz.prog 86 #[.slice a n cp] w1 fun e w' => e = .returned (.int .i64 T) ∧ Below w1.heap.size w1 w')
    (k4 : firstNZ [T, rangeErr st 0 255] = Q)
    (k5 : Q = 0 → ∀ w1 : World, AnyTels w1 a n L → Calls Tryz.prog 87 #[.slice a n cp, .int .i64 st] w1 fun e w' => ∃ v, e = .returned (.tuple #[v, .int .i64 E]) ∧ IntsV w' v N X ∧ Below w1.heap.size w1 w')
    (k6 : Q ≠ 0 → E = Q) :
    Calls Tryz.prog 10 #[.slice a n cp, .int .i64 st] w (TruePost w) := by
  have hn : n ≤ 513 := by simp at hs; omega
  have KS : Hid (∀ w1 : World, Calls Tryz.prog 83 #[.slice a n cp] w1 fun e w' => e = .returned (.bool true) ∧ w1 = w') := Lib.hid fun w1 => by
    have h := short_any a n cp w1 (by unfold maxLen; omega)
    rwa [hs] at h
  have KT := Lib.hid (telegrams_any L a n cp hn w hA)
  have K2 := Lib.hid k2
  have K3 := Lib.hid k3
  have K4 := Lib.hid k4
  have HA := Lib.hid hA
  have HE := Lib.hid hE
  have KW : Hid (∀ w1 : World, Below w.heap.size w w1 → Calls Tryz.prog 19 #[] w1 fun e w' => e = .returned (.bool true) ∧ Below w.heap.size w w') :=
    Lib.hid fun w1 h => (awake_any w1 (ht.on h)).mono fun e w' ⟨he, hb⟩ => ⟨he, h.trans (hb.mono h.size)⟩
  by_cases hQ : Q = 0
  · have K5 := Lib.hid (k5 hQ)
    subst hQ
    have hb34d : True := trivial
    clear k2 k3 k4 k5 k6 hA hE ht hs hn
    go_enter Tryz.func10, Tryz.ntmps10
    go_wp2_with (first
      | (go_at_call 83; refine (KS.out _).mono ?_; rintro e w0 ⟨rfl, rfl⟩)
      | (go_at_call 85; refine KT.out.mono ?_; rintro e w1 ⟨a', c', rfl, hA1, hb1⟩)
      | (go_at_call 84; refine (K2.out _ _ _ hA1).mono ?_; rintro e w2 ⟨v, rfl, hv, hb2⟩;
         have hb3 := hb1.trans (hb2.mono hb1.size); clear hA1 hb1 hb2)
      | (go_at_call 86; refine (K3.out _ (HA.out.kept hb3)).mono ?_; rintro e w3 ⟨rfl, hbq⟩;
         have hv3 := hv.kept hbq; have hb33 := hb3.trans (hbq.mono hb3.size); clear hv hb3 hbq)
      | (go_at_call 23; refine (refCheckRange_any _ _ _ _).mono ?_; rintro e w9 ⟨rfl, rfl⟩)
      | ((go_at_call 21; refine (lFirst_any _ 0 2 2 [T, rangeErr st 0 255] rfl (by omega) _ ?_).mono ?_; rotate_left 1; rintro e w4 ⟨rfl, rfl⟩; rw [K4.out]; (have hb4 := hb33.alloc hb33.size (.cells #[.int .i64 T, .int .i64 (rangeErr st 0 255)] 3)); (have hb34 := (Below.refl w3.heap.size w3).alloc (Nat.le_refl _) (.cells #[.int .i64 T, .int .i64 (rangeErr st 0 255)] 3)); rotate_left 1; (intro j hj; match j, hj with | 0, _ => simp [go_sem] | 1, _ => simp [go_sem])))
      | (go_at_call 87; refine (K5.out _ (HA.out.kept hb4)).mono ?_; rintro e w5 ⟨v5, rfl, hv5, hb5⟩;
         have hb6 := hb4.trans (hb5.mono hb4.size);
         have hv6 := hv3.kept (hb34.trans (hb5.mono hb34.size)); clear hv3 hb34 hb5)
      | (go_at_call 27; refine (listed_ok _ _ _ X E (by omega) HE.out _ hv6 hv5).mono ?_; rintro e w7 ⟨rfl, hb7⟩;
         have hb8 := hb6.trans (hb7.mono hb6.size); clear hb7)
      | (go_at_call 19; refine (KW.out _ hb8).mono ?_; rintro e w10 ⟨rfl, hb10⟩))
    go_ret
    exact ⟨rfl, hb10⟩
  · obtain rfl := k6 hQ
    have e0 : (E == 0) = false := by simp [hQ]
    obtain rfl := hE hQ
    clear k2 k3 k4 k5 k6 hA hE ht hs hn hQ
    go_enter Tryz.func10, Tryz.ntmps10
    go_wp2_with (first
      | (go_at_call 83; refine (KS.out _).mono ?_; rintro e w0 ⟨rfl, rfl⟩)
      | (go_at_call 85; refine KT.out.mono ?_; rintro e w1 ⟨a', c', rfl, hA1, hb1⟩)
      | (go_at_call 84; refine (K2.out _ _ _ hA1).mono ?_; rintro e w2 ⟨v, rfl, hv, hb2⟩;
         have hb3 := hb1.trans (hb2.mono hb1.size); clear hA1 hb1 hb2)
      | (go_at_call 86; refine (K3.out _ (HA.out.kept hb3)).mono ?_; rintro e w3 ⟨rfl, hbq⟩;
         have hv3 := hv.kept hbq; have hb33 := hb3.trans (hbq.mono hb3.size); clear hv hb3 hbq)
      | (go_at_call 23; refine (refCheckRange_any _ _ _ _).mono ?_; rintro e w9 ⟨rfl, rfl⟩)
      | ((go_at_call 21; refine (lFirst_any _ 0 2 2 [T, rangeErr st 0 255] rfl (by omega) _ ?_).mono ?_; rotate_left 1; rintro e w4 ⟨rfl, rfl⟩; rw [K4.out]; (have hb4 := hb33.alloc hb33.size (.cells #[.int .i64 T, .int .i64 (rangeErr st 0 255)] 3)); (have hb34 := (Below.refl w3.heap.size w3).alloc (Nat.le_refl _) (.cells #[.int .i64 T, .int .i64 (rangeErr st 0 255)] 3)); rotate_left 1; (intro j hj; match j, hj with | 0, _ => simp [go_sem] | 1, _ => simp [go_sem])))
      | (go_at_call 27; refine (listed_ok _ _ _ X E (by omega) (fun _ => rfl) _ (hv3.kept hb34) (IntsV.nil _ _)).mono ?_; rintro e w7 ⟨rfl, hb7⟩;
         have hb8 := hb4.trans (hb7.mono hb4.size); clear hb7)
      | (go_at_call 19; refine (KW.out _ hb8).mono ?_; rintro e w10 ⟨rfl, hb10⟩))
    go_ret
    exact ⟨rfl, hb10⟩

theorem argErr_two (L : List Tel) (st : Int) : firstNZ [telsErr L, rangeErr st 0 255] = argErr L st := rfl
theorem lostN_le (L : List Tel) (st : Int) : lostN L st ≤ 4096 ∧ (lostErr L st ≠ 0 → lostN L st = 0) := by
  unfold lostN
  split
  · rename_i h
    refine ⟨?_, fun h' => absurd h h'⟩
    unfold lostErr at h
    split at h
    · rename_i h2; exact absurd h h2
    · split at h
      · cases h
      · omega
  · exact ⟨by omega, fun _ => rfl⟩

/-- LightLosses, for every list of telegrams and every station. -/
theorem losses_all (w : World) (L : List Tel) (a : Option Addr) (n cp : Nat) (st : Int) (hm : n ≤ maxLen) (hA : AnyTels w a n L) (ht : TabAt w) :
    Calls Tryz.prog 10 #[.slice a n cp, .int .i64 st] w (TruePost w) := by
  by_cases hs : (decide (n ≤ 20) || decide (n = 513)) = true
  · by_cases hn : n = 513
    · subst hn
      exact losses_walk w L a 513 cp st 5 5 5 0 [] (by omega) (fun _ => rfl) hs hA ht
        (fun w1 a' c' h1 => (lost_many a' c' st w1).mono fun e w' ⟨he, hw⟩ => ⟨_, he, IntsV.nil _ _, hw⟩)
        (fun w1 h1 => refCheckTelegrams_many a cp w1) rfl (fun h => absurd h (by decide)) (fun _ => rfl)
    · have hn2 : n ≤ 512 := by simp at hs; omega
      obtain ⟨h1, h2⟩ := lostN_le L st
      refine losses_walk w L a n cp st (lostErr L st) (telsErr L) (argErr L st) (lostN L st) (lostL L st) h1 h2 hs hA ht
        (fun w1 a' c' h => lost_all L a' n c' st hn2 w1 h) (fun w1 h => refCheckTelegrams_any L a n cp hn2 w1 h) rfl ?_ ?_
      · intro h0 w1 h
        have hE : lostErr L st = if 256 < (lostL L st).length then 5 else 0 := by unfold lostErr; rw [if_neg (by simp [h0])]
        refine (refLost_any L a n cp st hn2 (telsErr_good (argErr_zero h0).1) w1 h).mono ?_
        rintro e w' ⟨v, rfl, hv, hb⟩
        refine ⟨v, by rw [hE, lostOf_L], ?_, hb⟩
        unfold lostN
        rw [hE, lostOf_L]
        by_cases hl : 256 < (lostOf (countsOf L st)).length
        · rw [if_pos hl] at hv ⊢
          exact hv
        · rw [if_neg hl] at hv ⊢
          exact hv
      · intro h0
        unfold lostErr
        rw [if_pos h0]
  · have hs := Bool.eq_false_iff.2 hs
    have KS : Hid (∀ w1 : World, Calls Tryz.prog 83 #[.slice a n cp] w1 fun e w' => e = .returned (.bool false) ∧ w1 = w') := Lib.hid fun w1 => by
      have h := short_any a n cp w1 hm
      rwa [hs] at h
    have KW := Lib.hid (awake_any w ht)
    clear hs hm hA ht
    go_enter Tryz.func10, Tryz.ntmps10
    go_wp2_with (first
      | (go_at_call 83; refine (KS.out _).mono ?_; rintro e w0 ⟨rfl, rfl⟩)
      | (go_at_call 19; refine KW.out.mono ?_; rintro e w1 ⟨rfl, hb1⟩))
    go_ret
    exact ⟨rfl, hb1⟩
end Go.Proofs.YtfdkmmllemkogaaGreatDoor

/-
  Arguments that are slices of telegrams, opened.
-/
namespace Go.Proofs.YtfdkmmllemkogaaGreatDoor
open Go.ChangeShapes Go.WideShapes Go.ChangeAt Go.RowKit Go.Joins Go.Deep
set_option linter.unusedVariables false
set_option maxRecDepth 100000

theorem cellsVec : Tryz.prog.cellsOf 36 = 3 := by kernel_rfl
theorem cellsTel : Tryz.prog.cellsOf 107 = 6 := by kernel_rfl
theorem list6 {α : Type} {l : List α} (h : l.length = 6) : ∃ a b c d e f, l = [a, b, c, d, e, f] := by
  match l, h with
  | [a, b, c, d, e, f], _ => exact ⟨a, b, c, d, e, f, rfl⟩

theorem tel_form {H : Type} {enc : TypeId × Value → H} {W : World} {sp : Nat → Bool} {k : Nat} {cs : List Value} {x : DataW H × List MemPlace} (hl : cs.length = 6)
    (h : DataW.trod enc Tryz.prog W 0 sp true k 107 cs = some x) : ∃ t : Tel, cs = t.val := by
  obtain ⟨c0, c1, c2, c3, c4, c5, rfl⟩ := list6 hl
  have e1 : Tryz.prog.cellsOf 3 = 1 := cellsInt
  have e3 : Tryz.prog.cellsOf 36 = 3 := cellsVec
  obtain ⟨y0, y1, y2, y3, n, _, _, h0, h1, h2, h3⟩ := trod_struct4 Tryz.underlying107 h
  simp only [e1, e3] at h0 h1 h2 h3
  obtain ⟨X0, q0, _, _⟩ := DataW.trod_int Tryz.underlying3 h0
  obtain ⟨X1, q1, _, _⟩ := DataW.trod_int Tryz.underlying3 h1
  obtain ⟨X2, q2, _, _⟩ := DataW.trod_int Tryz.underlying3 h2
  obtain ⟨xs, m, _, _, _, hlen, hf⟩ := DataW.trod_struct Tryz.underlying36 h3
  match xs, hlen with
  | [z0, z1, z2], _ =>
    have g0 : DataW.trod enc Tryz.prog W 0 sp true m 3 (([c3, c4, c5].drop 0).take (Tryz.prog.cellsOf 3)) = some z0 := hf 0 _ rfl
    have g1 : DataW.trod enc Tryz.prog W 0 sp true m 3 (([c3, c4, c5].drop 1).take (Tryz.prog.cellsOf 3)) = some z1 := hf 1 _ rfl
    have g2 : DataW.trod enc Tryz.prog W 0 sp true m 3 (([c3, c4, c5].drop 2).take (Tryz.prog.cellsOf 3)) = some z2 := hf 2 _ rfl
    rw [e1] at g0 g1 g2
    obtain ⟨X3, q3, _, _⟩ := DataW.trod_int Tryz.underlying3 g0
    obtain ⟨X4, q4, _, _⟩ := DataW.trod_int Tryz.underlying3 g1
    obtain ⟨X5, q5, _, _⟩ := DataW.trod_int Tryz.underlying3 g2
    simp at q0 q1 q2 q3 q4 q5
    subst q0 q1 q2 q3 q4 q5
    exact ⟨⟨X0, X1, X2, X3, X4, X5⟩, rfl⟩

instance : Inhabited Tel := ⟨tel0⟩

theorem openTels {H : Type} {enc : TypeId × Value → H} {W : World} {b0 : Nat} {v : Value} {d : DataW H} {p : List MemPlace}
    (hv : Value.okWide Tryz.prog W .any b0 123 v) (h : DataW.Trod enc Tryz.prog W 0 (fun _ => true) true 123 v d p) :
    ∃ (a : Option Addr) (n c : Nat) (L : List Tel), v = .slice a n c ∧ n ≤ maxLen ∧ AnyTels W a n L := by
  obtain ⟨a, n, c, rfl⟩ := okWide_slice Tryz.underlying123 hv
  obtain ⟨fuel, hf⟩ := h
  rcases open_slice Tryz.underlying123 hf with ⟨hcs, _⟩ | ⟨a, n, c, m, k, D, Pl, hcs, _, hl, hm, hmm, _, hx⟩
  · simp [Value.cells] at hcs
    obtain ⟨rfl, rfl, rfl⟩ := hcs
    exact ⟨none, 0, 0, [], rfl, by unfold maxLen; omega, rfl, fun j hj => absurd hj (by omega)⟩
  · simp [Value.cells] at hcs
    obtain ⟨rfl, rfl, rfl⟩ := hcs
    have hnm : n ≤ m := by rw [hmm]; simp; exact hl
    rw [cellsTel] at hx
    obtain ⟨T, hT⟩ := choose_lt (α := Tel) (p := fun i t => ∀ j u, t.val[j]? = some u → W.cell? ((a.add (i * 6)).add j) = some u) (n := n) (fun i hi => by
      obtain ⟨cs', h1, h2⟩ := hx i (by omega)
      obtain ⟨_, hlen, hc⟩ := World.cells?_some h1
      obtain ⟨t, rfl⟩ := tel_form hlen h2
      exact ⟨t, fun j u hu => (hc j (by have := (List.getElem?_eq_some_iff.1 hu).1; omega)).trans hu⟩)
    refine ⟨_, _, _, (List.range n).map T, rfl, Nat.le_trans hl hm, by simp, fun j hj => ?_⟩
    have h0 := hT 0 (by omega) 0 _ rfl
    have hpl := plain_at (a := a) (by simpa [Addr.add] using h0)
    refine ⟨a.block, a.off, by rw [← hpl.1], hpl.2, fun i hi j u hu => ?_⟩
    have hi2 : i < n := by simpa using hi
    have e : ((List.range n).map T)[i]?.getD tel0 = T i := by rw [List.getElem?_map, List.getElem?_range hi2]; rfl
    rw [e] at hu
    have h := hT i hi2 j u hu
    rw [hpl.1] at h
    simp only [Addr.add_mid] at h
    exact h
end Go.Proofs.YtfdkmmllemkogaaGreatDoor
