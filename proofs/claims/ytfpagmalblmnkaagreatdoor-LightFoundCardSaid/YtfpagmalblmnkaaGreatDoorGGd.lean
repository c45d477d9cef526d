/-
  Contract of missing for any counters: the counters between each one and the next, at most 257.
-/
import Derived.Test.YtfpagmalblmnkaaGreatDoorGXg
import Derived.Test.YtfpagmalblmnkaaGreatDoorGWx
import Derived.Test.YtfpagmalblmnkaaGreatDoorGWk
import Derived.Test.YtfpagmalblmnkaaGreatDoorGWc
import Derived.Deep.CutBlock
import Derived.Deep.DeepCutAuto
import Derived.Deep.RegionHeld3
import Derived.StillTailTactics
namespace Go.Proofs.YtfpagmalblmnkaaGreatDoor
open Go.RowKit
set_option linter.unusedVariables false
set_option linter.unusedSimpArgs false

/-- The counter that is so many behind another one. -/
def onward (a : Int) (j : Nat) : Int := (a + 1 + (j : Int)) % 65536
/-- How many counters lie between two. -/
def wide (a b : Int) : Nat := ((b - a - 1) % 65536).toNat
def cyc (a b : Int) : List Int := (List.range (wide a b)).map (onward a)
def cycTo (xs : List Int) (k : Nat) : List Int := (List.range k).flatMap (fun i => cyc (xs[i]?.getD 0) (xs[i + 1]?.getD 0))
theorem cycTo_succ (xs : List Int) (k : Nat) : cycTo xs (k + 1) = cycTo xs k ++ cyc (xs[k]?.getD 0) (xs[k + 1]?.getD 0) := by
  simp [cycTo, List.range_succ]
theorem onward_bd (a : Int) (j : Nat) : 0 ≤ onward a j ∧ onward a j ≤ 65535 := by unfold onward; omega
theorem onward_succ (a : Int) (j : Nat) : (onward a j + 1) % 65536 = onward a (j + 1) := by unfold onward; push_cast; omega
theorem onward_0 (a : Int) : (a + 1) % 65536 = onward a 0 := by unfold onward; simp
theorem wide_bd (a b : Int) : wide a b ≤ 65535 := by unfold wide; omega
/-- It is the other one just behind as many. -/
theorem onward_eq {a b : Int} (hb : 0 ≤ b ∧ b ≤ 65535) {j : Nat} (hj : j ≤ wide a b) : onward a j = b ↔ j = wide a b := by
  unfold onward wide at *; omega

/-- What stands between the first so many and the next ones. -/
def someOf (pre : List Int) (a : Int) (j : Nat) : List Int := pre ++ (List.range j).map (onward a)
theorem someOf_succ (pre : List Int) (a : Int) (j : Nat) : (someOf pre a (j + 1)).map (Value.int .i64) = (someOf pre a j).map (Value.int .i64) ++ [.int .i64 (onward a j)] := by
  simp [someOf, List.range_succ]
theorem someOf_len (pre : List Int) (a : Int) (j : Nat) : (someOf pre a j).length = pre.length + j := by simp [someOf]
theorem someOf_all (xs : List Int) (k : Nat) : someOf (cycTo xs k) (xs[k]?.getD 0) (wide (xs[k]?.getD 0) (xs[k + 1]?.getD 0)) = cycTo xs (k + 1) := by
  rw [cycTo_succ]; rfl
theorem cycTo_pre (xs : List Int) : ∀ (m k : Nat), k ≤ m → (cycTo xs k).isPrefixOf (cycTo xs m) = true := by
  intro m
  induction m with
  | zero => intro k hk; obtain rfl : k = 0 := by omega
            simp
  | succ m ih =>
    intro k hk
    by_cases h : k = m + 1
    · subst h; simp
    · have h1 := ih k (by omega)
      rw [List.isPrefixOf_iff_prefix] at h1 ⊢
      rw [cycTo_succ]
      exact h1.trans (List.prefix_append _ _)
theorem someOf_pre (xs : List Int) (k m j : Nat) (hk : k + 1 ≤ m) (hj : j ≤ wide (xs[k]?.getD 0) (xs[k + 1]?.getD 0)) : (someOf (cycTo xs k) (xs[k]?.getD 0) j) <+: (cycTo xs m) := by
  have h1 := cycTo_pre xs m (k + 1) hk
  rw [List.isPrefixOf_iff_prefix] at h1
  refine List.IsPrefix.trans ?_ h1
  rw [← someOf_all]
  unfold someOf
  refine (List.prefix_append_right_inj _).2 ?_
  refine List.IsPrefix.map _ ?_
  obtain ⟨d, hd⟩ : ∃ d, wide (xs[k]?.getD 0) (xs[k + 1]?.getD 0) = j + d := ⟨_, (Nat.add_sub_of_le hj).symm⟩
  rw [hd, List.range_add]
  exact List.prefix_append _ _
/-- A part of 257 at the front. -/
theorem take_of_pre {l m : List Int} (h : l <+: m) (hl : l.length = 257) : m.take 257 = l := by
  obtain ⟨t, rfl⟩ := h
  rw [List.take_append_of_le_length (by omega), List.take_of_length_le (by omega)]

set_option maxRecDepth 100000 in
set_option maxHeartbeats 6400000 in
theorem missing_all (xs : List Int) (n g c : Nat) (hA : ∀ j, j < n → 0 ≤ xs[j]?.getD 0 ∧ xs[j]?.getD 0 ≤ 65535) (hn1 : 1 ≤ n) (hm : n ≤ 512) (w : World) (hg : g < w.heap.size) (hc : ∀ j, j < n → w.cell? ⟨g, j, none⟩ = some (.int .i64 (xs[j]?.getD 0))) :
    Calls Tryz.prog 102 #[.slice (some ⟨g, 0, none⟩) n c, .int .i64 257] w fun e w' =>
      ∃ v, e = .returned v ∧ w'.ownsRow w.heap.size 3 1 v ((cycTo xs (n - 1)).take 257).length (((cycTo xs (n - 1)).take 257).map (Value.int .i64)) ∧ Below w.heap.size w w' := by
  obtain ⟨i0, hi, hz0, hz1, hz2⟩ := info_parts Tryz.infoInt
  have HC := Lib.hid hc
  have HA := Lib.hid hA
  clear hc hA
  have j1 : ((1 : Int) ≤ (n : Int)) := by omega
  have j2 : ((n : Int) ≤ 512) := by omega
  go_enter Tryz.func102, Tryz.ntmps102
  go_wp2
  go_step3
  go_wp2
  go_step3
  go_wp2
  go_loopw [5, 13] (fun out i wr => ∃ k : Nat, k ≤ n - 1 ∧ i = .int .i64 k ∧ (cycTo xs k).length ≤ 257 ∧ wr.ownsRow w.heap.size 3 1 out (cycTo xs k).length ((cycTo xs k).map (Value.int .i64)) ∧ Below w.heap.size w wr)
    (fun _ i _ => n - (intOf i).toNat)
  case atStart => exact ⟨0, Nat.zero_le _, rfl, by simp [cycTo], World.ownsRow_nil _ _ _ _, Below.refl _ _⟩
  case round =>
    obtain ⟨k, hk, rfl, hlen, hown, hnx⟩ := hrel
    have hsz := hnx.size
    by_cases hlt : k + 1 < n
    · have c0 : wr.cell? ⟨g, k, none⟩ = some (.int .i64 (xs[k]?.getD 0)) := (hnx.cell (by exact hg)).trans (HC.out k (by omega))
      have c1 : wr.cell? ⟨g, k + 1, none⟩ = some (.int .i64 (xs[k + 1]?.getD 0)) := (hnx.cell (by exact hg)).trans (HC.out (k + 1) hlt)
      have hb0 := HA.out k (by omega)
      have hb1 := HA.out (k + 1) hlt
      have hS := someOf_all xs k
      have hP := fun j hj => someOf_pre xs k (n - 1) j (by omega) hj
      have hQ := fun j => @onward_eq (xs[k]?.getD 0) _ hb1 j
      obtain ⟨a, ha⟩ : ∃ a, xs[k]?.getD 0 = a := ⟨_, rfl⟩
      obtain ⟨b, hb⟩ : ∃ b, xs[k + 1]?.getD 0 = b := ⟨_, rfl⟩
      obtain ⟨pre, hpre⟩ : ∃ pre, cycTo xs k = pre := ⟨_, rfl⟩
      rw [ha] at c0 hb0 hS hP hQ
      rw [hb] at c1 hb1 hS hP hQ
      rw [hpre] at hown hlen hS hP
      have HS := Lib.hid hS
      have HP := Lib.hid hP
      have HQ := Lib.hid hQ
      obtain ⟨Wd, hWide⟩ : ∃ Wd : Nat, wide a b = Wd := ⟨_, rfl⟩
      have hWb := wide_bd a b
      rw [hWide] at HS HP HQ hWb
      clear ha hb hpre hS hP hQ hWide
      have hltI : ((k : Int) < (n : Int) - 1) := by omega
      have k0 : ((k : Int) < (n : Int)) := by omega
      have k1 : ((k : Int) + 1 < (n : Int)) := by omega
      have k2 : ((0 : Int) ≤ (k : Int) + 1) := by omega
      have k3 : ((k : Int) + 1).toNat = k + 1 := by omega
      have k4 : IntKind.i64.wrap ((k : Int) + 1) = (k : Int) + 1 := IntWalk.i64_in _ ⟨by omega, by omega⟩
      go_wp2_with fail
      go_region_held3 (fun w' => w'.cell? ⟨g, k, none⟩ = some (.int .i64 a) ∧ w'.cell? ⟨g, k + 1, none⟩ = some (.int .i64 b)) (go_keep) (fail)
      have KF : Hid (∀ w, Calls Tryz.prog 150 #[.int .i64 a] w fun e w' => e = .returned (.int .i64 (onward a 0)) ∧ w = w') := Lib.hid fun w => by
        have h := following_any a hb0.1 hb0.2 w
        rwa [onward_0] at h
      go_wp2_with (go_at_call 150; refine (KF.out _).mono ?_; rintro e w' ⟨rfl, rfl⟩)
      obtain ⟨WD, hWd⟩ : ∃ WD, wr.drew = WD := ⟨_, rfl⟩
      have hownd : WD.ownsRow w.heap.size 3 1 u5 (pre.length) (pre.map (Value.int .i64)) := by rw [← hWd]; exact hown
      have hBd : Below w.heap.size w WD := by rw [← hWd]; exact hnx.drew
      rw [hWd]
      clear hWd hown c0 c1 KF
      go_loopw [5, 9] (fun out i wi => ∃ j : Nat, j ≤ Wd ∧ i = .int .i64 (onward a j) ∧ (someOf pre a j).length ≤ 257 ∧ wi.ownsRow w.heap.size 3 1 out (someOf pre a j).length ((someOf pre a j).map (Value.int .i64)) ∧ Below w.heap.size w wi)
        (fun out i _ => match out with | .slice _ l _ => 300 - l | _ => 0)
      case atStart => exact ⟨0, by omega, rfl, by simpa [someOf] using hlen, by simpa [someOf] using hownd, hBd⟩
      case round =>
        obtain ⟨j, hj, rfl, hln, hown, hnx2⟩ := hrel
        have hsz2 := hnx2.size
        by_cases hjl : j < Wd
        · have hne : (onward a j != b) = true := by
            have h := (HQ.out j hj).1
            simp; intro h2; have := h h2; omega
          have hob := onward_bd a j
          have hos := onward_succ a j
          have hsu := someOf_succ pre a j
          have hsl := someOf_len pre a (j + 1)
          have hsl0 := someOf_len pre a j
          have hPj := HP.out j hj
          obtain ⟨S, hSd⟩ : ∃ S, someOf pre a j = S := ⟨_, rfl⟩
          obtain ⟨S1, hSd1⟩ : ∃ S1, someOf pre a (j + 1) = S1 := ⟨_, rfl⟩
          rw [hSd] at hsl0 hln hown hsu hPj
          rw [hSd1] at hsl hsu
          obtain ⟨ℓ, hℓ⟩ : ∃ ℓ, S.length = ℓ := ⟨_, rfl⟩
          obtain ⟨x, hx⟩ : ∃ x, onward a j = x := ⟨_, rfl⟩
          obtain ⟨x1, hx1⟩ : ∃ x1, onward a (j + 1) = x1 := ⟨_, rfl⟩
          rw [hx] at hne hob hos hsu ⊢
          rw [hx1] at hos
          rw [hℓ] at hown hln hsl0
          have hl1 : S1.length = ℓ + 1 := by omega
          obtain ⟨ao, cc, rfl⟩ := owns_slice hown
          by_cases h257 : ℓ = 257
          · have hT := take_of_pre hPj (by omega)
            have e0 : ((ℓ : Int) == 257) = true := by simp [h257]
            have HT : Hid ((cycTo xs (n - 1)).take 257 = S ∧ S.length = ℓ) := Lib.hid ⟨hT, hℓ⟩
            have HO := Lib.hid hown
            have HX := Lib.hid hnx2
            clear hT hown hnx2 hPj hℓ hsl hsl0 hsu hos hl1 hSd hSd1 hx hx1 h257
            go_wp2
            try rw [Exit.noGoto_ret]
            go_ret
            exact ⟨_, rfl, by rw [HT.out.1, HT.out.2]; exact HO.out, HX.out⟩
          · have e0 : ((ℓ : Int) == 257) = false := by simp; omega
            have KG : Hid (∀ w, Calls Tryz.prog 150 #[.int .i64 x] w fun e w' => e = .returned (.int .i64 x1) ∧ w = w') := Lib.hid fun w => by
              have h := following_any x hob.1 hob.2 w
              rwa [hos] at h
            have HSU := Lib.hid hsu
            have HD := Lib.hid (And.intro hSd1 hx1)
            have HL1 := Lib.hid hl1
            have hℓ2 : ℓ ≤ 256 := by omega
            clear hPj hℓ hsl hsl0 hsu hos hl1 hSd hSd1 hx hx1 h257
            go_wp2_with (first
              | (go_at_call 150; refine (KG.out _).mono ?_; rintro e w' ⟨rfl, rfl⟩)
              | (at_builtin; refine wpList_append_own _ rfl (.tmp 36) (.tmp 38) 91 rfl w.heap.size 3 i0 (.int .i64 0) 1 8 Tryz.underlying91 hi hz0 hz1 hz2 rfl (by decide) _ _ _ rfl (hown.alloc _) ⟨wr.heap.size, 0, none⟩ 1 1 [.int .i64 x] rfl rfl (cell_one_new _ _ _) (by intro u hu; simp at hu; subst hu; rfl) (by unfold maxLen; omega) (by omega) (by simp; omega) ?_; intro v' w3 hown3 hgrow3 _))
            have hlt' := hown.lt
            go_roundw
            case rel =>
              refine ⟨j + 1, by omega, by rw [HD.out.2], by rw [HD.out.1, HL1.out]; omega, ?_, (hnx2.alloc hsz2 _).grown hgrow3 (by simp; omega) (fun q hq => (hlt' q hq).1)⟩
              rw [HD.out.1, HSU.out, HL1.out]
              exact hown3
            case measure =>
              obtain ⟨ao', cc', hv'⟩ := owns_slice hown3
              subst hv'
              simp; omega
        · have hje : j = Wd := by omega
          have hne : (onward a j != b) = false := by
            have h := (HQ.out j hj).2 hje
            simp [h]
          subst hje
          have HO := Lib.hid hown
          have HX := Lib.hid hnx2
          have HLN := Lib.hid hln
          clear hown hnx2 hln
          go_wp2
          go_roundw
          case rel => exact ⟨k + 1, by omega, by go_num, by rw [← HS.out]; exact HLN.out, by rw [← HS.out]; exact HO.out, HX.out⟩
          case measure => simp [intOf]; omega
    · have hltI : ¬ ((k : Int) < (n : Int) - 1) := by omega
      obtain rfl : k = n - 1 := by omega
      have hT : (cycTo xs (n - 1)).take 257 = cycTo xs (n - 1) := List.take_of_length_le hlen
      have HT := Lib.hid hT
      have HO := Lib.hid hown
      have HX := Lib.hid hnx
      clear hT hown hnx
      go_wp2
      try rw [Exit.noGoto_ret]
      go_ret
      exact ⟨_, rfl, by rw [HT.out]; exact HO.out, HX.out⟩
end Go.Proofs.YtfpagmalblmnkaaGreatDoor

/-
  Contract of Draw: the permutation of n elements by a key.
-/
namespace Go.Proofs.YtfpagmalblmnkaaGreatDoor
open Go.RowKit
set_option linter.unusedVariables false
set_option linter.unusedSimpArgs false

/-- The generator's number and the list after some exchanges. -/
def drawS (key : Int) (n : Nat) : Nat → Int × List Int
  | 0 => (key, (List.range n).map (fun i : Nat => (i : Int)))
  | t + 1 => (950706376 * (drawS key n t).1 % 2147483647,
      ((drawS key n t).2.set (n - 1 - t) ((drawS key n t).2[(950706376 * (drawS key n t).1 % 2147483647 % ((n - 1 - t : Nat) + 1 : Int)).toNat]?.getD 0)).set (950706376 * (drawS key n t).1 % 2147483647 % ((n - 1 - t : Nat) + 1 : Int)).toNat ((drawS key n t).2[n - 1 - t]?.getD 0))
def drawL (key : Int) (n : Nat) : List Int := (drawS key n (n - 1)).2
theorem drawS_len (key : Int) (n : Nat) : ∀ t, (drawS key n t).2.length = n
  | 0 => by simp [drawS]
  | t + 1 => by simp [drawS, drawS_len key n t]
theorem drawS_bd (key : Int) (n : Nat) (h : 0 ≤ key ∧ key ≤ 2147483646) : ∀ t, 0 ≤ (drawS key n t).1 ∧ (drawS key n t).1 ≤ 2147483646
  | 0 => h
  | t + 1 => by
    have h1 := Int.emod_nonneg (950706376 * (drawS key n t).1) (show (2147483647 : Int) ≠ 0 by decide)
    have h2 := Int.emod_lt_of_pos (950706376 * (drawS key n t).1) (show (0 : Int) < 2147483647 by decide)
    simp only [drawS]
    omega

/-- The list while its first k places are told. -/
def fillTo (n k : Nat) : List Int := (List.range n).map (fun q => if q < k then (q : Int) else 0)
theorem fillTo_len (n k : Nat) : (fillTo n k).length = n := by simp [fillTo]
theorem fillTo_set (n k : Nat) : (fillTo n k).set k (k : Int) = fillTo n (k + 1) := by
  refine List.ext_getElem (by simp [fillTo]) fun q h1 h2 => ?_
  simp only [fillTo, List.getElem_set, List.getElem_map, List.getElem_range]
  by_cases e : k = q
  · subst e; rw [if_pos rfl, if_pos (by omega)]
  · rw [if_neg e]
    by_cases e2 : q < k
    · rw [if_pos e2, if_pos (by omega)]
    · rw [if_neg e2, if_neg (by omega)]
theorem fillTo_0 (n : Nat) : fillTo n 0 = List.replicate n 0 := by
  refine List.ext_getElem (by simp [fillTo]) fun q h1 h2 => ?_
  simp [fillTo]
theorem fillTo_n (n : Nat) : fillTo n n = (List.range n).map (fun i : Nat => (i : Int)) := by
  refine List.ext_getElem (by simp [fillTo]) fun q h1 h2 => ?_
  simp only [fillTo_len] at h1
  simp [fillTo, h1]

set_option maxRecDepth 100000 in
set_option maxHeartbeats 6400000 in
theorem draw_any (key : Int) (n : Nat) (hk : 1 ≤ key ∧ key ≤ 2147483646) (hn : n ≤ 256) (w : World) :
    Calls Tryz.prog 63 #[.int .i64 key, .int .i64 n] w fun e w' =>
      ∃ v, e = .returned (.tuple #[v, .int .i64 0]) ∧ w'.ownsRow w.heap.size 3 1 v n ((drawL key n).map (Value.int .i64)) ∧ Below w.heap.size w w' := by
  obtain ⟨i0, hi, hz0, hz1, hz2⟩ := info_parts Tryz.infoInt
  have e1 : rangeErr key 1 2147483646 = 0 := rangeErr_in hk.1 hk.2
  have e2 : rangeErr (n : Int) 0 256 = 0 := rangeErr_in (by omega) (by omega)
  have KN : Hid (∀ w1 : World, Calls Tryz.prog 89 #[.int .i64 key, .int .i64 1, .int .i64 2147483646] w1 fun e w' => e = .returned (.int .i64 0) ∧ w1 = w') := Lib.hid fun w1 => by have h := checkRange_any key 1 2147483646 w1; rw [e1] at h; exact h
  have KD : Hid (∀ w1 : World, Calls Tryz.prog 89 #[.int .i64 n, .int .i64 0, .int .i64 256] w1 fun e w' => e = .returned (.int .i64 0) ∧ w1 = w') := Lib.hid fun w1 => by have h := checkRange_any (n : Int) 0 256 w1; rw [e2] at h; exact h
  clear e1 e2
  go_enter Tryz.func63, Tryz.ntmps63
  go_upto_region 5 with (first
    | (go_at_call_of 89 (Value.int .i64 key); refine (KN.out _).mono ?_; rintro e w9 ⟨rfl, rfl⟩)
    | (go_at_call_of 89 (Value.int .i64 n); refine (KD.out _).mono ?_; rintro e w9 ⟨rfl, rfl⟩)
    | ((go_at_call 41; refine (first_zeros _ 0 2 2 (by omega) _ ?_).mono ?_; rotate_left 1; rintro e w9 ⟨rfl, rfl⟩; rotate_left 1; (intro j hj; match j, hj with | 0, _ => simp [go_sem] | 1, _ => simp [go_sem])))
    | (at_make; refine wpList_make_full _ rfl (.tmp 21) (.tmp 21) 91 rfl (w.heap.size + 1) 3 i0 (.int .i64 0) 1 Tryz.underlying91 hi hz0 hz1 .i64 .i64 (n : Int) (n : Int) n rfl rfl rfl rfl (by rw [hz2]; omega) (by unfold maxLen; omega) (by simp) ?_; intro w4 hown4 hgrow4))
  have hB4 : Below w.heap.size w w4 := ((Below.refl _ w).alloc (Nat.le_refl _) _).grown hgrow4 (by simp) (fun j hj => by cases hj)
  have hO4 : w4.ownsRow (w.heap.size + 1) 3 1 (.slice (some ⟨w.heap.size + 1, 0, none⟩) n n) n ((fillTo n 0).map (Value.int .i64)) := by
    have h := hown4
    rw [Nat.mul_one, show (Value.int .i64 0).cells = #[.int .i64 0] from rfl, toList_madeCells_one] at h
    simp only [World.size_alloc] at h
    rw [fillTo_0, List.map_replicate]
    exact h
  have HB4 := Lib.hid hB4
  have HO4 := Lib.hid hO4
  clear hown4 hgrow4 hB4 hO4
  go_upto_block 0 with fail
  go_cut [7] (fun s7 wr => s7 = .slice (some ⟨w.heap.size + 1, 0, none⟩) n n ∧ wr.ownsRow (w.heap.size + 1) 3 1 (.slice (some ⟨w.heap.size + 1, 0, none⟩) n n) n ((fillTo n n).map (Value.int .i64)) ∧ Below w.heap.size w wr)
  case first =>
    go_wp2_with fail
    go_loopw [24] (fun i wr => ∃ k : Nat, k ≤ n ∧ i = .int .i64 k ∧ wr.ownsRow (w.heap.size + 1) 3 1 (.slice (some ⟨w.heap.size + 1, 0, none⟩) n n) n ((fillTo n k).map (Value.int .i64)) ∧ Below w.heap.size w wr)
      (fun i _ => n - (intOf i).toNat)
    case atStart => exact ⟨0, Nat.zero_le _, rfl, HO4.out, HB4.out⟩
    case round =>
      obtain ⟨k, hk, rfl, hown, hnx⟩ := hrel
      by_cases hlt : k < n
      · have hc : wr.cell? ⟨w.heap.size + 1, k, none⟩ = some (.int .i64 ((fillTo n k)[k]?.getD 0)) := owns_cell hown (by rw [List.getElem?_map, List.getElem?_eq_getElem (by rw [fillTo_len]; exact hlt)]; rfl)
        have hf := hown.frozenAt k
        have hst := (hown.stored k (.int .i64 (k : Int))).1
        rw [← List.map_set, fillTo_set] at hst
        have HST := Lib.hid hst
        have HNX := Lib.hid hnx
        clear hown hst hnx
        go_wp2_with fail
        go_roundw
        case rel => exact ⟨k + 1, by omega, by go_num, HST.out, HNX.out.setCell (p := ⟨w.heap.size + 1, k, none⟩) (by show w.heap.size ≤ w.heap.size + 1; omega) _⟩
        case measure => simp [intOf]; omega
      · obtain rfl : k = n := by omega
        go_wp2_with fail
        go_meet
        exact ⟨rfl, hown, hnx⟩
  case rest =>
    obtain ⟨rfl, hownR, hbR⟩ := hcut
    rw [fillTo_n] at hownR
    go_wp2_with fail
    have HOR := Lib.hid hownR
    have HBR := Lib.hid hbR
    clear hownR hbR
    go_loopw [9, 10] (fun s9 s10 wr => ∃ t : Nat, (t + 1 ≤ n ∨ t = 0) ∧ s9 = .int .i64 (drawS key n t).1 ∧ s10 = .int .i64 ((n : Int) - 1 - (t : Int)) ∧ wr.ownsRow (w.heap.size + 1) 3 1 (.slice (some ⟨w.heap.size + 1, 0, none⟩) n n) n ((drawS key n t).2.map (Value.int .i64)) ∧ Below w.heap.size w wr)
      (fun _ i _ => (intOf i).toNat)
    case atStart => exact ⟨0, .inr rfl, rfl, by congr 1; omega, HOR.out, HBR.out⟩
    case round =>
      obtain ⟨t, ht, rfl, rfl, hown, hnx⟩ := hrel
      by_cases hlt : t + 2 ≤ n
      · have hbd := drawS_bd key n (by omega) t
        have hln := drawS_len key n t
        obtain ⟨i, hi'⟩ : ∃ i : Nat, n - 1 - t = i := ⟨_, rfl⟩
        have ei : (n : Int) - 1 - (t : Int) = (i : Int) := by omega
        have ei2 : (n : Int) - 1 - ((t + 1 : Nat) : Int) = (i : Int) - 1 := by omega
        have hi1 : 1 ≤ i := by omega
        have hin : i < n := by omega
        obtain ⟨x, hx⟩ : ∃ x : Int, (drawS key n t).1 = x := ⟨_, rfl⟩
        obtain ⟨l, hl⟩ : ∃ l : List Int, (drawS key n t).2 = l := ⟨_, rfl⟩
        obtain ⟨X, hX⟩ : ∃ X : Int, 950706376 * x % 2147483647 = X := ⟨_, rfl⟩
        have hX0 : 0 ≤ X ∧ X ≤ 2147483646 := by
          have h1 := Int.emod_nonneg (950706376 * x) (show (2147483647 : Int) ≠ 0 by decide)
          have h2 := Int.emod_lt_of_pos (950706376 * x) (show (0 : Int) < 2147483647 by decide)
          omega
        obtain ⟨j, hj⟩ : ∃ j : Nat, (X % ((i : Int) + 1)).toNat = j := ⟨_, rfl⟩
        have hjb : X % ((i : Int) + 1) = (j : Int) ∧ j ≤ i := by
          have h1 := Int.emod_nonneg X (show ((i : Int) + 1) ≠ 0 by omega)
          have h2 := Int.emod_lt_of_pos X (show (0 : Int) < (i : Int) + 1 by omega)
          omega
        have hS : drawS key n (t + 1) = (X, (l.set i (l[j]?.getD 0)).set j (l[i]?.getD 0)) := by
          simp only [drawS, hx, hl, hi', hX, hj]
        rw [hx] at hbd ⊢
        rw [hl] at hown hln
        rw [ei]
        have w1 : IntKind.i64.wrap (950706376 * x) = 950706376 * x := IntWalk.i64_in _ ⟨by omega, by omega⟩
        have w2 : (950706376 * x).tmod 2147483647 = X := by rw [Int.tmod_eq_emod_of_nonneg (by omega)]; exact hX
        have w3 : IntKind.i64.wrap X = X := IntWalk.i64_in _ ⟨by omega, by omega⟩
        have w4' : X.tmod ((i : Int) + 1) = (j : Int) := by rw [Int.tmod_eq_emod_of_nonneg hX0.1]; exact hjb.1
        have w5 : IntKind.i64.wrap ((i : Int) + 1) = (i : Int) + 1 := IntWalk.i64_in _ ⟨by omega, by omega⟩
        have w6 : IntKind.i64.wrap ((i : Int) - 1) = (i : Int) - 1 := IntWalk.i64_in _ ⟨by omega, by omega⟩
        have w7 : (1 : Int) ≤ (i : Int) := by omega
        have w8 : ¬ ((i : Int) + 1 = 0) := by omega
        have w9 : (i : Int) < (n : Int) := by omega
        have w10 : (j : Int) < (n : Int) := by omega
        have ci : wr.cell? ⟨w.heap.size + 1, i, none⟩ = some (.int .i64 (l[i]?.getD 0)) := owns_cell hown (by rw [List.getElem?_map, List.getElem?_eq_getElem (by omega)]; rfl)
        have cj : wr.cell? ⟨w.heap.size + 1, j, none⟩ = some (.int .i64 (l[j]?.getD 0)) := owns_cell hown (by rw [List.getElem?_map, List.getElem?_eq_getElem (by omega)]; rfl)
        have fi := hown.frozenAt i
        have fj := hown.frozenAt j
        have hst1 := (hown.stored i (.int .i64 (l[j]?.getD 0))).1
        have cj2 : (wr.setCell ⟨w.heap.size + 1, i, none⟩ (.int .i64 (l[j]?.getD 0))).cell? ⟨w.heap.size + 1, j, none⟩ = some (.int .i64 ((l.set i (l[j]?.getD 0))[j]?.getD 0)) := by
          rw [← List.map_set] at hst1
          exact owns_cell hst1 (by rw [List.getElem?_map, List.getElem?_eq_getElem (by simp; omega)]; rfl)
        have fj2 := hst1.frozenAt j
        have hst2 := (hst1.stored j (.int .i64 (l[i]?.getD 0))).1
        rw [← List.map_set, ← List.map_set] at hst2
        have HST := Lib.hid hst2
        have HNX := Lib.hid hnx
        have HS1 := Lib.hid hS
        have HEI := Lib.hid ei2
        clear hst1 hst2 hown hnx hS hX hj hjb hx hl hi' ei ei2 hX0 hbd ht
        go_upto_region 16 with fail
        clear hln
        go_region_with (fail)
        all_goals
          go_wp2_with fail
          go_roundw
          case rel =>
            refine ⟨t + 1, .inl (by omega), ?_⟩
            rw [HS1.out, HEI.out]
            exact ⟨rfl, rfl, HST.out.drew, ((HNX.out.setCell (p := ⟨w.heap.size + 1, i, none⟩) (by show w.heap.size ≤ w.heap.size + 1; omega) _).setCell (p := ⟨w.heap.size + 1, j, none⟩) (by show w.heap.size ≤ w.heap.size + 1; omega) _).drew⟩
          case measure => simp [intOf]; omega
      · have et : t = n - 1 := by omega
        have hi2 : ¬ ((1 : Int) ≤ (n : Int) - 1 - (t : Int)) := by omega
        have hi3 : (n : Int) - 1 - (t : Int) < 1 := by omega
        have HET := Lib.hid et
        have HO := Lib.hid hown
        have HX := Lib.hid hnx
        clear et hown hnx ht
        go_wp2_with fail
        go_ret2
        refine ⟨_, rfl, owns_base ?_ (show w.heap.size ≤ w.heap.size + 1 by omega), HX.out⟩
        have h := HO.out
        rw [HET.out] at h
        exact h
end Go.Proofs.YtfpagmalblmnkaaGreatDoor

/-
  Contract of the reference's Draw: the same permutation as the program's.
-/
namespace Go.Proofs.YtfpagmalblmnkaaGreatDoor
open Go.RowKit
set_option linter.unusedVariables false
set_option linter.unusedSimpArgs false

theorem set_swap (l : List Int) (i j : Nat) (a b : Int) (h : i = j → a = b) : (l.set i a).set j b = (l.set j b).set i a := by
  by_cases e : i = j
  · subst e; rw [h rfl]
  · exact List.set_comm _ _ e
/-- The first k indices. -/
def upTo (k : Nat) : List Int := (List.range k).map (fun i : Nat => (i : Int))
theorem upTo_succ (k : Nat) : (upTo k).map (Value.int .i64) ++ [.int .i64 (k : Int)] = (upTo (k + 1)).map (Value.int .i64) := by
  simp [upTo, List.range_succ]

end Go.Proofs.YtfpagmalblmnkaaGreatDoor
