/-
  Contract of missing for any counters: the counters between each one and the next, at most 257.
-/
import Derived.Test.YtlnhgplloaiiiaaGreatDoorKGa
import Derived.Test.YtlnhgplloaiiiaaGreatDoorKWw
import Derived.Test.YtlnhgplloaiiiaaGreatDoorKZn
namespace Go.Proofs.YtlnhgplloaiiiaaGreatDoor
open Go.RowKit
set_option linter.unusedVariables false
set_option linter.unusedSimpArgs false

/-- The counter that is so many behind another one. -/
def onward (a : Int) (j : Nat) : Int := (a + 1 + (j : Int)) % 65536
/-- How many counters lie between two. -/
def wide (a b : Int) : Nat := ((b - a - 1) % 65536).toNat
def cyc (a b : Int) : List Int := (List.range (wide a b)).map (onward a)
def cycTo (xs : List Int) (k : Nat) : List Int := (List.range k).flatMap (fun i => cyc (xs[i]?.getD 0) (xs[i + 1]?.getD 0))
theorem cycTo_succ (xs : List Int) (k : Nat) : cycTo xs (k + 1) = cycTo xs k ++ cyc (xs[k]?.getD 0) (xs[k + 1]?.getD 0) := by
  simp [cycTo, List.range_succ]
theorem onward_bd (a : Int) (j : Nat) : 0 ≤ onward a j ∧ onward a j ≤ 65535 := by unfold onward; omega
theorem onward_succ (a : Int) (j : Nat) : (onward a j + 1) % 65536 = onward a (j + 1) := by unfold onward; push_cast; omega
theorem onward_0 (a : Int) : (a + 1) % 65536 = onward a 0 := by unfold onward; simp
theorem wide_bd (a b : Int) : wide a b ≤ 65535 := by unfold wide; omega
/-- It is the other one just behind as many. -/
theorem onward_eq {a b : Int} (hb : 0 ≤ b ∧ b ≤ 65535) {j : Nat} (hj : j ≤ wide a b) : onward a j = b ↔ j = wide a b := by
  unfold onward wide at *; omega

/-- What stands between the first so many and the next ones. -/
def someOf (pre : List Int) (a : Int) (j : Nat) : List Int := pre ++ (List.range j).map (onward a)
theorem someOf_succ (pre : List Int) (a : Int) (j : Nat) : (someOf pre a (j + 1)).map (Value.int .i64) = (someOf pre a j).map (Value.int .i64) ++ [.int .i64 (onward a j)] := by
  simp [someOf, List.range_succ]
theorem someOf_len (pre : List Int) (a : Int) (j : Nat) : (someOf pre a j).length = pre.length + j := by simp [someOf]
theorem someOf_all (xs : List Int) (k : Nat) : someOf (cycTo xs k) (xs[k]?.getD 0) (wide (xs[k]?.getD 0) (xs[k + 1]?.getD 0)) = cycTo xs (k + 1) := by
  rw [cycTo_succ]; rfl
theorem cycTo_pre (xs : List Int) : ∀ (m k : Nat), k ≤ m → (cycTo xs k).isPrefixOf (cycTo xs m) = true := by
  intro m
  induction m with
  | zero => intro k hk; obtain rfl : k = 0 := by omega
            simp
  | succ m ih =>
    intro k hk
    by_cases h : k = m + 1
    · subst h; simp
    · have h1 := ih k (by omega)
      rw [List.isPrefixOf_iff_prefix] at h1 ⊢
      rw [cycTo_succ]
      exact h1.trans (List.prefix_append _ _)
theorem someOf_pre (xs : List Int) (k m j : Nat) (hk : k + 1 ≤ m) (hj : j ≤ wide (xs[k]?.getD 0) (xs[k + 1]?.getD 0)) : (someOf (cycTo xs k) (xs[k]?.getD 0) j) <+: (cycTo xs m) := by
  have h1 := cycTo_pre xs m (k + 1) hk
  rw [List.isPrefixOf_iff_prefix] at h1
  refine List.IsPrefix.trans ?_ h1
  rw [← someOf_all]
  unfold someOf
  refine (List.prefix_append_right_inj _).2 ?_
  refine List.IsPrefix.map _ ?_
  obtain ⟨d, hd⟩ : ∃ d, wide (xs[k]?.getD 0) (xs[k + 1]?.getD 0) = j + d := ⟨_, (Nat.add_sub_of_le hj).symm⟩
  rw [hd, List.range_add]
  exact List.prefix_append _ _
/-- A part of 257 at the front. -/
theorem take_of_pre {l m : List Int} (h : l <+: m) (hl : l.length = 257) : m.take 257 = l := by
  obtain ⟨t, rfl⟩ := h
  rw [List.take_append_of_le_length (by omega), List.take_of_length_le (by omega)]

set_option maxRecDepth 100000 in
set_option maxHeartbeats 6400000 in
theorem missing_all (xs : List Int) (n g c : Nat) (hA : ∀ j, j < n → 0 ≤ xs[j]?.getD 0 ∧ xs[j]?.getD 0 ≤ 65535) (hn1 : 1 ≤ n) (hm : n ≤ 512) (w : World) (hg : g < w.heap.size) (hc : ∀ j, j < n → w.cell? ⟨g, j, none⟩ = some (.int .i64 (xs[j]?.getD 0))) :
    Calls Tryz.prog 153 #[.slice (some ⟨g, 0, none⟩) n c, .int .i64 257] w fun e w' =>
      ∃ v, e = .returned v ∧ w'.ownsRow w.heap.size 3 1 v ((cycTo xs (n - 1)).take 257).length (((cycTo xs (n - 1)).take 257).map (Value.int .i64)) ∧ Below w.heap.size w w' := by
  obtain ⟨i0, hi, hz0, hz1, hz2⟩ := info_parts Tryz.infoInt
  have HC := Lib.hid hc
  have HA := Lib.hid hA
  clear hc hA
  have j1 : ((1 : Int) ≤ (n : Int)) := by omega
  have j2 : ((n : Int) ≤ 512) := by omega
  go_enter Tryz.func153, Tryz.ntmps153
  go_wp2
  go_step3
  go_wp2
  go_step3
  go_wp2
  go_loopw [5, 13] (fun out i wr => ∃ k : Nat, k ≤ n - 1 ∧ i = .int .i64 k ∧ (cycTo xs k).length ≤ 257 ∧ wr.ownsRow w.heap.size 3 1 out (cycTo xs k).length ((cycTo xs k).map (Value.int .i64)) ∧ Below w.heap.size w wr)
    (fun _ i _ => n - (intOf i).toNat)
  case atStart => exact ⟨0, Nat.zero_le _, rfl, by simp [cycTo], World.ownsRow_nil _ _ _ _, Below.refl _ _⟩
  case round =>
    obtain ⟨k, hk, rfl, hlen, hown, hnx⟩ := hrel
    have hsz := hnx.size
    by_cases hlt : k + 1 < n
    · have c0 : wr.cell? ⟨g, k, none⟩ = some (.int .i64 (xs[k]?.getD 0)) := (hnx.cell (by exact hg)).trans (HC.out k (by omega))
      have c1 : wr.cell? ⟨g, k + 1, none⟩ = some (.int .i64 (xs[k + 1]?.getD 0)) := (hnx.cell (by exact hg)).trans (HC.out (k + 1) hlt)
      have hb0 := HA.out k (by omega)
      have hb1 := HA.out (k + 1) hlt
      have hS := someOf_all xs k
      have hP := fun j hj => someOf_pre xs k (n - 1) j (by omega) hj
      have hQ := fun j => @onward_eq (xs[k]?.getD 0) _ hb1 j
      obtain ⟨a, ha⟩ : ∃ a, xs[k]?.getD 0 = a := ⟨_, rfl⟩
      obtain ⟨b, hb⟩ : ∃ b, xs[k + 1]?.getD 0 = b := ⟨_, rfl⟩
      obtain ⟨pre, hpre⟩ : ∃ pre, cycTo xs k = pre := ⟨_, rfl⟩
      rw [ha] at c0 hb0 hS hP hQ
      rw [hb] at c1 hb1 hS hP hQ
      rw [hpre] at hown hlen hS hP
      have HS := Lib.hid hS
      have HP := Lib.hid hP
      have HQ := Lib.hid hQ
      obtain ⟨Wd, hWide⟩ : ∃ Wd : Nat, wide a b = Wd := ⟨_, rfl⟩
      have hWb := wide_bd a b
      rw [hWide] at HS HP HQ hWb
      clear ha hb hpre hS hP hQ hWide
      have hltI : ((k : Int) < (n : Int) - 1) := by omega
      have k0 : ((k : Int) < (n : Int)) := by omega
      have k1 : ((k : Int) + 1 < (n : Int)) := by omega
      have k2 : ((0 : Int) ≤ (k : Int) + 1) := by omega
      have k3 : ((k : Int) + 1).toNat = k + 1 := by omega
      have k4 : IntKind.i64.wrap ((k : Int) + 1) = (k : Int) + 1 := IntWalk.i64_in _ ⟨by omega, by omega⟩
      go_wp2_with fail
      go_region_held3 (fun w' => w'.cell? ⟨g, k, none⟩ = some (.int .i64 a) ∧ w'.cell? ⟨g, k + 1, none⟩ = some (.int .i64 b)) (go_keep) (fail)
      have KF : Hid (∀ w, Calls Tryz.prog 177 #[.int .i64 a] w fun e w' => e = .returned (.int .i64 (onward a 0)) ∧ w = w') := Lib.hid fun w => by
        have h := following_any a hb0.1 hb0.2 w
        rwa [onward_0] at h
      go_wp2_with (go_at_call 177; refine (KF.out _).mono ?_; rintro e w' ⟨rfl, rfl⟩)
      obtain ⟨WD, hWd⟩ : ∃ WD, wr.drew = WD := ⟨_, rfl⟩
      have hownd : WD.ownsRow w.heap.size 3 1 u5 (pre.length) (pre.map (Value.int .i64)) := by rw [← hWd]; exact hown
      have hBd : Below w.heap.size w WD := by rw [← hWd]; exact hnx.drew
      rw [hWd]
      clear hWd hown c0 c1 KF
      go_loopw [5, 9] (fun out i wi => ∃ j : Nat, j ≤ Wd ∧ i = .int .i64 (onward a j) ∧ (someOf pre a j).length ≤ 257 ∧ wi.ownsRow w.heap.size 3 1 out (someOf pre a j).length ((someOf pre a j).map (Value.int .i64)) ∧ Below w.heap.size w wi)
        (fun out i _ => match out with | .slice _ l _ => 300 - l | _ => 0)
      case atStart => exact ⟨0, by omega, rfl, by simpa [someOf] using hlen, by simpa [someOf] using hownd, hBd⟩
      case round =>
        obtain ⟨j, hj, rfl, hln, hown, hnx2⟩ := hrel
        have hsz2 := hnx2.size
        by_cases hjl : j < Wd
        · have hne : (onward a j != b) = true := by
            have h := (HQ.out j hj).1
            simp; intro h2; have := h h2; omega
          have hob := onward_bd a j
          have hos := onward_succ a j
          have hsu := someOf_succ pre a j
          have hsl := someOf_len pre a (j + 1)
          have hsl0 := someOf_len pre a j
          have hPj := HP.out j hj
          obtain ⟨S, hSd⟩ : ∃ S, someOf pre a j = S := ⟨_, rfl⟩
          obtain ⟨S1, hSd1⟩ : ∃ S1, someOf pre a (j + 1) = S1 := ⟨_, rfl⟩
          rw [hSd] at hsl0 hln hown hsu hPj
          rw [hSd1] at hsl hsu
          obtain ⟨ℓ, hℓ⟩ : ∃ ℓ, S.length = ℓ := ⟨_, rfl⟩
          obtain ⟨x, hx⟩ : ∃ x, onward a j = x := ⟨_, rfl⟩
          obtain ⟨x1, hx1⟩ : ∃ x1, onward a (j + 1) = x1 := ⟨_, rfl⟩
          rw [hx] at hne hob hos hsu ⊢
          rw [hx1] at hos
          rw [hℓ] at hown hln hsl0
          have hl1 : S1.length = ℓ + 1 := by omega
          obtain ⟨ao, cc, rfl⟩ := owns_slice hown
          by_cases h257 : ℓ = 257
          · have hT := take_of_pre hPj (by omega)
            have e0 : ((ℓ : Int) == 257) = true := by simp [h257]
            have HT : Hid ((cycTo xs (n - 1)).take 257 = S ∧ S.length = ℓ) := Lib.hid ⟨hT, hℓ⟩
            have HO := Lib.hid hown
            have HX := Lib.hid hnx2
            clear hT hown hnx2 hPj hℓ hsl hsl0 hsu hos hl1 hSd hSd1 hx hx1 h257
            go_wp2
            try rw [Exit.noGoto_ret]
            go_ret
            exact ⟨_, rfl, by rw [HT.out.1, HT.out.2]; exact HO.out, HX.out⟩
          · have e0 : ((ℓ : Int) == 257) = false := by simp; omega
            have KG : Hid (∀ w, Calls Tryz.prog 177 #[.int .i64 x] w fun e w' => e = .returned (.int .i64 x1) ∧ w = w') := Lib.hid fun w => by
              have h := following_any x hob.1 hob.2 w
              rwa [hos] at h
            have HSU := Lib.hid hsu
            have HD := Lib.hid (And.intro hSd1 hx1)
            have HL1 := Lib.hid hl1
            have hℓ2 : ℓ ≤ 256 := by omega
            clear hPj hℓ hsl hsl0 hsu hos hl1 hSd hSd1 hx hx1 h257
            go_wp2_with (first
              | (go_at_call 177; refine (KG.out _).mono ?_; rintro e w' ⟨rfl, rfl⟩)
              | (at_builtin; refine wpList_append_own _ rfl (.tmp 36) (.tmp 38) 25 rfl w.heap.size 3 i0 (.int .i64 0) 1 8 Tryz.underlying25 hi hz0 hz1 hz2 rfl (by decide) _ _ _ rfl (hown.alloc _) ⟨wr.heap.size, 0, none⟩ 1 1 [.int .i64 x] rfl rfl (cell_one_new _ _ _) (by intro u hu; simp at hu; subst hu; rfl) (by unfold maxLen; omega) (by omega) (by simp; omega) ?_; intro v' w3 hown3 hgrow3 _))
            have hlt' := hown.lt
            go_roundw
            case rel =>
              refine ⟨j + 1, by omega, by rw [HD.out.2], by rw [HD.out.1, HL1.out]; omega, ?_, (hnx2.alloc hsz2 _).grown hgrow3 (by simp; omega) (fun q hq => (hlt' q hq).1)⟩
              rw [HD.out.1, HSU.out, HL1.out]
              exact hown3
            case measure =>
              obtain ⟨ao', cc', hv'⟩ := owns_slice hown3
              subst hv'
              simp; omega
        · have hje : j = Wd := by omega
          have hne : (onward a j != b) = false := by
            have h := (HQ.out j hj).2 hje
            simp [h]
          subst hje
          have HO := Lib.hid hown
          have HX := Lib.hid hnx2
          have HLN := Lib.hid hln
          clear hown hnx2 hln
          go_wp2
          go_roundw
          case rel => exact ⟨k + 1, by omega, by go_num, by rw [← HS.out]; exact HLN.out, by rw [← HS.out]; exact HO.out, HX.out⟩
          case measure => simp [intOf]; omega
    · have hltI : ¬ ((k : Int) < (n : Int) - 1) := by omega
      obtain rfl : k = n - 1 := by omega
      have hT : (cycTo xs (n - 1)).take 257 = cycTo xs (n - 1) := List.take_of_length_le hlen
      have HT := Lib.hid hT
      have HO := Lib.hid hown
      have HX := Lib.hid hnx
      clear hT hown hnx
      go_wp2
      try rw [Exit.noGoto_ret]
      go_ret
      exact ⟨_, rfl, by rw [HT.out]; exact HO.out, HX.out⟩
end Go.Proofs.YtlnhgplloaiiiaaGreatDoor

/-
  Contract of Lost for any telegrams and any station.
-/
namespace Go.Proofs.YtlnhgplloaiiiaaGreatDoor
open Go.RowKit
set_option linter.unusedVariables false
set_option linter.unusedSimpArgs false

theorem counts_bd (L : List Tel) (st : Int) (h : ∀ t ∈ L, t.Good) (j : Nat) (hj : j < (countsOf L st).length) : 0 ≤ (countsOf L st)[j]?.getD 0 ∧ (countsOf L st)[j]?.getD 0 ≤ 65535 := by
  have hm : (countsOf L st)[j]?.getD 0 ∈ countsOf L st := by
    rw [List.getElem?_eq_getElem hj]; exact List.getElem_mem hj
  generalize (countsOf L st)[j]?.getD 0 = x at hm
  unfold countsOf at hm
  obtain ⟨t, ht, rfl⟩ := List.mem_map.1 hm
  exact (h t (List.mem_filter.1 ht).1).ct
theorem firstNZ_append (a b : List Int) : firstNZ (a ++ b) = if firstNZ a = 0 then firstNZ b else firstNZ a := by
  induction a with
  | nil => simp [firstNZ]
  | cons x r ih =>
    rw [List.cons_append, firstNZ, firstNZ]
    by_cases h : x = 0
    · simp [h, ih]
    · simp [h]
theorem firstNZ_mem {l : List Int} (h : firstNZ l = 0) : ∀ x ∈ l, x = 0 := by
  induction l with
  | nil => simp
  | cons x r ih =>
    rw [firstNZ] at h
    by_cases h0 : x = 0
    · simp only [h0, ne_eq, not_true, if_false] at h
      intro y hy
      rcases List.mem_cons.1 hy with rfl | hy
      · exact h0
      · exact ih h y hy
    · simp [h0] at h
theorem telsErr_good {L : List Tel} (h : telsErr L = 0) : ∀ t ∈ L, t.Good := fun t ht => by
  have h1 := firstNZ_mem h t.err (List.mem_map.2 ⟨t, ht, rfl⟩)
  rcases t.err_or with ⟨_, hg⟩ | h3
  · exact hg
  · rw [h3] at h1; cases h1

/-- The counters that are lost, and the error. -/
def lostL (L : List Tel) (st : Int) : List Int := cycTo (countsOf L st) ((countsOf L st).length - 1)
noncomputable def argErr (L : List Tel) (st : Int) : Int := firstNZ [telsErr L, rangeErr st 0 255]
noncomputable def lostErr (L : List Tel) (st : Int) : Int := if argErr L st ≠ 0 then argErr L st else if 256 < (lostL L st).length then 5 else 0
noncomputable def lostN (L : List Tel) (st : Int) : Nat := if lostErr L st = 0 then (lostL L st).length else 0
theorem argErr_app (L : List Tel) (st : Int) : firstNZ (L.map Tel.err ++ [rangeErr st 0 255]) = argErr L st := by
  unfold argErr telsErr
  rw [firstNZ_append]
  by_cases h : firstNZ (L.map Tel.err) = 0
  · rw [if_pos h, h]; simp [firstNZ]
  · rw [if_neg h]
    rw [firstNZ, if_pos h]
theorem argErr_zero {L : List Tel} {st : Int} (h : argErr L st = 0) : telsErr L = 0 ∧ 0 ≤ st ∧ st ≤ 255 := by
  obtain ⟨h1, h2⟩ := firstNZ_two h
  exact ⟨h1, rangeErr_zero h2⟩
theorem nil_slice {w : World} {B T sz : Nat} {v : Value} {xs : List Value} (h : w.ownsRow B T sz v 0 xs) : ∃ a c, v = .slice a 0 c := by
  rcases h.2 with ⟨rfl, _⟩ | ⟨g, cap, cur, rfl, _⟩
  · exact ⟨_, _, rfl⟩
  · exact ⟨_, _, rfl⟩

/-- missing at a slice that owns counters, or at none. -/
theorem missing_row (xs : List Int) (n : Nat) (hl : xs.length = n) (hA : ∀ j, j < n → 0 ≤ xs[j]?.getD 0 ∧ xs[j]?.getD 0 ≤ 65535) (hm : n ≤ 512) (w : World) (B : Nat) (v : Value) (h : w.ownsRow B 3 1 v n (xs.map (Value.int .i64))) :
    Calls Tryz.prog 153 #[v, .int .i64 257] w fun e w' =>
      ∃ v', e = .returned v' ∧ w'.ownsRow w.heap.size 3 1 v' ((cycTo xs (n - 1)).take 257).length (((cycTo xs (n - 1)).take 257).map (Value.int .i64)) ∧ Below w.heap.size w w' := by
  by_cases hn : 1 ≤ n
  · obtain ⟨g, c, rfl, hg, _⟩ := owns_some h hn
    exact missing_all xs n g c hA hn hm w hg (fun j hj => owns_cell h (by
      rw [List.getElem?_map, List.getElem?_eq_getElem (by rw [hl]; exact hj)]; rfl))
  · obtain rfl : n = 0 := by omega
    obtain ⟨ao, c, rfl⟩ := nil_slice h
    exact (missing_none ao c w).mono fun e w' ⟨he, hw⟩ => ⟨_, he, by subst hw; exact World.ownsRow_nil _ _ _ _, by subst hw; exact Below.refl _ _⟩

set_option maxRecDepth 100000 in
set_option maxHeartbeats 3200000 in
theorem lost_many (a : Option Addr) (cp : Nat) (st : Int) (w : World) :
    Calls Tryz.prog 78 #[.slice a 513 cp, .int .i64 st] w fun e w' => e = .returned (.tuple #[.slice none 0 0, .int .i64 5]) ∧ w = w' := by
  go_enter Tryz.func78, Tryz.ntmps78
  go_wp2
  go_ret2
  exact ⟨rfl, rfl⟩

set_option maxRecDepth 100000 in
set_option maxHeartbeats 3200000 in
theorem lost_bad (L : List Tel) (a : Option Addr) (n cp : Nat) (st : Int) (hm : n ≤ 512) (w : World) (hA : AnyTels w a n L) (h0 : argErr L st ≠ 0) :
    Calls Tryz.prog 78 #[.slice a n cp, .int .i64 st] w fun e w' => e = .returned (.tuple #[.slice none 0 0, .int .i64 (argErr L st)]) ∧ Below w.heap.size w w' := by
  obtain ⟨i0, hi, hz0, hz1, hz2⟩ := info_parts Tryz.info26_check
  have K1 := Lib.hid (mapped_tels L a n cp hm w hA)
  have HN := Lib.hid hA.1.symm
  have i1 : ((n : Int) ≤ 512) := by omega
  have HR := Lib.hid (argErr_app L st)
  obtain ⟨r, hr⟩ : ∃ r, argErr L st = r := ⟨_, rfl⟩
  rw [hr] at HR h0 ⊢
  have e0 : (r != 0) = true := by simp [h0]
  clear hA hr h0
  go_enter Tryz.func78, Tryz.ntmps78
  go_wp2_with (first
    | (go_at_call 152; refine K1.out.mono ?_; rintro e w1 ⟨rfl, hown1, hb1⟩)
    | (go_at_call 92; refine (checkRange_any _ _ _ _).mono ?_; rintro e w' ⟨rfl, rfl⟩)
    | (at_builtin; refine wpList_append_own _ rfl (.tmp 12) (.tmp 15) 173 rfl w.heap.size 26 i0 (.int .i64 0) 1 8 Tryz.underlying173 hi hz0 hz1 hz2 rfl (by decide) _ n _ rfl (hown1.alloc _) ⟨w1.heap.size, 0, none⟩ 1 1 [.int .i64 (rangeErr st 0 255)] rfl rfl (cell_one_new _ _ _) (by intro u hu; simp at hu; subst hu; rfl) (by unfold maxLen; omega) (by omega) (by have := hb1.size; simp; omega) ?_;
       intro v3 w3 hown3 hgrow3 _;
       obtain ⟨g, c', rfl, hgl, _⟩ := owns_some hown3 (by omega)
       have hb3 : Below w.heap.size w w3 := (hb1.alloc hb1.size _).grown hgrow3 (by have := hb1.size; simp; omega) (fun j hj => by cases hj; exact Nat.le_refl _)
       have hz : ∀ j, j < n + 1 → w3.cell? ⟨g, 0 + j, none⟩ = some (.int .i64 ((L.map Tel.err ++ [rangeErr st 0 255])[j]?.getD 0)) := fun j hj => by
         rw [Nat.zero_add]
         refine owns_cell hown3 ?_
         have e : (L.map Tel.err).map (Value.int .i64) ++ [Value.int .i64 (rangeErr st 0 255)] = (L.map Tel.err ++ [rangeErr st 0 255]).map (Value.int .i64) := by simp
         rw [e, List.getElem?_map, List.getElem?_eq_getElem (by have := HN.out; simp; omega)]; rfl
       have HZ := Lib.hid hz
       have hw3 := hb3.size
       clear hz hown3 hgrow3 hown1 hb1)
    | (go_at_call 91; refine (first_any _ 0 _ _ (L.map Tel.err ++ [rangeErr st 0 255]) (by have := HN.out; simp; omega) (by omega) _ HZ.out).mono ?_; rintro e w' ⟨rfl, rfl⟩; rw [HR.out]))
  go_ret2
  exact ⟨rfl, hb3⟩

set_option maxRecDepth 100000 in
set_option maxHeartbeats 6400000 in
theorem lost_good (L : List Tel) (a : Option Addr) (n cp : Nat) (st : Int) (hm : n ≤ 512) (w : World) (hA : AnyTels w a n L) (h0 : argErr L st = 0) :
    Calls Tryz.prog 78 #[.slice a n cp, .int .i64 st] w fun e w' => ∃ v, e = .returned (.tuple #[v, .int .i64 (lostErr L st)]) ∧ IntsV w' v (lostN L st) (lostL L st) ∧ Below w.heap.size w w' := by
  obtain ⟨i0, hi, hz0, hz1, hz2⟩ := info_parts Tryz.info26_check
  obtain ⟨hg, hst⟩ := argErr_zero h0
  have hgood := telsErr_good hg
  have K1 := Lib.hid (mapped_tels L a n cp hm w hA)
  have K2 := Lib.hid (fun (w' : World) (h2 : AnyTels w' a n L) => countersOf_all L a n cp st hm w' h2)
  have hcl := counts_len L st
  have hln := hA.1
  have K3 := Lib.hid (fun (w' : World) (B : Nat) (v : Value) h => missing_row (countsOf L st) _ rfl (counts_bd L st hgood) (by omega) w' B v h)
  have HA := Lib.hid hA
  have HN := Lib.hid hA.1.symm
  have i1 : ((n : Int) ≤ 512) := by omega
  have HR := Lib.hid (argErr_app L st)
  have hE : lostErr L st = if 256 < (lostL L st).length then 5 else 0 := by unfold lostErr; rw [if_neg (by simp [h0])]
  rw [h0] at HR
  have K4 : Hid (∀ (w' : World) (B : Nat) (v : Value), w'.ownsRow B 3 1 v (countsOf L st).length ((countsOf L st).map (Value.int .i64)) → Calls Tryz.prog 153 #[v, .int .i64 257] w' fun e w'' =>
      ∃ v', e = .returned v' ∧ w''.ownsRow w'.heap.size 3 1 v' ((lostL L st).take 257).length (((lostL L st).take 257).map (Value.int .i64)) ∧ Below w'.heap.size w' w'') := K3
  unfold lostN
  rw [hE]
  obtain ⟨R, hR⟩ : ∃ R, lostL L st = R := ⟨_, rfl⟩
  rw [hR] at K4 ⊢
  clear hA hR K3 hg hst hgood hcl hln hE h0
  by_cases hlen : 256 < R.length
  · rw [if_pos hlen]
    have hT : (R.take 257).length = 257 := by rw [List.length_take]; omega
    rw [hT] at K4
    clear hT hlen
    go_enter Tryz.func78, Tryz.ntmps78
    go_wp2_with (first
      | (go_at_call 152; refine K1.out.mono ?_; rintro e w1 ⟨rfl, hown1, hb1⟩)
      | (go_at_call 92; refine (checkRange_any _ _ _ _).mono ?_; rintro e w' ⟨rfl, rfl⟩)
      | (at_builtin; refine wpList_append_own _ rfl (.tmp 12) (.tmp 15) 173 rfl w.heap.size 26 i0 (.int .i64 0) 1 8 Tryz.underlying173 hi hz0 hz1 hz2 rfl (by decide) _ n _ rfl (hown1.alloc _) ⟨w1.heap.size, 0, none⟩ 1 1 [.int .i64 (rangeErr st 0 255)] rfl rfl (cell_one_new _ _ _) (by intro u hu; simp at hu; subst hu; rfl) (by unfold maxLen; omega) (by omega) (by have := hb1.size; simp; omega) ?_;
         intro v3 w3 hown3 hgrow3 _;
         obtain ⟨g, c', rfl, hgl, _⟩ := owns_some hown3 (by omega)
         have hb3 : Below w.heap.size w w3 := (hb1.alloc hb1.size _).grown hgrow3 (by have := hb1.size; simp; omega) (fun j hj => by cases hj; exact Nat.le_refl _)
         have hz : ∀ j, j < n + 1 → w3.cell? ⟨g, 0 + j, none⟩ = some (.int .i64 ((L.map Tel.err ++ [rangeErr st 0 255])[j]?.getD 0)) := fun j hj => by
           rw [Nat.zero_add]
           refine owns_cell hown3 ?_
           have e : (L.map Tel.err).map (Value.int .i64) ++ [Value.int .i64 (rangeErr st 0 255)] = (L.map Tel.err ++ [rangeErr st 0 255]).map (Value.int .i64) := by simp
           rw [e, List.getElem?_map, List.getElem?_eq_getElem (by have := HN.out; simp; omega)]; rfl
         have HZ := Lib.hid hz
         have hw3 := hb3.size
         have hc3 := HA.out.kept hb3
         have K5 := Lib.hid (K2.out w3 hc3)
         clear hc3
         clear hz hown3 hgrow3 hown1 hb1)
      | (go_at_call 91; refine (first_any _ 0 _ _ (L.map Tel.err ++ [rangeErr st 0 255]) (by have := HN.out; simp; omega) (by omega) _ HZ.out).mono ?_; rintro e w' ⟨rfl, rfl⟩; rw [HR.out])
      | (go_at_call 154; refine K5.out.mono ?_; rintro e w4 ⟨v4, rfl, hown4, hb4⟩
         have K6 := Lib.hid (K4.out w4 _ _ hown4)
         have hb5 : Below w.heap.size w w4 := hb3.trans (hb4.mono hw3))
      | (go_at_call 153; refine K6.out.mono ?_; rintro e w6 ⟨v6, rfl, hown6, hb6⟩
         obtain ⟨ao, c6, rfl⟩ := owns_slice hown6
         have hb7 : Below w.heap.size w w6 := hb5.trans (hb6.mono hb5.size)))
    go_ret2
    exact ⟨_, rfl, IntsV.nil _ _, hb7⟩
  · rw [if_neg hlen]
    have hT : R.take 257 = R := List.take_of_length_le (by omega)
    rw [hT] at K4
    have i2 : ¬ ((256 : Int) < (R.length : Int)) := by omega
    obtain ⟨ℓ, hℓ⟩ : ∃ ℓ, R.length = ℓ := ⟨_, rfl⟩
    rw [hℓ] at K4 i2 ⊢
    clear hT hlen hℓ
    go_enter Tryz.func78, Tryz.ntmps78
    go_wp2_with (first
      | (go_at_call 152; refine K1.out.mono ?_; rintro e w1 ⟨rfl, hown1, hb1⟩)
      | (go_at_call 92; refine (checkRange_any _ _ _ _).mono ?_; rintro e w' ⟨rfl, rfl⟩)
      | (at_builtin; refine wpList_append_own _ rfl (.tmp 12) (.tmp 15) 173 rfl w.heap.size 26 i0 (.int .i64 0) 1 8 Tryz.underlying173 hi hz0 hz1 hz2 rfl (by decide) _ n _ rfl (hown1.alloc _) ⟨w1.heap.size, 0, none⟩ 1 1 [.int .i64 (rangeErr st 0 255)] rfl rfl (cell_one_new _ _ _) (by intro u hu; simp at hu; subst hu; rfl) (by unfold maxLen; omega) (by omega) (by have := hb1.size; simp; omega) ?_;
         intro v3 w3 hown3 hgrow3 _;
         obtain ⟨g, c', rfl, hgl, _⟩ := owns_some hown3 (by omega)
         have hb3 : Below w.heap.size w w3 := (hb1.alloc hb1.size _).grown hgrow3 (by have := hb1.size; simp; omega) (fun j hj => by cases hj; exact Nat.le_refl _)
         have hz : ∀ j, j < n + 1 → w3.cell? ⟨g, 0 + j, none⟩ = some (.int .i64 ((L.map Tel.err ++ [rangeErr st 0 255])[j]?.getD 0)) := fun j hj => by
           rw [Nat.zero_add]
           refine owns_cell hown3 ?_
           have e : (L.map Tel.err).map (Value.int .i64) ++ [Value.int .i64 (rangeErr st 0 255)] = (L.map Tel.err ++ [rangeErr st 0 255]).map (Value.int .i64) := by simp
           rw [e, List.getElem?_map, List.getElem?_eq_getElem (by have := HN.out; simp; omega)]; rfl
         have HZ := Lib.hid hz
         have hw3 := hb3.size
         have hc3 := HA.out.kept hb3
         have K5 := Lib.hid (K2.out w3 hc3)
         clear hc3
         clear hz hown3 hgrow3 hown1 hb1)
      | (go_at_call 91; refine (first_any _ 0 _ _ (L.map Tel.err ++ [rangeErr st 0 255]) (by have := HN.out; simp; omega) (by omega) _ HZ.out).mono ?_; rintro e w' ⟨rfl, rfl⟩; rw [HR.out])
      | (go_at_call 154; refine K5.out.mono ?_; rintro e w4 ⟨v4, rfl, hown4, hb4⟩
         have K6 := Lib.hid (K4.out w4 _ _ hown4)
         have hb5 : Below w.heap.size w w4 := hb3.trans (hb4.mono hw3))
      | (go_at_call 153; refine K6.out.mono ?_; rintro e w6 ⟨v6, rfl, hown6, hb6⟩
         obtain ⟨ao, c6, rfl⟩ := owns_slice hown6
         have hb7 : Below w.heap.size w w6 := hb5.trans (hb6.mono hb5.size)))
    go_ret2
    exact ⟨_, rfl, IntsV.of_row hown6, hb7⟩

theorem lost_all (L : List Tel) (a : Option Addr) (n cp : Nat) (st : Int) (hm : n ≤ 512) (w : World) (hA : AnyTels w a n L) :
    Calls Tryz.prog 78 #[.slice a n cp, .int .i64 st] w fun e w' => ∃ v, e = .returned (.tuple #[v, .int .i64 (lostErr L st)]) ∧ IntsV w' v (lostN L st) (lostL L st) ∧ Below w.heap.size w w' := by
  by_cases h0 : argErr L st = 0
  · exact lost_good L a n cp st hm w hA h0
  · have hE : lostErr L st = argErr L st := by unfold lostErr; rw [if_pos h0]
    refine (lost_bad L a n cp st hm w hA h0).mono ?_
    rintro e w' ⟨rfl, hb⟩
    refine ⟨_, by rw [hE], ?_, hb⟩
    unfold lostN
    rw [hE, if_neg h0]
    exact IntsV.nil _ _
end Go.Proofs.YtlnhgplloaiiiaaGreatDoor

/-
  Contract of the reference's Lost, for right telegrams.
-/
namespace Go.Proofs.YtlnhgplloaiiiaaGreatDoor
open Go.RowKit
set_option linter.unusedVariables false
set_option linter.unusedSimpArgs false

theorem cycTo_app (xs ys : List Int) : ∀ k, k < xs.length → cycTo (xs ++ ys) k = cycTo xs k
  | 0, _ => by simp [cycTo]
  | k + 1, h => by
    rw [cycTo_succ, cycTo_succ, cycTo_app xs ys k (by omega), List.getElem?_append_left (by omega), List.getElem?_append_left (by omega)]
def endOf (xs : List Int) : Int := if xs.length = 0 then -1 else xs[xs.length - 1]?.getD 0
/-- What is lost between the counters. -/
def lostOf (xs : List Int) : List Int := cycTo xs (xs.length - 1)
theorem lostOf_one (xs : List Int) (c : Int) (h : xs.length = 0) : lostOf (xs ++ [c]) = [] ∧ lostOf xs = [] := by
  obtain rfl := List.length_eq_zero_iff.1 h
  exact ⟨rfl, rfl⟩
theorem lostOf_more (xs : List Int) (c : Int) (h : xs.length ≠ 0) : lostOf (xs ++ [c]) = lostOf xs ++ cyc (endOf xs) c := by
  unfold lostOf endOf
  obtain ⟨m, hm⟩ : ∃ m, xs.length = m + 1 := ⟨xs.length - 1, by omega⟩
  rw [if_neg h, List.length_append, hm]
  show cycTo (xs ++ [c]) (m + 1) = _
  rw [cycTo_succ, cycTo_app xs [c] m (by omega), List.getElem?_append_left (by omega), List.getElem?_append_right (by omega), hm]
  simp
theorem endOf_app (xs : List Int) (c : Int) : endOf (xs ++ [c]) = c := by
  unfold endOf
  rw [if_neg (by simp)]
  simp
theorem lostOf_pre (xs : List Int) (c : Int) : lostOf xs <+: lostOf (xs ++ [c]) := by
  by_cases h : xs.length = 0
  · rw [(lostOf_one xs c h).2]; exact List.nil_prefix
  · rw [lostOf_more xs c h]; exact List.prefix_append _ _
theorem lostTo_step (L : List Tel) (st : Int) (k : Nat) (hk : k < L.length) : lostOf (countsOf (L.take k) st) <+: lostOf (countsOf (L.take (k + 1)) st) := by
  rw [countsOf_succ L st k hk]
  split
  · exact lostOf_pre _ _
  · exact List.prefix_refl _
theorem lostTo_pre (L : List Tel) (st : Int) : ∀ d k, k + d = L.length → lostOf (countsOf (L.take k) st) <+: lostOf (countsOf L st)
  | 0, k, h => by rw [List.take_of_length_le (by omega)]; exact List.prefix_refl _
  | d + 1, k, h => (lostTo_step L st k (by omega)).trans (lostTo_pre L st d (k + 1) (by omega))
theorem lostOf_L (L : List Tel) (st : Int) : lostL L st = lostOf (countsOf L st) := rfl
theorem some_pre (pre : List Int) (a b : Int) (j : Nat) (hj : j ≤ wide a b) : someOf pre a j <+: pre ++ cyc a b := by
  unfold someOf cyc
  refine (List.prefix_append_right_inj _).2 (List.IsPrefix.map _ ?_)
  obtain ⟨d, hd⟩ : ∃ d, wide a b = j + d := ⟨_, (Nat.add_sub_of_le hj).symm⟩
  rw [hd, List.range_add]
  exact List.prefix_append _ _
theorem endOf_bd (xs : List Int) (h : ∀ j, j < xs.length → 0 ≤ xs[j]?.getD 0 ∧ xs[j]?.getD 0 ≤ 65535) : -1 ≤ endOf xs ∧ endOf xs ≤ 65535 ∧ (xs.length ≠ 0 → 0 ≤ endOf xs) ∧ (xs.length = 0 → endOf xs = -1) := by
  unfold endOf
  by_cases h0 : xs.length = 0
  · rw [if_pos h0]; exact ⟨by omega, by omega, fun h => absurd h0 h, fun _ => rfl⟩
  · rw [if_neg h0]
    have := h (xs.length - 1) (by omega)
    exact ⟨by omega, by omega, fun _ => this.1, fun h => absurd h h0⟩

/-- What the reference's Lost answers. -/
def RefLost (X : List Int) (w : World) (e : Ending) (w' : World) : Prop := ∃ v, e = .returned (.tuple #[v, .int .i64 (if 256 < X.length then 5 else 0)]) ∧ IntsV w' v (if 256 < X.length then 0 else X.length) X ∧ Below w.heap.size w w'
theorem RefLost.many {X : List Int} {w w' : World} (h : 256 < X.length) (hb : Below w.heap.size w w') : RefLost X w (.returned (.tuple #[.slice none 0 0, .int .i64 5])) w' :=
  ⟨_, by rw [if_pos h], by rw [if_pos h]; exact IntsV.nil _ _, hb⟩
theorem RefLost.few {X : List Int} {w w' : World} {v : Value} (h : ¬ 256 < X.length) (hi : IntsV w' v X.length X) (hb : Below w.heap.size w w') : RefLost X w (.returned (.tuple #[v, .int .i64 0])) w' :=
  ⟨_, by rw [if_neg h], by rw [if_neg h]; exact hi, hb⟩

set_option maxRecDepth 100000 in
set_option maxHeartbeats 6400000 in
theorem refLost_any (L : List Tel) (a : Option Addr) (n cp : Nat) (st : Int) (hm : n ≤ 512) (hgood : ∀ t ∈ L, t.Good) (w : World) (hA : AnyTels w a n L) :
    Calls Tryz.prog 81 #[.slice a n cp, .int .i64 st] w (RefLost (lostOf (countsOf L st)) w) := by
  obtain ⟨i0, hi, hz0, hz1, hz2⟩ := info_parts Tryz.infoInt
  have HC := Lib.hid hA.2
  have HN := Lib.hid hA.1.symm
  have HG := Lib.hid hgood
  have i1 : ((n : Int) ≤ 512) := by omega
  clear hA hgood
  go_enter Tryz.func81, Tryz.ntmps81
  go_wp2
  go_loopw [6, 7, 8] (fun out la i wr => ∃ k : Nat, k ≤ n ∧ i = .int .i64 k ∧ la = .int .i64 (endOf (countsOf (L.take k) st)) ∧ (lostOf (countsOf (L.take k) st)).length ≤ 256 ∧ wr.ownsRow w.heap.size 3 1 out (lostOf (countsOf (L.take k) st)).length ((lostOf (countsOf (L.take k) st)).map (Value.int .i64)) ∧ Below w.heap.size w wr)
    (fun _ _ i _ => n - (intOf i).toNat)
  case atStart => exact ⟨0, Nat.zero_le _, rfl, rfl, by simp [countsOf, lostOf, cycTo], World.ownsRow_nil _ _ _ _, Below.refl _ _⟩
  case round =>
    obtain ⟨k, hk, rfl, rfl, hlen, hown, hnx⟩ := hrel
    have hsz : w.heap.size ≤ wr.heap.size := hnx.size
    by_cases hlt : k < n
    · have hlt2 : k < L.length := by have := HN.out; omega
      obtain ⟨b, q, rfl, hb, hT0⟩ := HC.out k hlt
      have hT := hT0 k hlt2
      have hS := countsOf_succ L st k hlt2
      have hG : (L[k]?.getD tel0).Good := by
        rw [List.getElem?_eq_getElem hlt2]; exact HG.out _ (List.getElem_mem hlt2)
      have hP := lostTo_pre L st (L.length - (k + 1)) (k + 1) (by omega)
      have hbd := endOf_bd (countsOf (L.take k) st) (counts_bd (L.take k) st (fun t ht => HG.out t (List.mem_of_mem_take ht)))
      obtain ⟨t, ht⟩ : ∃ t, L[k]?.getD tel0 = t := ⟨_, rfl⟩
      rw [ht] at hT hS hG
      have hc0 : wr.cell? ⟨b, q + k * 6, none⟩ = some (.int .i64 t.s) := (hnx.cell (by exact hb)).trans (hT 0 _ rfl)
      have hc1 : wr.cell? ⟨b, q + k * 6 + 1, none⟩ = some (.int .i64 t.c) := (hnx.cell (by exact hb)).trans (hT 1 _ rfl)
      have hct := hG.ct
      obtain ⟨xs, hxs⟩ : ∃ xs, countsOf (L.take k) st = xs := ⟨_, rfl⟩
      rw [hxs] at hS hlen hown hbd ⊢
      obtain ⟨la, hla⟩ : ∃ la, endOf xs = la := ⟨_, rfl⟩
      have HLA := Lib.hid hla
      rw [hla] at hbd ⊢
      obtain ⟨pre, hpre⟩ : ∃ pre, lostOf xs = pre := ⟨_, rfl⟩
      have HPRE := Lib.hid hpre
      rw [hpre] at hlen hown
      clear ht hT hT0 hG hxs hlt2 HC HG hla hpre
      by_cases hst : t.s = st
      · have e0 : (t.s != st) = false := by simp [hst]
        rw [if_pos hst] at hS
        clear hst
        by_cases h0 : xs.length = 0
        · have e1 : ¬ (0 ≤ la) := by have := hbd.2.2.2 h0; omega
          have h1 := lostOf_one xs t.c h0
          have HS : Hid (endOf (countsOf (L.take (k + 1)) st) = t.c ∧ lostOf (countsOf (L.take (k + 1)) st) = pre) := Lib.hid ⟨by rw [hS, endOf_app], by rw [hS, h1.1, ← HPRE.out, h1.2]⟩
          have HO := Lib.hid hown
          have HX := Lib.hid hnx
          have HLN := Lib.hid hlen
          clear hS hP h1 h0 hbd hown hnx hlen
          go_wp2
          go_roundw
          case rel => exact ⟨k + 1, by omega, by go_num, by rw [HS.out.1], by rw [HS.out.2]; exact HLN.out, by rw [HS.out.2]; exact HO.out, HX.out⟩
          case measure => simp [intOf]; omega
        · have e1 : 0 ≤ la := hbd.2.2.1 h0
          have e2 : la ≤ 65535 := hbd.2.1
          have hL := lostOf_more xs t.c h0
          rw [HLA.out, HPRE.out] at hL
          have HS : Hid (endOf (countsOf (L.take (k + 1)) st) = t.c ∧ lostOf (countsOf (L.take (k + 1)) st) = pre ++ cyc la t.c) := Lib.hid ⟨by rw [hS, endOf_app], by rw [hS, hL]⟩
          rw [HS.out.2] at hP
          have HP := Lib.hid (fun j hj => (some_pre pre la t.c j hj).trans hP)
          have HQ := Lib.hid (fun j => @onward_eq la _ hct j)
          obtain ⟨Wd, hWide⟩ : ∃ Wd : Nat, wide la t.c = Wd := ⟨_, rfl⟩
          have HALL : Hid (pre ++ cyc la t.c = someOf pre la Wd) := Lib.hid (by rw [← hWide]; rfl)
          rw [hWide] at HP HQ
          have hf0 := onward_0 la
          obtain ⟨x0, hx0⟩ : ∃ x0, onward la 0 = x0 := ⟨_, rfl⟩
          rw [hx0] at hf0
          have HX0 := Lib.hid hx0
          clear hS hP hL hWide h0 hbd hx0
          go_wp2_with fail
          have HO := Lib.hid hown
          have HNX := Lib.hid hnx
          have HC0 := Lib.hid hc0
          have HC1 := Lib.hid hc1
          clear hown hc0 hf0
          obtain ⟨wo, hwo⟩ : ∃ wo : World, wo = wr := ⟨_, rfl⟩
          subst hwo
          go_loopw [6, 9] (fun out i wi => ∃ j : Nat, j ≤ Wd ∧ i = .int .i64 (onward la j) ∧ (someOf pre la j).length ≤ 256 ∧ wi.ownsRow w.heap.size 3 1 out (someOf pre la j).length ((someOf pre la j).map (Value.int .i64)) ∧ Below w.heap.size w wi)
            (fun out i _ => match out with | .slice _ l _ => 300 - l | _ => 0)
          case atStart => exact ⟨0, by omega, by rw [onward_0 la], by simpa [someOf] using hlen, by simpa [someOf] using HO.out, HNX.out⟩
          case round =>
            obtain ⟨j, hj, rfl, hln, hown, hnx2⟩ := hrel
            have hsz2 := hnx2.size
            have hc1' : wr.cell? ⟨b, q + k * 6 + 1, none⟩ = some (.int .i64 t.c) := (hnx2.cell (p := ⟨b, q + k * 6 + 1, none⟩) hb).trans ((HNX.out.cell (p := ⟨b, q + k * 6 + 1, none⟩) hb).symm.trans HC1.out)
            have hc0' : wr.cell? ⟨b, q + k * 6, none⟩ = some (.int .i64 t.s) := (hnx2.cell (p := ⟨b, q + k * 6, none⟩) hb).trans ((HNX.out.cell (p := ⟨b, q + k * 6, none⟩) hb).symm.trans HC0.out)
            clear hnx hc1
            by_cases hjl : j < Wd
            · have hne : (onward la j != t.c) = true := by
                have h := (HQ.out j hj).1
                simp; intro h2; have := h h2; omega
              have hob := onward_bd la j
              have hos := onward_succ la j
              have hsu := someOf_succ pre la j
              have hsl := someOf_len pre la (j + 1)
              have hsl0 := someOf_len pre la j
              have hPj := HP.out (j + 1) (by omega)
              obtain ⟨S, hSd⟩ : ∃ S, someOf pre la j = S := ⟨_, rfl⟩
              obtain ⟨S1, hSd1⟩ : ∃ S1, someOf pre la (j + 1) = S1 := ⟨_, rfl⟩
              rw [hSd] at hsl0 hln hown hsu
              rw [hSd1] at hsl hsu hPj
              obtain ⟨ℓ, hℓ⟩ : ∃ ℓ, S.length = ℓ := ⟨_, rfl⟩
              obtain ⟨x, hx⟩ : ∃ x, onward la j = x := ⟨_, rfl⟩
              obtain ⟨x1, hx1⟩ : ∃ x1, onward la (j + 1) = x1 := ⟨_, rfl⟩
              rw [hx] at hne hob hos hsu ⊢
              rw [hx1] at hos
              rw [hℓ] at hown hln hsl0
              have hl1 : S1.length = ℓ + 1 := by omega
              have hob1 := hob.1
              have hob2 := hob.2
              have HSU := Lib.hid hsu
              have HOS := Lib.hid hos
              clear hos
              have HD := Lib.hid (And.intro hSd1 hx1)
              have HL1 := Lib.hid hl1
              by_cases h256 : ℓ = 256
              · have hT : 256 < (lostOf (countsOf L st)).length := by
                  have := hPj.length_le
                  omega
                have HT := Lib.hid hT
                have i9 : (256 : Int) < (ℓ : Int) + 1 := by omega
                clear hT hPj hℓ hsl hsl0 hsu hl1 hSd hSd1 hx hx1 h256 hob
                go_wp2_with (at_builtin; refine wpList_append_own _ rfl (.tmp 38) (.tmp 40) 25 rfl w.heap.size 3 i0 (.int .i64 0) 1 8 Tryz.underlying25 hi hz0 hz1 hz2 rfl (by decide) _ _ _ rfl (hown.alloc _) ⟨wr.heap.size, 0, none⟩ 1 1 [.int .i64 x] rfl rfl (cell_one_new _ _ _) (by intro u hu; simp at hu; subst hu; rfl) (by unfold maxLen; omega) (by omega) (by simp; omega) ?_; intro v' w3 hown3 hgrow3 _; obtain ⟨ao, cc, rfl⟩ := owns_slice hown3)
                have hlt' := hown.lt
                go_ret2
                exact RefLost.many HT.out ((hnx2.alloc hsz2 _).grown hgrow3 (by simp; omega) (fun q hq => (hlt' q hq).1))
              · have i9 : ¬ ((256 : Int) < (ℓ : Int) + 1) := by omega
                have hℓ2 : ℓ ≤ 255 := by omega
                clear hPj hℓ hsl hsl0 hsu hl1 hSd hSd1 hx hx1 h256 hob
                go_wp2_with (at_builtin; refine wpList_append_own _ rfl (.tmp 38) (.tmp 40) 25 rfl w.heap.size 3 i0 (.int .i64 0) 1 8 Tryz.underlying25 hi hz0 hz1 hz2 rfl (by decide) _ _ _ rfl (hown.alloc _) ⟨wr.heap.size, 0, none⟩ 1 1 [.int .i64 x] rfl rfl (cell_one_new _ _ _) (by intro u hu; simp at hu; subst hu; rfl) (by unfold maxLen; omega) (by omega) (by simp; omega) ?_; intro v' w3 hown3 hgrow3 _; obtain ⟨ao, cc, rfl⟩ := owns_slice hown3)
                have hlt' := hown.lt
                go_roundw
                case rel =>
                  refine ⟨j + 1, by omega, by rw [HD.out.2, HOS.out], by rw [HD.out.1, HL1.out]; omega, ?_, (hnx2.alloc hsz2 _).grown hgrow3 (by simp; omega) (fun q hq => (hlt' q hq).1)⟩
                  rw [HD.out.1, HSU.out, HL1.out]
                  exact hown3
                case measure =>
                  obtain ⟨ao2, cc2, hv2⟩ := owns_slice hown
                  subst hv2
                  simp; omega
            · have hje : j = Wd := by omega
              have hne : (onward la j != t.c) = false := by
                have h := (HQ.out j hj).2 hje
                simp [h]
              subst hje
              have HO2 := Lib.hid hown
              have HX := Lib.hid hnx2
              have HLN := Lib.hid hln
              clear hown hnx2 hln
              go_wp2
              go_roundw
              case rel => exact ⟨k + 1, by omega, by go_num, by rw [HS.out.1], by rw [HS.out.2, HALL.out]; exact HLN.out, by rw [HS.out.2, HALL.out]; exact HO2.out, HX.out⟩
              case measure => simp [intOf]; omega
      · have e0 : (t.s != st) = true := by simp [hst]
        rw [if_neg hst] at hS
        have HS : Hid (endOf (countsOf (L.take (k + 1)) st) = la ∧ lostOf (countsOf (L.take (k + 1)) st) = pre) := Lib.hid ⟨by rw [hS, HLA.out], by rw [hS, HPRE.out]⟩
        have HO := Lib.hid hown
        have HX := Lib.hid hnx
        have HLN := Lib.hid hlen
        clear hst hS hP hbd hown hnx hlen
        go_wp2
        go_roundw
        case rel => exact ⟨k + 1, by omega, by go_num, by rw [HS.out.1], by rw [HS.out.2]; exact HLN.out, by rw [HS.out.2]; exact HO.out, HX.out⟩
        case measure => simp [intOf]; omega
    · obtain rfl : k = n := by omega
      have ht : L.take k = L := List.take_of_length_le (by have := HN.out; omega)
      rw [ht] at hlen hown ⊢
      have HI := Lib.hid (IntsV.of_row hown)
      have hnn : ¬ (256 < (lostOf (countsOf L st)).length) := by omega
      have HNN := Lib.hid hnn
      have HX := Lib.hid hnx
      clear ht hown hnx hnn hlen
      go_wp2
      go_ret2
      exact RefLost.few HNN.out HI.out HX.out
end Go.Proofs.YtlnhgplloaiiiaaGreatDoor
