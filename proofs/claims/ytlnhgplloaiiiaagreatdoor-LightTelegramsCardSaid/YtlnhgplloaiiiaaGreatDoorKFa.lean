/-
  Contracts of the checks of a name, of the program and of the reference: both answer nameB, for every string.
-/
import Derived.Test.YtlnhgplloaiiiaaGreatDoorKWa
import Derived.Laws.RangeString
import Derived.Laws.RangeAny
import Derived.LoopTactic
import Derived.Deep.CutBlock
import Derived.Deep.DeepCutAuto
import Derived.Deep.RegionHeld3
import Derived.StillTailTactics
namespace Go.Proofs.YtlnhgplloaiiiaaGreatDoor
open Go.RowKit
set_option linter.unusedVariables false
set_option linter.unusedSimpArgs false

def letP (c : Int) : Prop := (65 ≤ c ∧ c ≤ 90) ∨ (97 ≤ c ∧ c ≤ 122)
def digP (c : Int) : Prop := 48 ≤ c ∧ c ≤ 57
def chP (i : Nat) (c : Int) : Prop := letP c ∨ (i ≠ 0 ∧ (digP c ∨ c = 95))
/-- What a name is. -/
def nameP (s : ByteArray) : Prop := 1 ≤ s.size ∧ s.size ≤ 24 ∧ ∀ i (h : i < s.size), chP i ((s[i]'h).toNat : Int)
open Classical in
noncomputable def nameB (s : ByteArray) : Bool := decide (nameP s)
theorem nameB_yes {s : ByteArray} (h : nameP s) : nameB s = true := by unfold nameB; simp [h]
theorem nameB_no {s : ByteArray} (h : ¬ nameP s) : nameB s = false := by unfold nameB; simp [h]

theorem ret_bool {a b : Bool} (h : a = b) : Ending.returned (.bool a) = .returned (.bool b) := by rw [h]

set_option maxHeartbeats 800000 in
theorem isLetter_yes (c : Int) (h : letP c) (w : World) :
    Calls Tryz.prog 94 #[.int .i32 c] w fun e w' => e = .returned (.bool true) ∧ w = w' := by
  rcases h with h | h
  · obtain ⟨h1, h2⟩ := h
    go_enter Tryz.func94, Tryz.ntmps94
    go_wp2
    go_ret
    exact ⟨rfl, rfl⟩
  · obtain ⟨h1, h2⟩ := h
    have h3 : 90 < c := by omega
    go_enter Tryz.func94, Tryz.ntmps94
    go_wp2
    go_ret
    exact ⟨rfl, rfl⟩

set_option maxHeartbeats 800000 in
theorem isLetter_no (c : Int) (h : ¬ letP c) (w : World) :
    Calls Tryz.prog 94 #[.int .i32 c] w fun e w' => e = .returned (.bool false) ∧ w = w' := by
  have hc : c < 65 ∨ (90 < c ∧ c < 97) ∨ 122 < c := by unfold letP at h; omega
  clear h
  rcases hc with h | ⟨h1, h2⟩ | h
  · have h1 : c < 97 := by omega
    go_enter Tryz.func94, Tryz.ntmps94
    go_wp2
    go_ret
    exact ⟨ret_bool (by simp; try omega), rfl⟩
  ·
    go_enter Tryz.func94, Tryz.ntmps94
    go_wp2
    go_ret
    exact ⟨ret_bool (by simp; try omega), rfl⟩
  · have h1 : 90 < c := by omega
    go_enter Tryz.func94, Tryz.ntmps94
    go_wp2
    go_ret
    exact ⟨ret_bool (by simp; try omega), rfl⟩

set_option maxHeartbeats 800000 in
theorem isDigit_yes (c : Int) (h : digP c) (w : World) :
    Calls Tryz.prog 95 #[.int .i32 c] w fun e w' => e = .returned (.bool true) ∧ w = w' := by
  obtain ⟨h1, h2⟩ := h
  go_enter Tryz.func95, Tryz.ntmps95
  go_wp2
  go_ret
  exact ⟨rfl, rfl⟩

set_option maxHeartbeats 800000 in
theorem isDigit_no (c : Int) (h : ¬ digP c) (w : World) :
    Calls Tryz.prog 95 #[.int .i32 c] w fun e w' => e = .returned (.bool false) ∧ w = w' := by
  have hc : c < 48 ∨ 57 < c := by unfold digP at h; omega
  clear h
  rcases hc with h | h
  ·
    go_enter Tryz.func95, Tryz.ntmps95
    go_wp2
    go_ret
    exact ⟨ret_bool (by simp; try omega), rfl⟩
  ·
    go_enter Tryz.func95, Tryz.ntmps95
    go_wp2
    go_ret
    exact ⟨ret_bool (by simp; try omega), rfl⟩

theorem byte_lt (s : ByteArray) (k : Nat) (h : k < s.size) : (s[k]'h).toNat < 256 := (s[k]'h).toNat_lt
/-- Behind the first so many places, all of which are fit. -/
def fitTo (s : ByteArray) (k : Nat) : Prop := ∀ i (h : i < s.size), i < k → chP i ((s[i]'h).toNat : Int)

theorem fit_step {s : ByteArray} {k : Nat} (h : k < s.size) (hf : fitTo s k) (hc : chP k ((s[k]'h).toNat : Int)) : fitTo s (k + 1) := fun i hi hk => by
  by_cases e : i = k
  · subst e; exact hc
  · exact hf i hi (by omega)
theorem fit_end {s : ByteArray} (h1 : 1 ≤ s.size) (h2 : s.size ≤ 24) (hf : fitTo s s.size) : nameP s := ⟨h1, h2, fun i h => hf i h h⟩
theorem fit_not {s : ByteArray} {k : Nat} (h : k < s.size) (hc : ¬ chP k ((s[k]'h).toNat : Int)) : ¬ nameP s := fun hp => hc (hp.2.2 k h)

/-- The classes of a byte. -/
theorem byte_class (c : Int) : (97 ≤ c ∧ c ≤ 122) ∨ (c < 97 ∧ 65 ≤ c ∧ c ≤ 90) ∨ (c < 65 ∧ 48 ≤ c ∧ c ≤ 57) ∨ (c = 95) ∨ (122 < c) ∨ (90 < c ∧ c < 97 ∧ c ≠ 95) ∨ (57 < c ∧ c < 65) ∨ (c < 48) := by omega

set_option maxRecDepth 100000 in
set_option maxHeartbeats 3200000 in
theorem refIsName_any (s : ByteArray) (w : World) (hm : s.size ≤ maxLen) :
    Calls Tryz.prog 20 #[.string s] w fun e w' => e = .returned (.bool (nameB s)) ∧ w = w' := by
  unfold maxLen at hm
  have el : s.toList.isEmpty = decide (s.size = 0) := by
    rw [ByteArray.toList_eq]
    cases s with | mk d =>
      cases d with | mk l => cases l <;> simp [ByteArray.size]
  by_cases h0 : s.size = 0
  · rw [decide_eq_true h0] at el
    have H := Lib.hid (nameB_no (s := s) (fun h => by have := h.1; omega))
    rw [H.out]
    clear H
    go_enter Tryz.func20, Tryz.ntmps20
    go_wp2
    go_ret
    exact ⟨rfl, rfl⟩
  rw [decide_eq_false h0] at el
  by_cases h1 : 24 < s.size
  · have H := Lib.hid (nameB_no (s := s) (fun h => by have := h.2.1; omega))
    rw [H.out]
    clear H
    go_enter Tryz.func20, Tryz.ntmps20
    go_wp2
    go_ret
    exact ⟨rfl, rfl⟩
  go_enter Tryz.func20, Tryz.ntmps20
  go_wp2
  go_loop [3] (fun i => ∃ k : Nat, k ≤ s.size ∧ i = .int .i64 k ∧ Hid (fitTo s k)) (fun i => s.size - (intOf i).toNat)
  case atStart => exact ⟨0, Nat.zero_le _, rfl, Lib.hid (fun i h hk => by omega)⟩
  case round =>
    obtain ⟨k, hk, rfl, hh⟩ := hrel
    by_cases hlt : k < s.size
    · rcases byte_class ((s[k]'hlt).toNat : Int) with ⟨h2, h3⟩ | ⟨h2, h3, h4⟩ | hc
      · have hch := Lib.hid (show chP k ((s[k]'hlt).toNat : Int) from .inl (.inr ⟨h2, h3⟩))
        go_wp2
        go_round
        case rel => exact ⟨k + 1, by omega, by go_num, Lib.hid (fit_step hlt hh.out hch.out)⟩
        case measure => simp [intOf]; omega
      · have hch := Lib.hid (show chP k ((s[k]'hlt).toNat : Int) from .inl (.inl ⟨h3, h4⟩))
        go_wp2
        go_round
        case rel => exact ⟨k + 1, by omega, by go_num, Lib.hid (fit_step hlt hh.out hch.out)⟩
        case measure => simp [intOf]; omega
      · have hnl : ¬ letP ((s[k]'hlt).toNat : Int) := by unfold letP; omega
        have HN := Lib.hid hnl
        clear hnl
        by_cases hk0 : k = 0
        · have H := Lib.hid (nameB_no (fit_not hlt (fun h => h.elim HN.out (fun h => h.1 hk0))))
          have e3 : ((k : Int) == 0) = true := by simp [hk0]
          clear HN hk0
          rcases hc with ⟨h2, h3, h4⟩ | h2 | h2 | ⟨h2, h3, h4⟩ | ⟨h2, h3⟩ | h2
          ·
            have e95 : (((s[k]'hlt).toNat : Int) == 95) = false := by simp; omega
            go_wp2
            go_ret
            exact ⟨ret_bool H.out.symm, rfl⟩
          ·
            have d90 : decide (((s[k]'hlt).toNat : Int) ≤ 90) = false := by simp; omega
            have d57 : decide (((s[k]'hlt).toNat : Int) ≤ 57) = false := by simp; omega
            have e95 : (((s[k]'hlt).toNat : Int) == 95) = true := by simp; omega
            go_wp2
            go_ret
            exact ⟨ret_bool H.out.symm, rfl⟩
          ·
            have d122 : decide (((s[k]'hlt).toNat : Int) ≤ 122) = false := by simp; omega
            have d90 : decide (((s[k]'hlt).toNat : Int) ≤ 90) = false := by simp; omega
            have d57 : decide (((s[k]'hlt).toNat : Int) ≤ 57) = false := by simp; omega
            have e95 : (((s[k]'hlt).toNat : Int) == 95) = false := by simp; omega
            go_wp2
            go_ret
            exact ⟨ret_bool H.out.symm, rfl⟩
          ·
            have d90 : decide (((s[k]'hlt).toNat : Int) ≤ 90) = false := by simp; omega
            have d57 : decide (((s[k]'hlt).toNat : Int) ≤ 57) = false := by simp; omega
            have e95 : (((s[k]'hlt).toNat : Int) == 95) = false := by simp; omega
            go_wp2
            go_ret
            exact ⟨ret_bool H.out.symm, rfl⟩
          ·
            have d57 : decide (((s[k]'hlt).toNat : Int) ≤ 57) = false := by simp; omega
            have e95 : (((s[k]'hlt).toNat : Int) == 95) = false := by simp; omega
            go_wp2
            go_ret
            exact ⟨ret_bool H.out.symm, rfl⟩
          ·
            have e95 : (((s[k]'hlt).toNat : Int) == 95) = false := by simp; omega
            go_wp2
            go_ret
            exact ⟨ret_bool H.out.symm, rfl⟩
        · have e3 : ((k : Int) == 0) = false := by simp [hk0]
          rcases hc with ⟨h2, h3, h4⟩ | h2 | h2 | ⟨h2, h3, h4⟩ | ⟨h2, h3⟩ | h2
          ·
            have e95 : (((s[k]'hlt).toNat : Int) == 95) = false := by simp; omega
            have hch := Lib.hid (show chP k ((s[k]'hlt).toNat : Int) from .inr ⟨hk0, .inl ⟨h3, h4⟩⟩)
            go_wp2
            go_round
            case rel => exact ⟨k + 1, by omega, by go_num, Lib.hid (fit_step hlt hh.out hch.out)⟩
            case measure => simp [intOf]; omega
          ·
            have d90 : decide (((s[k]'hlt).toNat : Int) ≤ 90) = false := by simp; omega
            have d57 : decide (((s[k]'hlt).toNat : Int) ≤ 57) = false := by simp; omega
            have e95 : (((s[k]'hlt).toNat : Int) == 95) = true := by simp; omega
            have hch := Lib.hid (show chP k ((s[k]'hlt).toNat : Int) from .inr ⟨hk0, .inr h2⟩)
            go_wp2
            go_round
            case rel => exact ⟨k + 1, by omega, by go_num, Lib.hid (fit_step hlt hh.out hch.out)⟩
            case measure => simp [intOf]; omega
          ·
            have d122 : decide (((s[k]'hlt).toNat : Int) ≤ 122) = false := by simp; omega
            have d90 : decide (((s[k]'hlt).toNat : Int) ≤ 90) = false := by simp; omega
            have d57 : decide (((s[k]'hlt).toNat : Int) ≤ 57) = false := by simp; omega
            have H := Lib.hid (nameB_no (fit_not hlt (fun h => h.elim HN.out (fun h => h.2.elim (fun hd => by unfold digP at hd; omega) (fun hd => by omega)))))
            clear HN
            have e95 : (((s[k]'hlt).toNat : Int) == 95) = false := by simp; omega
            go_wp2
            go_ret
            exact ⟨ret_bool H.out.symm, rfl⟩
          ·
            have d90 : decide (((s[k]'hlt).toNat : Int) ≤ 90) = false := by simp; omega
            have d57 : decide (((s[k]'hlt).toNat : Int) ≤ 57) = false := by simp; omega
            have H := Lib.hid (nameB_no (fit_not hlt (fun h => h.elim HN.out (fun h => h.2.elim (fun hd => by unfold digP at hd; omega) (fun hd => by omega)))))
            clear HN
            have e95 : (((s[k]'hlt).toNat : Int) == 95) = false := by simp; omega
            go_wp2
            go_ret
            exact ⟨ret_bool H.out.symm, rfl⟩
          ·
            have d57 : decide (((s[k]'hlt).toNat : Int) ≤ 57) = false := by simp; omega
            have H := Lib.hid (nameB_no (fit_not hlt (fun h => h.elim HN.out (fun h => h.2.elim (fun hd => by unfold digP at hd; omega) (fun hd => by omega)))))
            clear HN
            have e95 : (((s[k]'hlt).toNat : Int) == 95) = false := by simp; omega
            go_wp2
            go_ret
            exact ⟨ret_bool H.out.symm, rfl⟩
          ·
            have H := Lib.hid (nameB_no (fit_not hlt (fun h => h.elim HN.out (fun h => h.2.elim (fun hd => by unfold digP at hd; omega) (fun hd => by omega)))))
            clear HN
            have e95 : (((s[k]'hlt).toNat : Int) == 95) = false := by simp; omega
            go_wp2
            go_ret
            exact ⟨ret_bool H.out.symm, rfl⟩
    · obtain rfl : k = s.size := by omega
      have H := Lib.hid (nameB_yes (fit_end (by omega) (by omega) hh.out))
      go_wp2
      go_ret
      exact ⟨ret_bool H.out.symm, rfl⟩
end Go.Proofs.YtlnhgplloaiiiaaGreatDoor

/-
  Contract of IsName of the program: it answers nameB, for every string.
-/
namespace Go.Proofs.YtlnhgplloaiiiaaGreatDoor
open Go.RowKit
set_option linter.unusedVariables false
set_option linter.unusedSimpArgs false

theorem ascii_of_ch {k : Nat} {c : Int} (h : chP k c) : c < 128 := by
  unfold chP letP digP at h; omega

set_option maxRecDepth 100000 in
set_option maxHeartbeats 3200000 in
theorem isName_any (s : ByteArray) (w : World) (hm : s.size ≤ maxLen) :
    Calls Tryz.prog 19 #[.string s] w fun e w' => e = .returned (.bool (nameB s)) ∧ Below w.heap.size w w' := by
  unfold maxLen at hm
  by_cases h0 : s.size = 0
  · have e0 : ((s.size : Int) == 0) = true := by simp [h0]
    have H := Lib.hid (nameB_no (s := s) (fun h => by have := h.1; omega))
    rw [H.out]
    clear H h0
    go_enter Tryz.func19, Tryz.ntmps19
    go_wp2
    go_ret
    exact ⟨rfl, Below.refl _ _⟩
  have e0 : ((s.size : Int) == 0) = false := by simp [h0]
  by_cases h1 : 24 < s.size
  · have H := Lib.hid (nameB_no (s := s) (fun h => by have := h.2.1; omega))
    rw [H.out]
    clear H
    go_enter Tryz.func19, Tryz.ntmps19
    go_wp2
    go_ret
    exact ⟨rfl, Below.refl _ _⟩
  have KL : Hid (∀ (c : Int) (w : World), letP c → Calls Tryz.prog 94 #[.int .i32 c] w fun e w' => e = .returned (.bool true) ∧ w = w') := Lib.hid fun c w h => isLetter_yes c h w
  have KN : Hid (∀ (c : Int) (w : World), ¬ letP c → Calls Tryz.prog 94 #[.int .i32 c] w fun e w' => e = .returned (.bool false) ∧ w = w') := Lib.hid fun c w h => isLetter_no c h w
  have KD : Hid (∀ (c : Int) (w : World), digP c → Calls Tryz.prog 95 #[.int .i32 c] w fun e w' => e = .returned (.bool true) ∧ w = w') := Lib.hid fun c w h => isDigit_yes c h w
  have KE : Hid (∀ (c : Int) (w : World), ¬ digP c → Calls Tryz.prog 95 #[.int .i32 c] w fun e w' => e = .returned (.bool false) ∧ w = w') := Lib.hid fun c w h => isDigit_no c h w
  go_enter Tryz.func19, Tryz.ntmps19
  go_wp2
  go_loopw [3] (fun i wr => ∃ k : Nat, k ≤ s.size ∧ wr = w.iter s k ∧ Hid (fitTo s k)) (fun _ wr => s.size - wr.iterPos w.heap.size)
  case atStart => exact ⟨0, Nat.zero_le _, rfl, Lib.hid (fun i h hk => by omega)⟩
  case round =>
    obtain ⟨k, hk, rfl, hh⟩ := hrel
    have hbw : Below w.heap.size w (w.iter s k) := (Below.refl _ w).alloc (Nat.le_refl _) _
    have HBW := Lib.hid hbw
    clear hbw
    by_cases hlt : k < s.size
    · by_cases ha : (s[k]'hlt).toNat < 128
      · have hnx : ∀ ty, (Instr.next (.pointer (some ⟨w.heap.size, 0, none⟩)) true ty).run Tryz.prog (w.iter s k) = _ := fun ty => run_next_ascii w s k ty hlt ha
        have hz : Hid (Below w.heap.size w (w.iter s (k + 1))) := Lib.hid ((Below.refl _ w).alloc (Nat.le_refl _) _)
        obtain ⟨c, hc⟩ : ∃ c : Int, ((s[k]'hlt).toNat : Int) = c := ⟨_, rfl⟩
        by_cases hl : letP c
        · have hch := Lib.hid (show chP k ((s[k]'hlt).toNat : Int) from .inl (by rw [hc]; exact hl))
          have HL := Lib.hid hl
          clear hl
          go_wp2_with (go_at_call 94; refine (KL.out _ _ HL.out).mono ?_; rintro e w9 ⟨rfl, rfl⟩)
          go_roundw
          case rel => exact ⟨k + 1, by omega, rfl, Lib.hid (fit_step hlt hh.out hch.out)⟩
          case measure => simp; omega
        · by_cases hk0 : k = 0
          · have H := Lib.hid (nameB_no (fit_not hlt (fun h => h.elim (by rw [hc]; exact hl) (fun h => h.1 hk0))))
            have HL := Lib.hid hl
            have e3 : ((k : Int) == 0) = true := by simp [hk0]
            clear hl hk0
            go_wp2_with (go_at_call 94; refine (KN.out _ _ HL.out).mono ?_; rintro e w9 ⟨rfl, rfl⟩)
            go_ret
            exact ⟨ret_bool H.out.symm, hz.out⟩
          · have e3 : ((k : Int) == 0) = false := by simp [hk0]
            have HL := Lib.hid hl
            clear hl
            by_cases hd : digP c
            · have hch := Lib.hid (show chP k ((s[k]'hlt).toNat : Int) from .inr ⟨hk0, .inl (by rw [hc]; exact hd)⟩)
              have HD := Lib.hid hd
              clear hd hk0
              go_wp2_with (first
                | (go_at_call 94; refine (KN.out _ _ HL.out).mono ?_; rintro e w9 ⟨rfl, rfl⟩)
                | (go_at_call 95; refine (KD.out _ _ HD.out).mono ?_; rintro e w9 ⟨rfl, rfl⟩))
              go_roundw
              case rel => exact ⟨k + 1, by omega, rfl, Lib.hid (fit_step hlt hh.out hch.out)⟩
              case measure => simp; omega
            · have HD := Lib.hid hd
              clear hd
              by_cases h95 : c = 95
              · have hch := Lib.hid (show chP k ((s[k]'hlt).toNat : Int) from .inr ⟨hk0, .inr (by rw [hc]; exact h95)⟩)
                have e4 : (c != 95) = false := by simp [h95]
                clear h95 hk0
                go_wp2_with (first
                  | (go_at_call 94; refine (KN.out _ _ HL.out).mono ?_; rintro e w9 ⟨rfl, rfl⟩)
                  | (go_at_call 95; refine (KE.out _ _ HD.out).mono ?_; rintro e w9 ⟨rfl, rfl⟩))
                go_roundw
                case rel => exact ⟨k + 1, by omega, rfl, Lib.hid (fit_step hlt hh.out hch.out)⟩
                case measure => simp; omega
              · have H := Lib.hid (nameB_no (fit_not hlt (fun h => h.elim (by rw [hc]; exact HL.out) (fun h => h.2.elim (by rw [hc]; exact HD.out) (by rw [hc]; exact h95)))))
                have e4 : (c != 95) = true := by simp [h95]
                clear h95 hk0
                go_wp2_with (first
                  | (go_at_call 94; refine (KN.out _ _ HL.out).mono ?_; rintro e w9 ⟨rfl, rfl⟩)
                  | (go_at_call 95; refine (KE.out _ _ HD.out).mono ?_; rintro e w9 ⟨rfl, rfl⟩))
                go_ret
                exact ⟨ret_bool H.out.symm, hz.out⟩
      · have hnx : ∀ ty, (Instr.next (.pointer (some ⟨w.heap.size, 0, none⟩)) true ty).run Tryz.prog (w.iter s k) = _ := fun ty => run_next_any w s k ty hlt
        have hz : Hid (Below w.heap.size w (w.iter s (k + (Utf8.decode s k).2))) := Lib.hid ((Below.refl _ w).alloc (Nat.le_refl _) _)
        have hh8 := (decode_high s k hlt (by omega)).1
        have H := Lib.hid (nameB_no (fit_not hlt (fun h => by have := ascii_of_ch h; omega)))
        obtain ⟨c, hc⟩ : ∃ c : Int, ((Utf8.decode s k).1 : Int) = c := ⟨_, rfl⟩
        have hc8 : 128 ≤ c := by omega
        have HL : Hid (¬ letP c) := Lib.hid (by unfold letP; omega)
        have HD : Hid (¬ digP c) := Lib.hid (by unfold digP; omega)
        have e4 : (c != 95) = true := by simp; omega
        clear ha hh8
        by_cases hk0 : k = 0
        · have e3 : ((k : Int) == 0) = true := by simp [hk0]
          clear hk0
          go_wp2_with (go_at_call 94; refine (KN.out _ _ HL.out).mono ?_; rintro e w9 ⟨rfl, rfl⟩)
          go_ret
          exact ⟨ret_bool H.out.symm, hz.out⟩
        · have e3 : ((k : Int) == 0) = false := by simp [hk0]
          clear hk0
          go_wp2_with (first
            | (go_at_call 94; refine (KN.out _ _ HL.out).mono ?_; rintro e w9 ⟨rfl, rfl⟩)
            | (go_at_call 95; refine (KE.out _ _ HD.out).mono ?_; rintro e w9 ⟨rfl, rfl⟩))
          go_ret
          exact ⟨ret_bool H.out.symm, hz.out⟩
    · obtain rfl : k = s.size := by omega
      have hnx : ∀ ty, (Instr.next (.pointer (some ⟨w.heap.size, 0, none⟩)) true ty).run Tryz.prog (w.iter s s.size) = _ := fun ty => run_next_end w s s.size ty hlt
      have H := Lib.hid (nameB_yes (fit_end (by omega) (by omega) hh.out))
      go_wp2
      go_ret
      exact ⟨ret_bool H.out.symm, HBW.out⟩
end Go.Proofs.YtlnhgplloaiiiaaGreatDoor

/-
  Contracts of the greatest common divisor and of the checks of a ratio, of the program and of the reference.
-/
namespace Go.Proofs.YtlnhgplloaiiiaaGreatDoor
open Go.RowKit
set_option linter.unusedVariables false
set_option linter.unusedSimpArgs false

theorem gcd_step (a b : Int) : Int.gcd b (a.tmod b) = Int.gcd a b := by
  show Nat.gcd b.natAbs (a.tmod b).natAbs = Nat.gcd a.natAbs b.natAbs
  rw [Int.natAbs_tmod, Nat.gcd_comm b.natAbs, ← Nat.gcd_rec, Nat.gcd_comm]
theorem tmod_small (a b : Int) (hb : b ≠ 0) : (a.tmod b).natAbs < b.natAbs := by
  rw [Int.natAbs_tmod]
  exact Nat.mod_lt _ (Int.natAbs_pos.2 hb)
theorem gcd_zero (a : Int) : (Int.gcd a 0 : Int) = max a (-a) := by
  have e : Int.gcd a 0 = a.natAbs := Nat.gcd_zero_right _
  rw [e]; omega

set_option maxHeartbeats 1600000 in
/-- The greatest common divisor; of 0 and 0 it is 0. -/
theorem divisor_any (a b : Int) (ha : -4611686018427387904 ≤ a ∧ a ≤ 4611686018427387904) (hb : -4611686018427387904 ≤ b ∧ b ≤ 4611686018427387904) (w : World) :
    Calls Tryz.prog 97 #[.int .i64 a, .int .i64 b] w fun e w' => e = .returned (.int .i64 (Int.gcd a b)) ∧ Below w.heap.size w w' := by
  go_enter Tryz.func97, Tryz.ntmps97
  go_wp2
  go_loopw [0, 1] (fun x y wr => ∃ a' b' : Int, x = .int .i64 a' ∧ y = .int .i64 b' ∧ (-4611686018427387904 ≤ a' ∧ a' ≤ 4611686018427387904) ∧ (-4611686018427387904 ≤ b' ∧ b' ≤ 4611686018427387904) ∧ Hid (Int.gcd a' b' = Int.gcd a b) ∧ Below w.heap.size w wr) (fun _ y _ => (intOf y).natAbs)
  case atStart => exact ⟨a, b, rfl, rfl, ha, hb, Lib.hid rfl, Below.refl _ _⟩
  case round =>
    obtain ⟨a', b', rfl, rfl, ha', hb', hg, hnx⟩ := hrel
    clear ha hb
    by_cases h0 : b' = 0
    · have HB := Lib.hid hnx
      have HG : Hid ((Int.gcd a b : Int) = max a' (-a')) := Lib.hid (by rw [← hg.out, h0, gcd_zero])
      subst h0
      have w1 : IntKind.i64.wrap (-a') = -a' := IntWalk.i64_in _ ⟨by omega, by omega⟩
      clear hnx hg
      go_wp2
      all_goals
        go_ret
        exact ⟨ret_int (by have := HG.out; omega), HB.out⟩
    · have e0 : (b' != 0) = true := by simp [h0]
      have hn := tmod_small a' b' h0
      have hb2 : -4611686018427387904 ≤ a'.tmod b' ∧ a'.tmod b' ≤ 4611686018427387904 := by omega
      have w1 : IntKind.i64.wrap (a'.tmod b') = a'.tmod b' := IntWalk.i64_in _ ⟨by omega, by omega⟩
      have hg2 := Lib.hid ((gcd_step a' b').trans hg.out)
      have HB := Lib.hid hnx
      clear hnx hg
      go_wp2_with fail
      go_quiet (fail)
      go_wp2
      go_roundw
      case rel => exact ⟨b', a'.tmod b', rfl, rfl, hb', hb2, hg2, below_drewN HB.out _⟩
      case measure => exact hn

set_option maxHeartbeats 1600000 in
theorem refDivisor_any (a b : Int) (ha : -4611686018427387904 ≤ a ∧ a ≤ 4611686018427387904) (hb : -4611686018427387904 ≤ b ∧ b ≤ 4611686018427387904) (h1 : 1 ≤ b) (w : World) :
    Calls Tryz.prog 98 #[.int .i64 a, .int .i64 b] w fun e w' => e = .returned (.int .i64 (Int.gcd a b)) ∧ w = w' := by
  have hz : Int.gcd a b ≠ 0 := fun h => by rw [Int.gcd_eq_zero_iff] at h; omega
  have HZ : Hid ((Int.gcd a b : Int) ≠ 0) := Lib.hid (by omega)
  clear hz
  obtain ⟨a1, ha1, hab, hg1⟩ : ∃ a1 : Int, (0 ≤ a1 ∧ a1 ≤ 4611686018427387904) ∧ (a1 = a ∨ (a < 0 ∧ a1 = 0 - a)) ∧ Int.gcd a1 b = Int.gcd a b := by
    by_cases h : a < 0
    · exact ⟨0 - a, by omega, .inr ⟨h, rfl⟩, by rw [Int.zero_sub]; exact Int.neg_gcd⟩
    · exact ⟨a, by omega, .inl rfl, rfl⟩
  have HG1 := Lib.hid hg1
  have HAB := Lib.hid hab
  have hbb : ¬ (b < 0) := by omega
  clear hg1 hab
  go_enter Tryz.func98, Tryz.ntmps98
  go_upto_if 7 with fail
  go_cut [0] (fun s0 wr => s0 = .int .i64 a1 ∧ w = wr)
  case first =>
    by_cases h : a < 0
    · have e : (0 : Int) - a = a1 := by have := HAB.out; omega
      go_wp2_with fail
      go_meet
      exact ⟨by rw [← e], rfl⟩
    · have e : a1 = a := by have := HAB.out; omega
      go_wp2_with fail
      go_meet
      exact ⟨by rw [e], rfl⟩
  case rest =>
    obtain ⟨rfl, rfl⟩ := hcut
    clear ha HAB
    go_wp2_with fail
    go_loop [0, 1] (fun x y => ∃ a' b' : Int, x = .int .i64 a' ∧ y = .int .i64 b' ∧ (0 ≤ a' ∧ a' ≤ 4611686018427387904) ∧ (0 ≤ b' ∧ b' ≤ 4611686018427387904) ∧ Hid (Int.gcd a' b' = Int.gcd a b)) (fun _ y => (intOf y).natAbs)
    case atStart => exact ⟨a1, b, rfl, rfl, ha1, by omega, HG1⟩
    case round =>
      obtain ⟨a', b', rfl, rfl, ha', hb', hg⟩ := hrel
      clear hb h1 hbb ha1
      by_cases h0 : b' = 0
      · have HG : Hid ((Int.gcd a b : Int) = a') := Lib.hid (by rw [← hg.out, h0, gcd_zero]; omega)
        have e0 : (a' == 0) = false := by have := HZ.out; have := HG.out; simp; omega
        subst h0
        clear hg
        go_wp2
        go_ret
        exact ⟨ret_int HG.out.symm, rfl⟩
      · have e0 : (b' != 0) = true := by simp [h0]
        have em : a'.tmod b' = a' % b' := Int.tmod_eq_emod_of_nonneg ha'.1
        have hn := tmod_small a' b' h0
        have hb2 : 0 ≤ a' % b' ∧ a' % b' ≤ 4611686018427387904 := by
          have := Int.emod_nonneg a' h0
          rw [em] at hn
          omega
        have hg2 := Lib.hid ((gcd_step a' b').trans hg.out)
        rw [em] at hg2 hn
        clear hg em
        go_wp2
        go_round
        case rel => exact ⟨b', a' % b', rfl, rfl, hb', hb2, hg2⟩
        case measure => exact hn
end Go.Proofs.YtlnhgplloaiiiaaGreatDoor
