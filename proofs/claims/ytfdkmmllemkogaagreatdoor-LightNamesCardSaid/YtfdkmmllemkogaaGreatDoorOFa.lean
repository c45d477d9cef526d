/-
  Contracts of the checks of a name, of the program and of the reference: both answer nameB, for every string.
-/
import Derived.Test.YtfdkmmllemkogaaGreatDoorOWa
import Derived.Laws.RangeString
import Derived.Laws.RangeAny
import Derived.LoopTactic
import Derived.Test.YtfdkmmllemkogaaGreatDoorOFc
import Derived.Test.YtfdkmmllemkogaaGreatDoorOWv
import Derived.Test.YtfdkmmllemkogaaGreatDoorOBd
import Derived.Test.YtfdkmmllemkogaaGreatDoorOVk
namespace Go.Proofs.YtfdkmmllemkogaaGreatDoor
open Go.RowKit
set_option linter.unusedVariables false
set_option linter.unusedSimpArgs false

def letP (c : Int) : Prop := (65 ≤ c ∧ c ≤ 90) ∨ (97 ≤ c ∧ c ≤ 122)
def digP (c : Int) : Prop := 48 ≤ c ∧ c ≤ 57
def chP (i : Nat) (c : Int) : Prop := letP c ∨ (i ≠ 0 ∧ (digP c ∨ c = 95))
/-- What a name is. -/
def nameP (s : ByteArray) : Prop := 1 ≤ s.size ∧ s.size ≤ 24 ∧ ∀ i (h : i < s.size), chP i ((s[i]'h).toNat : Int)
open Classical in
noncomputable def nameB (s : ByteArray) : Bool := decide (nameP s)
theorem nameB_yes {s : ByteArray} (h : nameP s) : nameB s = true := by unfold nameB; simp [h]
theorem nameB_no {s : ByteArray} (h : ¬ nameP s) : nameB s = false := by unfold nameB; simp [h]

theorem ret_bool {a b : Bool} (h : a = b) : Ending.returned (.bool a) = .returned (.bool b) := by rw [h]

set_option maxHeartbeats 800000 in
theorem isLetter_yes (c : Int) (h : letP c) (w : World) :
    Calls Tryz.prog 112 #[.int .i32 c] w fun e w' => e = .returned (.bool true) ∧ w = w' := by
  rcases h with h | h
  · obtain ⟨h1, h2⟩ := h
    go_enter Tryz.func112, Tryz.ntmps112
    go_wp2
    go_ret
    exact ⟨rfl, rfl⟩
  · obtain ⟨h1, h2⟩ := h
    have h3 : 90 < c := by omega
    go_enter Tryz.func112, Tryz.ntmps112
    go_wp2
    go_ret
    exact ⟨rfl, rfl⟩

set_option maxHeartbeats 800000 in
theorem isLetter_no (c : Int) (h : ¬ letP c) (w : World) :
    Calls Tryz.prog 112 #[.int .i32 c] w fun e w' => e = .returned (.bool false) ∧ w = w' := by
  have hc : c < 65 ∨ (90 < c ∧ c < 97) ∨ 122 < c := by unfold letP at h; omega
  clear h
  rcases hc with h | ⟨h1, h2⟩ | h
  · have h1 : c < 97 := by omega
    go_enter Tryz.func112, Tryz.ntmps112
    go_wp2
    go_ret
    exact ⟨ret_bool (by simp; try omega), rfl⟩
  ·
    go_enter Tryz.func112, Tryz.ntmps112
    go_wp2
    go_ret
    exact ⟨ret_bool (by simp; try omega), rfl⟩
  · have h1 : 90 < c := by omega
    go_enter Tryz.func112, Tryz.ntmps112
    go_wp2
    go_ret
    exact ⟨ret_bool (by simp; try omega), rfl⟩

set_option maxHeartbeats 800000 in
theorem isDigit_yes (c : Int) (h : digP c) (w : World) :
    Calls Tryz.prog 113 #[.int .i32 c] w fun e w' => e = .returned (.bool true) ∧ w = w' := by
  obtain ⟨h1, h2⟩ := h
  go_enter Tryz.func113, Tryz.ntmps113
  go_wp2
  go_ret
  exact ⟨rfl, rfl⟩

set_option maxHeartbeats 800000 in
theorem isDigit_no (c : Int) (h : ¬ digP c) (w : World) :
    Calls Tryz.prog 113 #[.int .i32 c] w fun e w' => e = .returned (.bool false) ∧ w = w' := by
  have hc : c < 48 ∨ 57 < c := by unfold digP at h; omega
  clear h
  rcases hc with h | h
  ·
    go_enter Tryz.func113, Tryz.ntmps113
    go_wp2
    go_ret
    exact ⟨ret_bool (by simp; try omega), rfl⟩
  ·
    go_enter Tryz.func113, Tryz.ntmps113
    go_wp2
    go_ret
    exact ⟨ret_bool (by simp; try omega), rfl⟩

theorem byte_lt (s : ByteArray) (k : Nat) (h : k < s.size) : (s[k]'h).toNat < 256 := (s[k]'h).toNat_lt
/-- Behind the first so many places, all of which are fit. -/
def fitTo (s : ByteArray) (k : Nat) : Prop := ∀ i (h : i < s.size), i < k → chP i ((s[i]'h).toNat : Int)

theorem fit_step {s : ByteArray} {k : Nat} (h : k < s.size) (hf : fitTo s k) (hc : chP k ((s[k]'h).toNat : Int)) : fitTo s (k + 1) := fun i hi hk => by
  by_cases e : i = k
  · subst e; exact hc
  · exact hf i hi (by omega)
theorem fit_end {s : ByteArray} (h1 : 1 ≤ s.size) (h2 : s.size ≤ 24) (hf : fitTo s s.size) : nameP s := ⟨h1, h2, fun i h => hf i h h⟩
theorem fit_not {s : ByteArray} {k : Nat} (h : k < s.size) (hc : ¬ chP k ((s[k]'h).toNat : Int)) : ¬ nameP s := fun hp => hc (hp.2.2 k h)

/-- The classes of a byte. -/
theorem byte_class (c : Int) : (97 ≤ c ∧ c ≤ 122) ∨ (c < 97 ∧ 65 ≤ c ∧ c ≤ 90) ∨ (c < 65 ∧ 48 ≤ c ∧ c ≤ 57) ∨ (c = 95) ∨ (122 < c) ∨ (90 < c ∧ c < 97 ∧ c ≠ 95) ∨ (57 < c ∧ c < 65) ∨ (c < 48) := by omega

set_option maxRecDepth 100000 in
set_option maxHeartbeats 3200000 in
theorem refIsName_any (s : ByteArray) (w : World) (hm : s.size ≤ maxLen) :
    Calls Tryz.prog 26 #[.string s] w fun e w' => e = .returned (.bool (nameB s)) ∧ w = w' := by
  unfold maxLen at hm
  have el : s.toList.isEmpty = decide (s.size = 0) := by
    rw [ByteArray.toList_eq]
    cases s with | mk d =>
      cases d with | mk l => cases l <;> simp [ByteArray.size]
  by_cases h0 : s.size = 0
  · rw [decide_eq_true h0] at el
    have H := Lib.hid (nameB_no (s := s) (fun h => by have := h.1; omega))
    rw [H.out]
    clear H
    go_enter Tryz.func26, Tryz.ntmps26
    go_wp2
    go_ret
    exact ⟨rfl, rfl⟩
  rw [decide_eq_false h0] at el
  by_cases h1 : 24 < s.size
  · have H := Lib.hid (nameB_no (s := s) (fun h => by have := h.2.1; omega))
    rw [H.out]
    clear H
    go_enter Tryz.func26, Tryz.ntmps26
    go_wp2
    go_ret
    exact ⟨rfl, rfl⟩
  go_enter Tryz.func26, Tryz.ntmps26
  go_wp2
  go_loop [3] (fun i => ∃ k : Nat, k ≤ s.size ∧ i = .int .i64 k ∧ Hid (fitTo s k)) (fun i => s.size - (intOf i).toNat)
  case atStart => exact ⟨0, Nat.zero_le _, rfl, Lib.hid (fun i h hk => by omega)⟩
  case round =>
    obtain ⟨k, hk, rfl, hh⟩ := hrel
    by_cases hlt : k < s.size
    · rcases byte_class ((s[k]'hlt).toNat : Int) with ⟨h2, h3⟩ | ⟨h2, h3, h4⟩ | hc
      · have hch := Lib.hid (show chP k ((s[k]'hlt).toNat : Int) from .inl (.inr ⟨h2, h3⟩))
        go_wp2
        go_round
        case rel => exact ⟨k + 1, by omega, by go_num, Lib.hid (fit_step hlt hh.out hch.out)⟩
        case measure => simp [intOf]; omega
      · have hch := Lib.hid (show chP k ((s[k]'hlt).toNat : Int) from .inl (.inl ⟨h3, h4⟩))
        go_wp2
        go_round
        case rel => exact ⟨k + 1, by omega, by go_num, Lib.hid (fit_step hlt hh.out hch.out)⟩
        case measure => simp [intOf]; omega
      · have hnl : ¬ letP ((s[k]'hlt).toNat : Int) := by unfold letP; omega
        have HN := Lib.hid hnl
        clear hnl
        by_cases hk0 : k = 0
        · have H := Lib.hid (nameB_no (fit_not hlt (fun h => h.elim HN.out (fun h => h.1 hk0))))
          have e3 : ((k : Int) == 0) = true := by simp [hk0]
          clear HN hk0
          rcases hc with ⟨h2, h3, h4⟩ | h2 | h2 | ⟨h2, h3, h4⟩ | ⟨h2, h3⟩ | h2
          ·
            have e95 : (((s[k]'hlt).toNat : Int) == 95) = false := by simp; omega
            go_wp2
            go_ret
            exact ⟨ret_bool H.out.symm, rfl⟩
          ·
            have d90 : decide (((s[k]'hlt).toNat : Int) ≤ 90) = false := by simp; omega
            have d57 : decide (((s[k]'hlt).toNat : Int) ≤ 57) = false := by simp; omega
            have e95 : (((s[k]'hlt).toNat : Int) == 95) = true := by simp; omega
            go_wp2
            go_ret
            exact ⟨ret_bool H.out.symm, rfl⟩
          ·
            have d122 : decide (((s[k]'hlt).toNat : Int) ≤ 122) = false := by simp; omega
            have d90 : decide (((s[k]'hlt).toNat : Int) ≤ 90) = false := by simp; omega
            have d57 : decide (((s[k]'hlt).toNat : Int) ≤ 57) = false := by simp; omega
            have e95 : (((s[k]'hlt).toNat : Int) == 95) = false := by simp; omega
            go_wp2
            go_ret
            exact ⟨ret_bool H.out.symm, rfl⟩
          ·
            have d90 : decide (((s[k]'hlt).toNat : Int) ≤ 90) = false := by simp; omega
            have d57 : decide (((s[k]'hlt).toNat : Int) ≤ 57) = false := by simp; omega
            have e95 : (((s[k]'hlt).toNat : Int) == 95) = false := by simp; omega
            go_wp2
            go_ret
            exact ⟨ret_bool H.out.symm, rfl⟩
          ·
            have d57 : decide (((s[k]'hlt).toNat : Int) ≤ 57) = false := by simp; omega
            have e95 : (((s[k]'hlt).toNat : Int) == 95) = false := by simp; omega
            go_wp2
            go_ret
            exact ⟨ret_bool H.out.symm, rfl⟩
          ·
            have e95 : (((s[k]'hlt).toNat : Int) == 95) = false := by simp; omega
            go_wp2
            go_ret
            exact ⟨ret_bool H.out.symm, rfl⟩
        · have e3 : ((k : Int) == 0) = false := by simp [hk0]
          rcases hc with ⟨h2, h3, h4⟩ | h2 | h2 | ⟨h2, h3, h4⟩ | ⟨h2, h3⟩ | h2
          ·
            have e95 : (((s[k]'hlt).toNat : Int) == 95) = false := by simp; omega
            have hch := Lib.hid (show chP k ((s[k]'hlt).toNat : Int) from .inr ⟨hk0, .inl ⟨h3, h4⟩⟩)
            go_wp2
            go_round
            case rel => exact ⟨k + 1, by omega, by go_num, Lib.hid (fit_step hlt hh.out hch.out)⟩
            case measure => simp [intOf]; omega
          ·
            have d90 : decide (((s[k]'hlt).toNat : Int) ≤ 90) = false := by simp; omega
            have d57 : decide (((s[k]'hlt).toNat : Int) ≤ 57) = false := by simp; omega
            have e95 : (((s[k]'hlt).toNat : Int) == 95) = true := by simp; omega
            have hch := Lib.hid (show chP k ((s[k]'hlt).toNat : Int) from .inr ⟨hk0, .inr h2⟩)
            go_wp2
            go_round
            case rel => exact ⟨k + 1, by omega, by go_num, Lib.hid (fit_step hlt hh.out hch.out)⟩
            case measure => simp [intOf]; omega
          ·
            have d122 : decide (((s[k]'hlt).toNat : Int) ≤ 122) = false := by simp; omega
            have d90 : decide (((s[k]'hlt).toNat : Int) ≤ 90) = false := by simp; omega
            have d57 : decide (((s[k]'hlt).toNat : Int) ≤ 57) = false := by simp; omega
            have H := Lib.hid (nameB_no (fit_not hlt (fun h => h.elim HN.out (fun h => h.2.elim (fun hd => by unfold digP at hd; omega) (fun hd => by omega)))))
            clear HN
            have e95 : (((s[k]'hlt).toNat : Int) == 95) = false := by simp; omega
            go_wp2
            go_ret
            exact ⟨ret_bool H.out.symm, rfl⟩
          ·
            have d90 : decide (((s[k]'hlt).toNat : Int) ≤ 90) = false := by simp; omega
            have d57 : decide (((s[k]'hlt).toNat : Int) ≤ 57) = false := by simp; omega
            have H := Lib.hid (nameB_no (fit_not hlt (fun h => h.elim HN.out (fun h => h.2.elim (fun hd => by unfold digP at hd; omega) (fun hd => by omega)))))
            clear HN
            have e95 : (((s[k]'hlt).toNat : Int) == 95) = false := by simp; omega
            go_wp2
            go_ret
            exact ⟨ret_bool H.out.symm, rfl⟩
          ·
            have d57 : decide (((s[k]'hlt).toNat : Int) ≤ 57) = false := by simp; omega
            have H := Lib.hid (nameB_no (fit_not hlt (fun h => h.elim HN.out (fun h => h.2.elim (fun hd => by unfold digP at hd; omega) (fun hd => by omega)))))
            clear HN
            have e95 : (((s[k]'hlt).toNat : Int) == 95) = false := by simp; omega
            go_wp2
            go_ret
            exact ⟨ret_bool H.out.symm, rfl⟩
          ·
            have H := Lib.hid (nameB_no (fit_not hlt (fun h => h.elim HN.out (fun h => h.2.elim (fun hd => by unfold digP at hd; omega) (fun hd => by omega)))))
            clear HN
            have e95 : (((s[k]'hlt).toNat : Int) == 95) = false := by simp; omega
            go_wp2
            go_ret
            exact ⟨ret_bool H.out.symm, rfl⟩
    · obtain rfl : k = s.size := by omega
      have H := Lib.hid (nameB_yes (fit_end (by omega) (by omega) hh.out))
      go_wp2
      go_ret
      exact ⟨ret_bool H.out.symm, rfl⟩
end Go.Proofs.YtfdkmmllemkogaaGreatDoor

/-
  Contract of IsName of the program: it answers nameB, for every string.
-/
namespace Go.Proofs.YtfdkmmllemkogaaGreatDoor
open Go.RowKit
set_option linter.unusedVariables false
set_option linter.unusedSimpArgs false

theorem ascii_of_ch {k : Nat} {c : Int} (h : chP k c) : c < 128 := by
  unfold chP letP digP at h; omega

set_option maxRecDepth 100000 in
set_option maxHeartbeats 3200000 in
theorem isName_any (s : ByteArray) (w : World) (hm : s.size ≤ maxLen) :
    Calls Tryz.prog 25 #[.string s] w fun e w' => e = .returned (.bool (nameB s)) ∧ Below w.heap.size w w' := by
  unfold maxLen at hm
  by_cases h0 : s.size = 0
  · have e0 : ((s.size : Int) == 0) = true := by simp [h0]
    have H := Lib.hid (nameB_no (s := s) (fun h => by have := h.1; omega))
    rw [H.out]
    clear H h0
    go_enter Tryz.func25, Tryz.ntmps25
    go_wp2
    go_ret
    exact ⟨rfl, Below.refl _ _⟩
  have e0 : ((s.size : Int) == 0) = false := by simp [h0]
  by_cases h1 : 24 < s.size
  · have H := Lib.hid (nameB_no (s := s) (fun h => by have := h.2.1; omega))
    rw [H.out]
    clear H
    go_enter Tryz.func25, Tryz.ntmps25
    go_wp2
    go_ret
    exact ⟨rfl, Below.refl _ _⟩
  have KL : Hid (∀ (c : Int) (w : World), letP c → Calls Tryz.prog 112 #[.int .i32 c] w fun e w' => e = .returned (.bool true) ∧ w = w') := Lib.hid fun c w h => isLetter_yes c h w
  have KN : Hid (∀ (c : Int) (w : World), ¬ letP c → Calls Tryz.prog 112 #[.int .i32 c] w fun e w' => e = .returned (.bool false) ∧ w = w') := Lib.hid fun c w h => isLetter_no c h w
  have KD : Hid (∀ (c : Int) (w : World), digP c → Calls Tryz.prog 113 #[.int .i32 c] w fun e w' => e = .returned (.bool true) ∧ w = w') := Lib.hid fun c w h => isDigit_yes c h w
  have KE : Hid (∀ (c : Int) (w : World), ¬ digP c → Calls Tryz.prog 113 #[.int .i32 c] w fun e w' => e = .returned (.bool false) ∧ w = w') := Lib.hid fun c w h => isDigit_no c h w
  go_enter Tryz.func25, Tryz.ntmps25
  go_wp2
  go_loopw [3] (fun i wr => ∃ k : Nat, k ≤ s.size ∧ wr = w.iter s k ∧ Hid (fitTo s k)) (fun _ wr => s.size - wr.iterPos w.heap.size)
  case atStart => exact ⟨0, Nat.zero_le _, rfl, Lib.hid (fun i h hk => by omega)⟩
  case round =>
    obtain ⟨k, hk, rfl, hh⟩ := hrel
    have hbw : Below w.heap.size w (w.iter s k) := (Below.refl _ w).alloc (Nat.le_refl _) _
    have HBW := Lib.hid hbw
    clear hbw
    by_cases hlt : k < s.size
    · by_cases ha : (s[k]'hlt).toNat < 128
      · have hnx : ∀ ty, (Instr.next (.pointer (some ⟨w.heap.size, 0, none⟩)) true ty).run Tryz.prog (w.iter s k) = _ := fun ty => run_next_ascii w s k ty hlt ha
        have hz : Hid (Below w.heap.size w (w.iter s (k + 1))) := Lib.hid ((Below.refl _ w).alloc (Nat.le_refl _) _)
        obtain ⟨c, hc⟩ : ∃ c : Int, ((s[k]'hlt).toNat : Int) = c := ⟨_, rfl⟩
        by_cases hl : letP c
        · have hch := Lib.hid (show chP k ((s[k]'hlt).toNat : Int) from .inl (by rw [hc]; exact hl))
          have HL := Lib.hid hl
          clear hl
          go_wp2_with (go_at_call 112; refine (KL.out _ _ HL.out).mono ?_; rintro e w9 ⟨rfl, rfl⟩)
          go_roundw
          case rel => exact ⟨k + 1, by omega, rfl, Lib.hid (fit_step hlt hh.out hch.out)⟩
          case measure => simp; omega
        · by_cases hk0 : k = 0
          · have H := Lib.hid (nameB_no (fit_not hlt (fun h => h.elim (by rw [hc]; exact hl) (fun h => h.1 hk0))))
            have HL := Lib.hid hl
            have e3 : ((k : Int) == 0) = true := by simp [hk0]
            clear hl hk0
            go_wp2_with (go_at_call 112; refine (KN.out _ _ HL.out).mono ?_; rintro e w9 ⟨rfl, rfl⟩)
            go_ret
            exact ⟨ret_bool H.out.symm, hz.out⟩
          · have e3 : ((k : Int) == 0) = false := by simp [hk0]
            have HL := Lib.hid hl
            clear hl
            by_cases hd : digP c
            · have hch := Lib.hid (show chP k ((s[k]'hlt).toNat : Int) from .inr ⟨hk0, .inl (by rw [hc]; exact hd)⟩)
              have HD := Lib.hid hd
              clear hd hk0
              go_wp2_with (first
                | (go_at_call 112; refine (KN.out _ _ HL.out).mono ?_; rintro e w9 ⟨rfl, rfl⟩)
                | (go_at_call 113; refine (KD.out _ _ HD.out).mono ?_; rintro e w9 ⟨rfl, rfl⟩))
              go_roundw
              case rel => exact ⟨k + 1, by omega, rfl, Lib.hid (fit_step hlt hh.out hch.out)⟩
              case measure => simp; omega
            · have HD := Lib.hid hd
              clear hd
              by_cases h95 : c = 95
              · have hch := Lib.hid (show chP k ((s[k]'hlt).toNat : Int) from .inr ⟨hk0, .inr (by rw [hc]; exact h95)⟩)
                have e4 : (c != 95) = false := by simp [h95]
                clear h95 hk0
                go_wp2_with (first
                  | (go_at_call 112; refine (KN.out _ _ HL.out).mono ?_; rintro e w9 ⟨rfl, rfl⟩)
                  | (go_at_call 113; refine (KE.out _ _ HD.out).mono ?_; rintro e w9 ⟨rfl, rfl⟩))
                go_roundw
                case rel => exact ⟨k + 1, by omega, rfl, Lib.hid (fit_step hlt hh.out hch.out)⟩
                case measure => simp; omega
              · have H := Lib.hid (nameB_no (fit_not hlt (fun h => h.elim (by rw [hc]; exact HL.out) (fun h => h.2.elim (by rw [hc]; exact HD.out) (by rw [hc]; exact h95)))))
                have e4 : (c != 95) = true := by simp [h95]
                clear h95 hk0
                go_wp2_with (first
                  | (go_at_call 112; refine (KN.out _ _ HL.out).mono ?_; rintro e w9 ⟨rfl, rfl⟩)
                  | (go_at_call 113; refine (KE.out _ _ HD.out).mono ?_; rintro e w9 ⟨rfl, rfl⟩))
                go_ret
                exact ⟨ret_bool H.out.symm, hz.out⟩
      · have hnx : ∀ ty, (Instr.next (.pointer (some ⟨w.heap.size, 0, none⟩)) true ty).run Tryz.prog (w.iter s k) = _ := fun ty => run_next_any w s k ty hlt
        have hz : Hid (Below w.heap.size w (w.iter s (k + (Utf8.decode s k).2))) := Lib.hid ((Below.refl _ w).alloc (Nat.le_refl _) _)
        have hh8 := (decode_high s k hlt (by omega)).1
        have H := Lib.hid (nameB_no (fit_not hlt (fun h => by have := ascii_of_ch h; omega)))
        obtain ⟨c, hc⟩ : ∃ c : Int, ((Utf8.decode s k).1 : Int) = c := ⟨_, rfl⟩
        have hc8 : 128 ≤ c := by omega
        have HL : Hid (¬ letP c) := Lib.hid (by unfold letP; omega)
        have HD : Hid (¬ digP c) := Lib.hid (by unfold digP; omega)
        have e4 : (c != 95) = true := by simp; omega
        clear ha hh8
        by_cases hk0 : k = 0
        · have e3 : ((k : Int) == 0) = true := by simp [hk0]
          clear hk0
          go_wp2_with (go_at_call 112; refine (KN.out _ _ HL.out).mono ?_; rintro e w9 ⟨rfl, rfl⟩)
          go_ret
          exact ⟨ret_bool H.out.symm, hz.out⟩
        · have e3 : ((k : Int) == 0) = false := by simp [hk0]
          clear hk0
          go_wp2_with (first
            | (go_at_call 112; refine (KN.out _ _ HL.out).mono ?_; rintro e w9 ⟨rfl, rfl⟩)
            | (go_at_call 113; refine (KE.out _ _ HD.out).mono ?_; rintro e w9 ⟨rfl, rfl⟩))
          go_ret
          exact ⟨ret_bool H.out.symm, hz.out⟩
    · obtain rfl : k = s.size := by omega
      have hnx : ∀ ty, (Instr.next (.pointer (some ⟨w.heap.size, 0, none⟩)) true ty).run Tryz.prog (w.iter s s.size) = _ := fun ty => run_next_end w s s.size ty hlt
      have H := Lib.hid (nameB_yes (fit_end (by omega) (by omega) hh.out))
      go_wp2
      go_ret
      exact ⟨ret_bool H.out.symm, HBW.out⟩
end Go.Proofs.YtfdkmmllemkogaaGreatDoor

/-
  Contracts of the program's checks of a vector and of a direction, for all integers.
-/
namespace Go.Proofs.YtfdkmmllemkogaaGreatDoor
open Go.RowKit
set_option linter.unusedVariables false
set_option linter.unusedSimpArgs false

set_option maxRecDepth 100000 in
set_option maxHeartbeats 1600000 in
theorem partsOf_any (x y z : Int) (w : World) :
    Calls Tryz.prog 198 #[.agg #[.int .i64 x, .int .i64 y, .int .i64 z]] w fun e w' => e = .returned (.agg #[.int .i64 x, .int .i64 y, .int .i64 z]) ∧ Below w.heap.size w w' := by
  go_enter Tryz.func198, Tryz.ntmps198
  go_wp2
  refine bodyPost_ret (v := .agg #[.int .i64 x, .int .i64 y, .int .i64 z]) (by simp [results, Tryz.results198, go_sem]) rfl ⟨rfl, ?_⟩
  first
    | exact ((Below.refl _ w).alloc (Nat.le_refl _) _).alloc (by simp) _
    | exact (((((Below.refl _ w).alloc (Nat.le_refl _) _).alloc (by simp) _).setCell (by simp) _).setCell (by simp) _).setCell (by simp) _

set_option maxRecDepth 100000 in
set_option maxHeartbeats 3200000 in
theorem checkVectorC_all (x y z : Int) (w : World) :
    Calls Tryz.prog 120 #[.agg #[.int .i64 x, .int .i64 y, .int .i64 z], .int .i64 1048576] w fun e w' => e = .returned (.int .i64 (vectorErr x y z)) ∧ Below w.heap.size w w' := by
  have i0 : ∀ w : World, (Instr.index 262 (.agg #[.int .i64 x, .int .i64 y, .int .i64 z]) (.int .i64 0)).run Tryz.prog w = .ok (.int .i64 x) w := fun _ => by kernel_rfl
  have i1 : ∀ w : World, (Instr.index 262 (.agg #[.int .i64 x, .int .i64 y, .int .i64 z]) (.int .i64 1)).run Tryz.prog w = .ok (.int .i64 y) w := fun _ => by kernel_rfl
  have i2 : ∀ w : World, (Instr.index 262 (.agg #[.int .i64 x, .int .i64 y, .int .i64 z]) (.int .i64 2)).run Tryz.prog w = .ok (.int .i64 z) w := fun _ => by kernel_rfl
  have KP := Lib.hid (partsOf_any x y z (w.alloc (.cells #[.int .i64 x, .int .i64 y, .int .i64 z] 36)))
  have HB0 : Hid (Below w.heap.size w (w.alloc (.cells #[.int .i64 x, .int .i64 y, .int .i64 z] 36))) := Lib.hid ((Below.refl _ w).alloc (Nat.le_refl _) _)
  obtain ⟨rx, hrx⟩ : ∃ rx : Int, rangeErr x (-1048576) 1048576 = rx := ⟨_, rfl⟩
  have Kx : Hid (∀ w, Calls Tryz.prog 110 #[.int .i64 x, .int .i64 (-1048576), .int .i64 1048576] w fun e w' => e = .returned (.int .i64 rx) ∧ w = w') := Lib.hid fun w => by
    have h := checkRange_any x (-1048576) 1048576 w
    rwa [hrx] at h
  obtain ⟨ry, hry⟩ : ∃ ry : Int, rangeErr y (-1048576) 1048576 = ry := ⟨_, rfl⟩
  have Ky : Hid (∀ w, Calls Tryz.prog 110 #[.int .i64 y, .int .i64 (-1048576), .int .i64 1048576] w fun e w' => e = .returned (.int .i64 ry) ∧ w = w') := Lib.hid fun w => by
    have h := checkRange_any y (-1048576) 1048576 w
    rwa [hry] at h
  obtain ⟨rz, hrz⟩ : ∃ rz : Int, rangeErr z (-1048576) 1048576 = rz := ⟨_, rfl⟩
  have Kz : Hid (∀ w, Calls Tryz.prog 110 #[.int .i64 z, .int .i64 (-1048576), .int .i64 1048576] w fun e w' => e = .returned (.int .i64 rz) ∧ w = w') := Lib.hid fun w => by
    have h := checkRange_any z (-1048576) 1048576 w
    rwa [hrz] at h
  have hE : vectorErr x y z = firstNZ [rx, ry, rz] := by unfold vectorErr; rw [hrx, hry, hrz]
  rw [hE]
  clear hE hrx hry hrz
  by_cases hx : rx = 0
  · by_cases hy : ry = 0
    · by_cases hz : rz = 0
      ·
        subst hx
        subst hy
        subst hz
        rw [show firstNZ [0, 0, 0] = 0 from rfl]
        go_enter Tryz.func120, Tryz.ntmps120
        go_wp2_with (go_at_call 198; refine KP.out.mono ?_; rintro e w1 ⟨rfl, hb1⟩)
        refine wp_loop_rounds 4 ?_
        rw [rounds_succ]
        go_wp2_with (go_at_call 110; refine (Kx.out _).mono ?_; rintro e w9 ⟨rfl, rfl⟩)
        rw [rounds_succ]
        go_wp2_with (go_at_call 110; refine (Ky.out _).mono ?_; rintro e w9 ⟨rfl, rfl⟩)
        rw [rounds_succ]
        go_wp2_with (go_at_call 110; refine (Kz.out _).mono ?_; rintro e w9 ⟨rfl, rfl⟩)
        rw [rounds_succ]
        go_wp2_with fail
        go_ret
        exact ⟨rfl, HB0.out.trans (hb1.mono HB0.out.size)⟩
      ·
        subst hx
        subst hy
        have ez : (rz != 0) = true := by simp [hz]
        rw [show firstNZ [0, 0, rz] = rz from by simp [firstNZ, hz]]
        clear hz
        go_enter Tryz.func120, Tryz.ntmps120
        go_wp2_with (go_at_call 198; refine KP.out.mono ?_; rintro e w1 ⟨rfl, hb1⟩)
        refine wp_loop_rounds 3 ?_
        rw [rounds_succ]
        go_wp2_with (go_at_call 110; refine (Kx.out _).mono ?_; rintro e w9 ⟨rfl, rfl⟩)
        rw [rounds_succ]
        go_wp2_with (go_at_call 110; refine (Ky.out _).mono ?_; rintro e w9 ⟨rfl, rfl⟩)
        rw [rounds_succ]
        go_wp2_with (go_at_call 110; refine (Kz.out _).mono ?_; rintro e w9 ⟨rfl, rfl⟩)
        go_ret
        exact ⟨rfl, HB0.out.trans (hb1.mono HB0.out.size)⟩
    ·
      subst hx
      have ey : (ry != 0) = true := by simp [hy]
      rw [show firstNZ [0, ry, rz] = ry from by simp [firstNZ, hy]]
      clear hy
      go_enter Tryz.func120, Tryz.ntmps120
      go_wp2_with (go_at_call 198; refine KP.out.mono ?_; rintro e w1 ⟨rfl, hb1⟩)
      refine wp_loop_rounds 2 ?_
      rw [rounds_succ]
      go_wp2_with (go_at_call 110; refine (Kx.out _).mono ?_; rintro e w9 ⟨rfl, rfl⟩)
      rw [rounds_succ]
      go_wp2_with (go_at_call 110; refine (Ky.out _).mono ?_; rintro e w9 ⟨rfl, rfl⟩)
      go_ret
      exact ⟨rfl, HB0.out.trans (hb1.mono HB0.out.size)⟩
  ·
    have ex : (rx != 0) = true := by simp [hx]
    rw [show firstNZ [rx, ry, rz] = rx from by simp [firstNZ, hx]]
    clear hx
    go_enter Tryz.func120, Tryz.ntmps120
    go_wp2_with (go_at_call 198; refine KP.out.mono ?_; rintro e w1 ⟨rfl, hb1⟩)
    refine wp_loop_rounds 1 ?_
    rw [rounds_succ]
    go_wp2_with (go_at_call 110; refine (Kx.out _).mono ?_; rintro e w9 ⟨rfl, rfl⟩)
    go_ret
    exact ⟨rfl, HB0.out.trans (hb1.mono HB0.out.size)⟩
end Go.Proofs.YtfdkmmllemkogaaGreatDoor

/-
  Contracts of the program's check of a direction, for all integers.
-/
namespace Go.Proofs.YtfdkmmllemkogaaGreatDoor
open Go.RowKit
set_option linter.unusedVariables false
set_option linter.unusedSimpArgs false

set_option maxRecDepth 100000 in
set_option maxHeartbeats 6400000 in
theorem checkDirectionC_all (x y z : Int) (w : World) :
    Calls Tryz.prog 121 #[.agg #[.int .i64 x, .int .i64 y, .int .i64 z], .int .i64 1048576] w fun e w' => e = .returned (.int .i64 (directionErr x y z)) ∧ Below w.heap.size w w' := by
  obtain ⟨W0, hW0⟩ : ∃ W0, w.alloc (.cells #[.int .i64 x, .int .i64 y, .int .i64 z] 36) = W0 := ⟨_, rfl⟩
  have HB0 : Hid (Below w.heap.size w W0) := Lib.hid (by rw [← hW0]; exact (Below.refl _ w).alloc (Nat.le_refl _) _)
  have hS0 : w.heap.size < W0.heap.size := by rw [← hW0]; simp
  have a0 : W0.cell? ⟨w.heap.size, 0, none⟩ = some (.int .i64 x) := by rw [← hW0]; simp [go_sem]
  have a1 : W0.cell? ⟨w.heap.size, 1, none⟩ = some (.int .i64 y) := by rw [← hW0]; simp [go_sem]
  have a2 : W0.cell? ⟨w.heap.size, 2, none⟩ = some (.int .i64 z) := by rw [← hW0]; simp [go_sem]
  have hR : Blw W0.heap.size W0 W0.drew := show Below _ _ _ from (Below.refl W0.heap.size W0).drew
  obtain ⟨v, hv⟩ : ∃ v : Int, vectorErr x y z = v := ⟨_, rfl⟩
  have KV : Hid (∀ w1 : World, Blw W0.heap.size W0 w1 → Calls Tryz.prog 120 #[.agg #[.int .i64 x, .int .i64 y, .int .i64 z], .int .i64 1048576] w1 fun e w' => e = .returned (.int .i64 v) ∧ Below W0.heap.size W0 w') :=
    Lib.hid fun w1 (h : Below W0.heap.size W0 w1) => by
      have hh := (checkVectorC_all x y z w1).mono fun e w' ⟨he, hb⟩ => (⟨he, h.trans (hb.mono h.size)⟩ : e = Ending.returned (.int .i64 (vectorErr x y z)) ∧ Below W0.heap.size W0 w')
      rwa [hv] at hh
  by_cases h : x = 0 ∧ y = 0 ∧ z = 0
  · rw [dir_zero x y z h]
    obtain ⟨rfl, rfl, rfl⟩ := h
    have hv0 : v = 0 := by rw [← hv, vec_zero]
    subst hv0
    clear hv
    have KW : Hid (∀ (w9 : World), Calls Tryz.prog 114 #[.bool true, .int .i64 6] w9 fun e w' => e = .returned (.int .i64 6) ∧ w9 = w') := Lib.hid fun w9 => cwhen_any true 6 w9
    have KF : Hid (firstNZ [0, 6] = 6) := Lib.hid (by rfl)
    go_enter Tryz.func121, Tryz.ntmps121
    go_upto_region 1 with fail
    try rw [hW0]
    clear hW0
    go_region_held3 (fun w' => w'.cell? ⟨w.heap.size, 0, none⟩ = some (.int .i64 0) ∧ w'.cell? ⟨w.heap.size, 1, none⟩ = some (.int .i64 0) ∧ w'.cell? ⟨w.heap.size, 2, none⟩ = some (.int .i64 0) ∧ Blw W0.heap.size W0 w')
      (first | (go_split_ands; refine ⟨?_, ?_, ?_, ?_⟩ <;> first | (with_reducible assumption) | exact hb2 | ((rw [hb2.cell (by show _ < W0.heap.size; omega)]; assumption))) | (go_split_ands; refine ⟨?_, ?_, ?_, ?_⟩ <;> first | ((rw [(hb2.alloc hb2.size _).cell (by show _ < W0.heap.size; omega)]; assumption)) | exact (hb2.alloc hb2.size _ : Below _ _ _)) | go_keep)
      (first
        | (go_at_call 120; refine (KV.out _ ?_).mono ?_; rotate_left 1; rintro e w2 ⟨rfl, hb2⟩; rotate_left 1; (simp [*]))
        | (go_at_call 114; refine (KW.out _).mono ?_; rintro e w8 ⟨rfl, rfl⟩)
        | ((go_at_call 109; refine (first_any _ 0 2 2 [0, 6] rfl (by omega) _ ?_).mono ?_; rotate_left 1; rintro e w' ⟨rfl, rfl⟩; rw [KF.out]; rotate_left 1; (intro j hj; match j, hj with | 0, _ => simp [go_sem] | 1, _ => simp [go_sem]))))
    all_goals
      go_wp2_with fail
      go_ret
      exact ⟨rfl, HB0.out.trans ((hb2.alloc hb2.size _).mono HB0.out.size)⟩
  · rw [dir_not x y z h, hv]
    have hh : x ≠ 0 ∨ y ≠ 0 ∨ z ≠ 0 := by omega
    clear h hv
    rcases hh with h | h | h
    · have eq : (x == 0) = false := by simp [h]
      have KW : Hid (∀ (w9 : World), Calls Tryz.prog 114 #[.bool false, .int .i64 6] w9 fun e w' => e = .returned (.int .i64 0) ∧ w9 = w') := Lib.hid fun w9 => cwhen_any false 6 w9
      have KF : Hid (firstNZ [v, 0] = v) := Lib.hid (by unfold firstNZ; split <;> simp_all [firstNZ])
      clear h
      go_enter Tryz.func121, Tryz.ntmps121
      go_upto_region 1 with fail
      try rw [hW0]
      clear hW0
      go_region_held3 (fun w' => w'.cell? ⟨w.heap.size, 0, none⟩ = some (.int .i64 x) ∧ w'.cell? ⟨w.heap.size, 1, none⟩ = some (.int .i64 y) ∧ w'.cell? ⟨w.heap.size, 2, none⟩ = some (.int .i64 z) ∧ Blw W0.heap.size W0 w')
        (first | (go_split_ands; refine ⟨?_, ?_, ?_, ?_⟩ <;> first | (with_reducible assumption) | exact hb2 | ((rw [hb2.cell (by show _ < W0.heap.size; omega)]; assumption))) | (go_split_ands; refine ⟨?_, ?_, ?_, ?_⟩ <;> first | ((rw [(hb2.alloc hb2.size _).cell (by show _ < W0.heap.size; omega)]; assumption)) | exact (hb2.alloc hb2.size _ : Below _ _ _)) | go_keep)
        (first
          | (go_at_call 120; refine (KV.out _ ?_).mono ?_; rotate_left 1; rintro e w2 ⟨rfl, hb2⟩; rotate_left 1; (simp [*]))
          | (go_at_call 114; refine (KW.out _).mono ?_; rintro e w8 ⟨rfl, rfl⟩)
          | ((go_at_call 109; refine (first_any _ 0 2 2 [v, 0] rfl (by omega) _ ?_).mono ?_; rotate_left 1; rintro e w' ⟨rfl, rfl⟩; rw [KF.out]; rotate_left 1; (intro j hj; match j, hj with | 0, _ => simp [go_sem] | 1, _ => simp [go_sem]))))
      all_goals
        go_wp2_with fail
        go_ret
        exact ⟨rfl, HB0.out.trans ((hb2.alloc hb2.size _).mono HB0.out.size)⟩
    · have eq : (y == 0) = false := by simp [h]
      have KW : Hid (∀ (w9 : World), Calls Tryz.prog 114 #[.bool false, .int .i64 6] w9 fun e w' => e = .returned (.int .i64 0) ∧ w9 = w') := Lib.hid fun w9 => cwhen_any false 6 w9
      have KF : Hid (firstNZ [v, 0] = v) := Lib.hid (by unfold firstNZ; split <;> simp_all [firstNZ])
      clear h
      go_enter Tryz.func121, Tryz.ntmps121
      go_upto_region 1 with fail
      try rw [hW0]
      clear hW0
      go_region_held3 (fun w' => w'.cell? ⟨w.heap.size, 0, none⟩ = some (.int .i64 x) ∧ w'.cell? ⟨w.heap.size, 1, none⟩ = some (.int .i64 y) ∧ w'.cell? ⟨w.heap.size, 2, none⟩ = some (.int .i64 z) ∧ Blw W0.heap.size W0 w')
        (first | (go_split_ands; refine ⟨?_, ?_, ?_, ?_⟩ <;> first | (with_reducible assumption) | exact hb2 | ((rw [hb2.cell (by show _ < W0.heap.size; omega)]; assumption))) | (go_split_ands; refine ⟨?_, ?_, ?_, ?_⟩ <;> first | ((rw [(hb2.alloc hb2.size _).cell (by show _ < W0.heap.size; omega)]; assumption)) | exact (hb2.alloc hb2.size _ : Below _ _ _)) | go_keep)
        (first
          | (go_at_call 120; refine (KV.out _ ?_).mono ?_; rotate_left 1; rintro e w2 ⟨rfl, hb2⟩; rotate_left 1; (simp [*]))
          | (go_at_call 114; refine (KW.out _).mono ?_; rintro e w8 ⟨rfl, rfl⟩)
          | ((go_at_call 109; refine (first_any _ 0 2 2 [v, 0] rfl (by omega) _ ?_).mono ?_; rotate_left 1; rintro e w' ⟨rfl, rfl⟩; rw [KF.out]; rotate_left 1; (intro j hj; match j, hj with | 0, _ => simp [go_sem] | 1, _ => simp [go_sem]))))
      all_goals
        go_wp2_with fail
        go_ret
        exact ⟨rfl, HB0.out.trans ((hb2.alloc hb2.size _).mono HB0.out.size)⟩
    · have eq : (z == 0) = false := by simp [h]
      have KW : Hid (∀ (w9 : World), Calls Tryz.prog 114 #[.bool false, .int .i64 6] w9 fun e w' => e = .returned (.int .i64 0) ∧ w9 = w') := Lib.hid fun w9 => cwhen_any false 6 w9
      have KF : Hid (firstNZ [v, 0] = v) := Lib.hid (by unfold firstNZ; split <;> simp_all [firstNZ])
      clear h
      go_enter Tryz.func121, Tryz.ntmps121
      go_upto_region 1 with fail
      try rw [hW0]
      clear hW0
      go_region_held3 (fun w' => w'.cell? ⟨w.heap.size, 0, none⟩ = some (.int .i64 x) ∧ w'.cell? ⟨w.heap.size, 1, none⟩ = some (.int .i64 y) ∧ w'.cell? ⟨w.heap.size, 2, none⟩ = some (.int .i64 z) ∧ Blw W0.heap.size W0 w')
        (first | (go_split_ands; refine ⟨?_, ?_, ?_, ?_⟩ <;> first | (with_reducible assumption) | exact hb2 | ((rw [hb2.cell (by show _ < W0.heap.size; omega)]; assumption))) | (go_split_ands; refine ⟨?_, ?_, ?_, ?_⟩ <;> first | ((rw [(hb2.alloc hb2.size _).cell (by show _ < W0.heap.size; omega)]; assumption)) | exact (hb2.alloc hb2.size _ : Below _ _ _)) | go_keep)
        (first
          | (go_at_call 120; refine (KV.out _ ?_).mono ?_; rotate_left 1; rintro e w2 ⟨rfl, hb2⟩; rotate_left 1; (simp [*]))
          | (go_at_call 114; refine (KW.out _).mono ?_; rintro e w8 ⟨rfl, rfl⟩)
          | ((go_at_call 109; refine (first_any _ 0 2 2 [v, 0] rfl (by omega) _ ?_).mono ?_; rotate_left 1; rintro e w' ⟨rfl, rfl⟩; rw [KF.out]; rotate_left 1; (intro j hj; match j, hj with | 0, _ => simp [go_sem] | 1, _ => simp [go_sem]))))
      all_goals
        go_wp2_with fail
        go_ret
        exact ⟨rfl, HB0.out.trans ((hb2.alloc hb2.size _).mono HB0.out.size)⟩

set_option maxHeartbeats 800000 in
theorem lightCheckVector_all (x y z : Int) (w : World) :
    Calls Tryz.prog 32 #[.agg #[.int .i64 x, .int .i64 y, .int .i64 z]] w fun e w' => e = .returned (.int .i64 (vectorErr x y z)) ∧ Below w.heap.size w w' := by
  have K := Lib.hid (checkVectorC_all x y z (w.alloc (.cells #[.int .i64 x, .int .i64 y, .int .i64 z] 36)))
  have HB0 : Hid (Below w.heap.size w (w.alloc (.cells #[.int .i64 x, .int .i64 y, .int .i64 z] 36))) := Lib.hid ((Below.refl _ w).alloc (Nat.le_refl _) _)
  go_enter Tryz.func32, Tryz.ntmps32
  go_wp2_with (go_at_call 120; refine K.out.mono ?_; rintro e w1 ⟨rfl, hb1⟩)
  go_ret
  exact ⟨rfl, HB0.out.trans (hb1.mono HB0.out.size)⟩

set_option maxHeartbeats 800000 in
theorem lightCheckDirection_all (x y z : Int) (w : World) :
    Calls Tryz.prog 34 #[.agg #[.int .i64 x, .int .i64 y, .int .i64 z]] w fun e w' => e = .returned (.int .i64 (directionErr x y z)) ∧ Below w.heap.size w w' := by
  have K := Lib.hid (checkDirectionC_all x y z (w.alloc (.cells #[.int .i64 x, .int .i64 y, .int .i64 z] 36)))
  have HB0 : Hid (Below w.heap.size w (w.alloc (.cells #[.int .i64 x, .int .i64 y, .int .i64 z] 36))) := Lib.hid ((Below.refl _ w).alloc (Nat.le_refl _) _)
  go_enter Tryz.func34, Tryz.ntmps34
  go_wp2_with (go_at_call 121; refine K.out.mono ?_; rintro e w1 ⟨rfl, hb1⟩)
  go_ret
  exact ⟨rfl, HB0.out.trans (hb1.mono HB0.out.size)⟩
end Go.Proofs.YtfdkmmllemkogaaGreatDoor

/-
  The walk of LightNames.
-/
namespace Go.Proofs.YtfdkmmllemkogaaGreatDoor
open Go.RowKit Go.Shelf
set_option linter.unusedVariables false
set_option linter.unusedSimpArgs false

set_option maxHeartbeats 1600000 in
theorem nFirst_any (b o n c : Nat) (zs : List Int) (hz : zs.length = n) (hm : n ≤ 4611686018427387904) (w : World)
    (hc : ∀ j, j < n → w.cell? ⟨b, o + j, none⟩ = some (.int .i64 (zs[j]?.getD 0))) :
    Calls Tryz.prog 21 #[.slice (some ⟨b, o, none⟩) n c] w fun e w' => e = .returned (.int .i64 (firstNZ zs)) ∧ w = w' := by
  have K := Lib.hid (refFirst_any b o n c zs hz hm w hc)
  clear hz hm hc
  go_enter Tryz.func21, Tryz.ntmps21
  go_wp2_with (go_at_call 111; refine K.out.mono ?_; rintro e w1 ⟨rfl, rfl⟩)
  go_ret
  exact ⟨rfl, rfl⟩

theorem refDraw_all (key n : Int) (h : drawErr key n = 0) (w : World) :
    Calls Tryz.prog 24 #[.int .i64 key, .int .i64 n] w fun e w' => ∃ v, e = .returned v ∧ IntsV w' v (drawN key n) (drawL key n.toNat) ∧ Below w.heap.size w w' := by
  obtain ⟨hk, hn⟩ := drawErr_zero h
  obtain ⟨m, rfl⟩ := Int.eq_ofNat_of_zero_le hn.1
  refine (refDraw_any key m hk (by omega) w).mono ?_
  rintro e w' ⟨v, rfl, ho, hb⟩
  refine ⟨v, rfl, ?_, hb⟩
  unfold drawN
  rw [if_pos h]
  exact IntsV.of_row ho
theorem drawN_le (key n : Int) : drawN key n ≤ 4096 ∧ (drawErr key n ≠ 0 → drawN key n = 0) := by
  unfold drawN
  split
  · rename_i h
    have := (drawErr_zero h).2
    exact ⟨by omega, fun h' => absurd h h'⟩
  · exact ⟨by omega, fun _ => rfl⟩

set_option maxRecDepth 1000000 in
set_option maxHeartbeats 12800000 in
theorem names_all (w : World) (s : ByteArray) (n0 n1 n2 n3 n4 n5 n6 : Int) (x : Nat) (hs : s.size ≤ maxLen) (hx : x < 2 ^ 32) (ht : TabAt w) :
    Calls Tryz.prog 3 #[.string s, .agg #[.int .i64 n0, .int .i64 n1, .int .i64 n2, .int .i64 n3, .int .i64 n4, .int .i64 n5, .int .i64 n6], .float .f32 x] w (TruePost w) := by
  obtain ⟨W0, hW0⟩ : ∃ W0, w.alloc (.cells #[.int .i64 n0, .int .i64 n1, .int .i64 n2, .int .i64 n3, .int .i64 n4, .int .i64 n5, .int .i64 n6] 22) = W0 := ⟨_, rfl⟩
  have hB0 : Below w.heap.size w W0 := by rw [← hW0]; exact (Below.refl _ w).alloc (Nat.le_refl _) _
  have hS0 : w.heap.size < W0.heap.size := by rw [← hW0]; simp
  have a0 : W0.cell? ⟨w.heap.size, 0, none⟩ = some (.int .i64 n0) := by rw [← hW0]; simp [go_sem]
  have a1 : W0.cell? ⟨w.heap.size, 1, none⟩ = some (.int .i64 n1) := by rw [← hW0]; simp [go_sem]
  have a2 : W0.cell? ⟨w.heap.size, 2, none⟩ = some (.int .i64 n2) := by rw [← hW0]; simp [go_sem]
  have a3 : W0.cell? ⟨w.heap.size, 3, none⟩ = some (.int .i64 n3) := by rw [← hW0]; simp [go_sem]
  have a4 : W0.cell? ⟨w.heap.size, 4, none⟩ = some (.int .i64 n4) := by rw [← hW0]; simp [go_sem]
  have a5 : W0.cell? ⟨w.heap.size, 5, none⟩ = some (.int .i64 n5) := by rw [← hW0]; simp [go_sem]
  have a6 : W0.cell? ⟨w.heap.size, 6, none⟩ = some (.int .i64 n6) := by rw [← hW0]; simp [go_sem]
  by_cases hlen : 40 < s.size
  · have HB0 := Lib.hid hB0
    have KW := Lib.hid (awake_any W0 (ht.on hB0))
    clear ht hs hx hB0
    unfold maxLen at *
    go_enter Tryz.func3, Tryz.ntmps3
    go_upto_region 1 with fail
    try rw [hW0]
    clear hW0
    go_wp2_with (go_at_call 19; refine KW.out.mono ?_; rintro e w1 ⟨rfl, hb1⟩)
    go_ret
    exact ⟨rfl, HB0.out.trans (hb1.mono HB0.out.size)⟩
  have KD := Lib.hid (draw_all n0 n1 W0)
  obtain ⟨hN1, hN2⟩ := drawN_le n0 n1
  have HT := Lib.hid ht
  have HB0 := Lib.hid hB0
  have HN2 := Lib.hid hN2
  have hs2 := hs
  unfold maxLen at hs2
  have HS := Lib.hid hs
  have HX := Lib.hid hx
  clear ht hs hx hB0 hN2
  obtain ⟨r, hr⟩ : ∃ r : Int, drawErr n0 n1 = r := ⟨_, rfl⟩
  rw [hr] at KD HN2
  have HR := Lib.hid hr
  clear hr
  go_enter Tryz.func3, Tryz.ntmps3
  go_upto_region 1 with fail
  try rw [hW0]
  clear hW0
  go_upto_region 4 with (go_at_call 20; refine KD.out.mono ?_; rintro e w1 ⟨v, rfl, hv1, hb1⟩)
  have HV1 := Lib.hid hv1
  clear KD hv1
  have b0 : w1.cell? ⟨w.heap.size, 0, none⟩ = some (.int .i64 n0) := (hb1.cell (p := ⟨w.heap.size, 0, none⟩) hS0).trans a0
  have b1 : w1.cell? ⟨w.heap.size, 1, none⟩ = some (.int .i64 n1) := (hb1.cell (p := ⟨w.heap.size, 1, none⟩) hS0).trans a1
  have b2 : w1.cell? ⟨w.heap.size, 2, none⟩ = some (.int .i64 n2) := (hb1.cell (p := ⟨w.heap.size, 2, none⟩) hS0).trans a2
  have b3 : w1.cell? ⟨w.heap.size, 3, none⟩ = some (.int .i64 n3) := (hb1.cell (p := ⟨w.heap.size, 3, none⟩) hS0).trans a3
  have b4 : w1.cell? ⟨w.heap.size, 4, none⟩ = some (.int .i64 n4) := (hb1.cell (p := ⟨w.heap.size, 4, none⟩) hS0).trans a4
  have b5 : w1.cell? ⟨w.heap.size, 5, none⟩ = some (.int .i64 n5) := (hb1.cell (p := ⟨w.heap.size, 5, none⟩) hS0).trans a5
  have b6 : w1.cell? ⟨w.heap.size, 6, none⟩ = some (.int .i64 n6) := (hb1.cell (p := ⟨w.heap.size, 6, none⟩) hS0).trans a6
  have hS1 : w.heap.size < w1.heap.size := Nat.lt_of_lt_of_le hS0 hb1.size
  have HB1 := Lib.hid (HB0.out.trans (hb1.mono HB0.out.size))
  clear a0 a1 a2 a3 a4 a5 a6 hb1 HB0 hS0
  go_cut [9] (fun s9 wr => s9 = .int .i64 r ∧ ∃ W2 : World, W2 = wr ∧ Below w1.heap.size w1 W2)
  case first =>
    have hbx : Below w1.heap.size w1 ((w1.alloc (.cells #[.int .i64 (rangeErr n0 1 2147483646), .int .i64 (rangeErr n1 0 256)] 3)).drew) := ((Below.refl w1.heap.size w1).alloc (Nat.le_refl _) _).drew
    have hby : Below w1.heap.size w1 ((w1.drew).alloc (.cells #[.int .i64 (rangeErr n0 1 2147483646), .int .i64 (rangeErr n1 0 256)] 3)) := ((Below.refl w1.heap.size w1).drew).alloc (Nat.le_refl _) _
    go_region_held3 (fun w' => w'.cell? ⟨w.heap.size, 0, none⟩ = some (.int .i64 n0) ∧ w'.cell? ⟨w.heap.size, 1, none⟩ = some (.int .i64 n1))
      (first | go_keep | (go_split_ands; refine ⟨?_, ?_⟩ <;> assumption))
      (first
        | (go_at_call 22; refine (refCheckKey_any _ _).mono ?_; rintro e w2 ⟨rfl, rfl⟩)
        | (go_at_call 23; refine (refCheckRange_any _ _ _ _).mono ?_; rintro e w2 ⟨rfl, rfl⟩)
        | ((go_at_call 21; refine (nFirst_any _ 0 2 2 [rangeErr n0 1 2147483646, rangeErr n1 0 256] rfl (by omega) _ ?_).mono ?_; rotate_left 1; rintro e w' ⟨rfl, rfl⟩; rw [show firstNZ [rangeErr n0 1 2147483646, rangeErr n1 0 256] = r from HR.out]; rotate_left 1; (intro j hj; match j, hj with | 0, _ => simp [go_sem] | 1, _ => simp [go_sem]))))
    all_goals go_wp2_with fail
    all_goals go_meet
    all_goals first | exact ⟨rfl, _, rfl, hbx⟩ | exact ⟨rfl, _, rfl, hby⟩
  case rest =>
    obtain ⟨rfl, W2, rfl, hb2⟩ := hcut
    have hv2 := HV1.out.kept hb2
    have HB2 := Lib.hid (HB1.out.trans (hb2.mono HB1.out.size))
    have hS2 : w.heap.size < W2.heap.size := Nat.lt_of_lt_of_le hS1 hb2.size
    have c0 : W2.cell? ⟨w.heap.size, 0, none⟩ = some (.int .i64 n0) := (hb2.cell (p := ⟨w.heap.size, 0, none⟩) hS1).trans b0
    have c1 : W2.cell? ⟨w.heap.size, 1, none⟩ = some (.int .i64 n1) := (hb2.cell (p := ⟨w.heap.size, 1, none⟩) hS1).trans b1
    have c2 : W2.cell? ⟨w.heap.size, 2, none⟩ = some (.int .i64 n2) := (hb2.cell (p := ⟨w.heap.size, 2, none⟩) hS1).trans b2
    have c3 : W2.cell? ⟨w.heap.size, 3, none⟩ = some (.int .i64 n3) := (hb2.cell (p := ⟨w.heap.size, 3, none⟩) hS1).trans b3
    have c4 : W2.cell? ⟨w.heap.size, 4, none⟩ = some (.int .i64 n4) := (hb2.cell (p := ⟨w.heap.size, 4, none⟩) hS1).trans b4
    have c5 : W2.cell? ⟨w.heap.size, 5, none⟩ = some (.int .i64 n5) := (hb2.cell (p := ⟨w.heap.size, 5, none⟩) hS1).trans b5
    have c6 : W2.cell? ⟨w.heap.size, 6, none⟩ = some (.int .i64 n6) := (hb2.cell (p := ⟨w.heap.size, 6, none⟩) hS1).trans b6
    have HV2 := Lib.hid hv2
    clear b0 b1 b2 b3 b4 b5 b6 hb2 HB1 HV1 hS1 hv2
    go_upto_if 34 with fail
    go_cut [10] (fun s10 wr => ∃ V W3, V = s10 ∧ W3 = wr ∧ IntsV W3 V (drawN n0 n1) (drawL n0 n1.toNat) ∧ Below W2.heap.size W2 W3)
    case first =>
      by_cases h0 : r = 0
      · have e0 : (r == 0) = true := by simp [h0]
        have KR := Lib.hid (refDraw_all n0 n1 (HR.out.trans h0) W2)
        clear h0
        go_wp2_with (go_at_call 24; refine KR.out.mono ?_; rintro e w3 ⟨v3, rfl, hv3, hb3⟩)
        go_meet
        exact ⟨_, _, rfl, rfl, hv3, hb3⟩
      · have e0 : (r == 0) = false := by simp [h0]
        have hv3 : IntsV W2 (.slice none 0 0) (drawN n0 n1) (drawL n0 n1.toNat) := by rw [HN2.out h0]; exact IntsV.nil _ _
        have hb3 := Below.refl W2.heap.size W2
        have HV3 := Lib.hid hv3
        clear h0 hv3
        go_wp2_with fail
        go_meet
        exact ⟨_, _, rfl, rfl, HV3.out, hb3⟩
    case rest =>
      obtain ⟨V, W3, rfl, rfl, hv3, hb3⟩ := hcut
      have hvv := HV2.out.kept hb3
      have HB3 := Lib.hid (HB2.out.trans (hb3.mono HB2.out.size))
      have hS3 : w.heap.size < W3.heap.size := Nat.lt_of_lt_of_le hS2 hb3.size
      have d0 : W3.cell? ⟨w.heap.size, 0, none⟩ = some (.int .i64 n0) := (hb3.cell (p := ⟨w.heap.size, 0, none⟩) hS2).trans c0
      have d1 : W3.cell? ⟨w.heap.size, 1, none⟩ = some (.int .i64 n1) := (hb3.cell (p := ⟨w.heap.size, 1, none⟩) hS2).trans c1
      have d2 : W3.cell? ⟨w.heap.size, 2, none⟩ = some (.int .i64 n2) := (hb3.cell (p := ⟨w.heap.size, 2, none⟩) hS2).trans c2
      have d3 : W3.cell? ⟨w.heap.size, 3, none⟩ = some (.int .i64 n3) := (hb3.cell (p := ⟨w.heap.size, 3, none⟩) hS2).trans c3
      have d4 : W3.cell? ⟨w.heap.size, 4, none⟩ = some (.int .i64 n4) := (hb3.cell (p := ⟨w.heap.size, 4, none⟩) hS2).trans c4
      have d5 : W3.cell? ⟨w.heap.size, 5, none⟩ = some (.int .i64 n5) := (hb3.cell (p := ⟨w.heap.size, 5, none⟩) hS2).trans c5
      have d6 : W3.cell? ⟨w.heap.size, 6, none⟩ = some (.int .i64 n6) := (hb3.cell (p := ⟨w.heap.size, 6, none⟩) hS2).trans c6
      have HV3 := Lib.hid hv3
      have HVV := Lib.hid hvv
      clear c0 c1 c2 c3 c4 c5 c6 hb3 HB2 HV2 hS2 hv3 hvv
      go_upto_region 8 with fail
      go_cut [11, 12] (fun s11 s12 wr => ∃ B C W4, s11 = .pointer (some ⟨B, 0, none⟩) ∧ s12 = .pointer (some ⟨C, 0, none⟩) ∧ W4 = wr ∧ B < W4.heap.size ∧ C < W4.heap.size ∧ W4.cell? ⟨B, 0, none⟩ = some (.int .i64 n2) ∧ W4.cell? ⟨B, 1, none⟩ = some (.int .i64 n3) ∧ W4.cell? ⟨C, 0, none⟩ = some (.int .i64 n4) ∧ W4.cell? ⟨C, 1, none⟩ = some (.int .i64 n5) ∧ W4.cell? ⟨C, 2, none⟩ = some (.int .i64 n6) ∧ Below W3.heap.size W3 W4)
      case first =>
        have hn1 : w.heap.size ≠ W3.heap.size := by omega
        have hn2 : w.heap.size ≠ W3.heap.size + 1 := by omega
        go_region_held3 (fun w' => w'.cell? ⟨w.heap.size, 2, none⟩ = some (.int .i64 n2) ∧ w'.cell? ⟨w.heap.size, 3, none⟩ = some (.int .i64 n3) ∧ w'.cell? ⟨w.heap.size, 4, none⟩ = some (.int .i64 n4) ∧ w'.cell? ⟨w.heap.size, 5, none⟩ = some (.int .i64 n5) ∧ w'.cell? ⟨w.heap.size, 6, none⟩ = some (.int .i64 n6))
          (first | go_keep | (go_split_ands; refine ⟨?_, ?_, ?_, ?_, ?_⟩ <;> (simp [go_sem, *]; done)))
          (fail)
        all_goals go_wp2_with fail
        all_goals go_meet
        all_goals
          refine ⟨_, _, _, rfl, rfl, rfl, ?_, ?_, ?_, ?_, ?_, ?_, ?_, ?_⟩
          · simp; try omega
          · simp; try omega
          · simp [go_sem]
          · simp [go_sem]
          · simp [go_sem]
          · simp [go_sem]
          · simp [go_sem]
          · repeat (first | exact Below.refl _ _ | refine Below.drew ?_ | refine Below.setCell ?_ (by simp) _ | refine Below.alloc ?_ (by simp) _)
      case rest =>
        obtain ⟨B, C, W4, rfl, rfl, rfl, hB, hC, f0, f1, f2, f3, f4, hb4⟩ := hcut
        have hB4 := HB3.out.trans (hb4.mono HB3.out.size)
        have hI := fun w9 => isName_any s w9 HS.out
        have hJ := fun w9 => refIsName_any s w9 HS.out
        obtain ⟨nb, hnb⟩ : ∃ nb : Bool, nameB s = nb := ⟨_, rfl⟩
        rw [hnb] at hI hJ
        have hS9 : ∀ w9 : World, Calls Tryz.prog 30 #[.float .f32 x] w9 fun e w' => e = .returned (.int .i64 (smpErr x)) ∧ Below w9.heap.size w9 w' := fun w9 =>
          (checkSample_all x HX.out w9).mono fun e w' ⟨he, hw⟩ => ⟨he, hw.elim (fun h => h ▸ Below.refl _ _) (fun h => h ▸ (Below.refl _ _).drew)⟩
        have hv4 := HVV.out.kept hb4
        have hV4 := HV3.out.kept hb4
        have hL : ∀ w9 : World, Below W4.heap.size W4 w9 → Calls Tryz.prog 27 #[v, .int .i64 r, .int .i64 r, V] w9 fun e w' => e = .returned (.bool true) ∧ Below w9.heap.size w9 w' := fun w9 h =>
          listed_ok v V (drawN n0 n1) (drawL n0 n1.toNat) r hN1 HN2.out w9 (hv4.kept h) (hV4.kept h)
        have hW9 : ∀ w9 : World, Below W4.heap.size W4 w9 → Calls Tryz.prog 19 #[] w9 fun e w' => e = .returned (.bool true) ∧ Below w9.heap.size w9 w' := fun w9 h => awake_any w9 ((HT.out.on hB4).on h)
        have KI : Hid (∀ w9 : World, Blw W4.heap.size W4 w9 → Calls Tryz.prog 25 #[.string s] w9 fun e w' => e = .returned (.bool nb) ∧ Below W4.heap.size W4 w') := Lib.hid fun w9 (h : Below W4.heap.size W4 w9) => (hI w9).mono fun e w' ⟨he, hw⟩ => ⟨he, h.trans (hw.mono h.size)⟩
        have KJ : Hid (∀ w9 : World, Blw W4.heap.size W4 w9 → Calls Tryz.prog 26 #[.string s] w9 fun e w' => e = .returned (.bool nb) ∧ Below W4.heap.size W4 w') := Lib.hid fun w9 (h : Below W4.heap.size W4 w9) => (hJ w9).mono fun e w' ⟨he, hw⟩ => ⟨he, hw ▸ h⟩
        have KL : Hid (∀ w9 : World, Blw W4.heap.size W4 w9 → Calls Tryz.prog 27 #[v, .int .i64 r, .int .i64 r, V] w9 fun e w' => e = .returned (.bool true) ∧ Below W4.heap.size W4 w') := Lib.hid fun w9 (h : Below W4.heap.size W4 w9) => (hL w9 h).mono fun e w' ⟨he, hw⟩ => ⟨he, h.trans (hw.mono h.size)⟩
        have KR1 : Hid (∀ w9 : World, Blw W4.heap.size W4 w9 → Calls Tryz.prog 28 #[.agg #[.int .i64 n2, .int .i64 n3]] w9 fun e w' => e = .returned (.int .i64 (ratioErr n2 n3)) ∧ Below W4.heap.size W4 w') := Lib.hid fun w9 (h : Below W4.heap.size W4 w9) => (checkRatio_all n2 n3 w9).mono fun e w' ⟨he, hw⟩ => ⟨he, h.trans (hw.mono h.size)⟩
        have KR2 : Hid (∀ w9 : World, Blw W4.heap.size W4 w9 → Calls Tryz.prog 29 #[.agg #[.int .i64 n2, .int .i64 n3]] w9 fun e w' => e = .returned (.int .i64 (ratioErr n2 n3)) ∧ Below W4.heap.size W4 w') := Lib.hid fun w9 (h : Below W4.heap.size W4 w9) => (refCheckRatio_all n2 n3 w9).mono fun e w' ⟨he, hw⟩ => ⟨he, h.trans (hw.mono h.size)⟩
        have KS1 : Hid (∀ w9 : World, Blw W4.heap.size W4 w9 → Calls Tryz.prog 30 #[.float .f32 x] w9 fun e w' => e = .returned (.int .i64 (smpErr x)) ∧ Below W4.heap.size W4 w') := Lib.hid fun w9 (h : Below W4.heap.size W4 w9) => (hS9 w9).mono fun e w' ⟨he, hw⟩ => ⟨he, h.trans (hw.mono h.size)⟩
        have KS2 : Hid (∀ w9 : World, Blw W4.heap.size W4 w9 → Calls Tryz.prog 31 #[.float .f32 x] w9 fun e w' => e = .returned (.int .i64 (smpErr x)) ∧ Below W4.heap.size W4 w') := Lib.hid fun w9 (h : Below W4.heap.size W4 w9) => (refCheckSample_all x w9).mono fun e w' ⟨he, hw⟩ => ⟨he, hw ▸ h⟩
        have KV1 : Hid (∀ w9 : World, Blw W4.heap.size W4 w9 → Calls Tryz.prog 32 #[.agg #[.int .i64 n4, .int .i64 n5, .int .i64 n6]] w9 fun e w' => e = .returned (.int .i64 (vectorErr n4 n5 n6)) ∧ Below W4.heap.size W4 w') := Lib.hid fun w9 (h : Below W4.heap.size W4 w9) => (lightCheckVector_all n4 n5 n6 w9).mono fun e w' ⟨he, hw⟩ => ⟨he, h.trans (hw.mono h.size)⟩
        have KV2 : Hid (∀ w9 : World, Blw W4.heap.size W4 w9 → Calls Tryz.prog 33 #[.agg #[.int .i64 n4, .int .i64 n5, .int .i64 n6]] w9 fun e w' => e = .returned (.int .i64 (vectorErr n4 n5 n6)) ∧ Below W4.heap.size W4 w') := Lib.hid fun w9 (h : Below W4.heap.size W4 w9) => (refCheckVector_all n4 n5 n6 w9).mono fun e w' ⟨he, hw⟩ => ⟨he, h.trans (hw.mono h.size)⟩
        have KD1 : Hid (∀ w9 : World, Blw W4.heap.size W4 w9 → Calls Tryz.prog 34 #[.agg #[.int .i64 n4, .int .i64 n5, .int .i64 n6]] w9 fun e w' => e = .returned (.int .i64 (directionErr n4 n5 n6)) ∧ Below W4.heap.size W4 w') := Lib.hid fun w9 (h : Below W4.heap.size W4 w9) => (lightCheckDirection_all n4 n5 n6 w9).mono fun e w' ⟨he, hw⟩ => ⟨he, h.trans (hw.mono h.size)⟩
        have KD2 : Hid (∀ w9 : World, Blw W4.heap.size W4 w9 → Calls Tryz.prog 35 #[.agg #[.int .i64 n4, .int .i64 n5, .int .i64 n6]] w9 fun e w' => e = .returned (.int .i64 (directionErr n4 n5 n6)) ∧ Below W4.heap.size W4 w') := Lib.hid fun w9 (h : Below W4.heap.size W4 w9) => (refCheckDirection_all n4 n5 n6 w9).mono fun e w' ⟨he, hw⟩ => ⟨he, h.trans (hw.mono h.size)⟩
        have KW : Hid (∀ w9 : World, Blw W4.heap.size W4 w9 → Calls Tryz.prog 19 #[] w9 fun e w' => e = .returned (.bool true) ∧ Below W4.heap.size W4 w') := Lib.hid fun w9 (h : Below W4.heap.size W4 w9) => (hW9 w9 h).mono fun e w' ⟨he, hw⟩ => ⟨he, h.trans (hw.mono h.size)⟩
        have HB4 := Lib.hid hB4
        have eb : (nb == nb) = true := by simp
        have hR : Blw W4.heap.size W4 W4.drew := show Below _ _ _ from (Below.refl W4.heap.size W4).drew
        clear hI hJ hS9 hL hW9 hB4 hb4 hnb hv4 hV4 HS HX HT HV3 HVV HB3 HN2 hN1 d0 d1 d2 d3 d4 d5 d6 hS3 hs2 HR
        go_upto_region 9 with fail
        go_region_held3 (fun w' => w'.cell? ⟨B, 0, none⟩ = some (.int .i64 n2) ∧ w'.cell? ⟨B, 1, none⟩ = some (.int .i64 n3) ∧ w'.cell? ⟨C, 0, none⟩ = some (.int .i64 n4) ∧ w'.cell? ⟨C, 1, none⟩ = some (.int .i64 n5) ∧ w'.cell? ⟨C, 2, none⟩ = some (.int .i64 n6) ∧ Blw W4.heap.size W4 w')
          (first
            | (go_split_ands; refine ⟨?_, ?_, ?_, ?_, ?_, ?_⟩ <;> first | (with_reducible assumption) | exact hb9 | ((rw [hb9.cell (by first | exact hB | exact hC)]; assumption)))
            | go_keep)
          (first
            | (go_at_call 25; refine (KI.out _ (by assumption)).mono ?_; rintro e w' ⟨rfl, hb9⟩; clear KI)
            | (go_at_call 26; refine (KJ.out _ (by assumption)).mono ?_; rintro e w' ⟨rfl, hb9⟩; clear KJ)
            | (go_at_call 27; refine (KL.out _ (by assumption)).mono ?_; rintro e w' ⟨rfl, hb9⟩; clear KL)
            | (go_at_call 28; refine (KR1.out _ (by assumption)).mono ?_; rintro e w' ⟨rfl, hb9⟩; clear KR1)
            | (go_at_call 29; refine (KR2.out _ (by assumption)).mono ?_; rintro e w' ⟨rfl, hb9⟩; clear KR2)
            | (go_at_call 30; refine (KS1.out _ (by assumption)).mono ?_; rintro e w' ⟨rfl, hb9⟩; clear KS1)
            | (go_at_call 31; refine (KS2.out _ (by assumption)).mono ?_; rintro e w' ⟨rfl, hb9⟩; clear KS2)
            | (go_at_call 32; refine (KV1.out _ (by assumption)).mono ?_; rintro e w' ⟨rfl, hb9⟩; clear KV1)
            | (go_at_call 33; refine (KV2.out _ (by assumption)).mono ?_; rintro e w' ⟨rfl, hb9⟩; clear KV2)
            | (go_at_call 34; refine (KD1.out _ (by assumption)).mono ?_; rintro e w' ⟨rfl, hb9⟩; clear KD1)
            | (go_at_call 35; refine (KD2.out _ (by assumption)).mono ?_; rintro e w' ⟨rfl, hb9⟩; clear KD2)
            | (go_at_call 19; refine (KW.out _ (by assumption)).mono ?_; rintro e w' ⟨rfl, hb9⟩; clear KW))
        all_goals
          go_wp2_with fail
          go_ret
          exact ⟨rfl, HB4.out.trans (hb9.mono HB4.out.size)⟩
end Go.Proofs.YtfdkmmllemkogaaGreatDoor
