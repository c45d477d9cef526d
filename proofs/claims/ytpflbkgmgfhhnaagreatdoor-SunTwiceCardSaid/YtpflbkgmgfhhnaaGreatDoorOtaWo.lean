/-
  Contracts of limited and checkTelegram for a telegram whose numbers are in their ranges.
-/
import Derived.Test.YtpflbkgmgfhhnaaGreatDoorRows
import Derived.WalkKit
import Derived.WalkSpells
import Derived.WalkLawsBesides
import Derived.Lib.Hide
import Derived.BigQuiet
import Derived.Deep.QuietTactic
import Derived.Handy
import Derived.Deep.RegionHeld3
import Derived.Deep.RegionWith
import Derived.StillTailTactics
import Derived.Laws.FloatArith
import Derived.Laws.BitsAllLaws
import Derived.Laws.RangeString
import Derived.Laws.RangeAny
import Derived.LoopTactic
import Derived.Deep.CutBlock
import Derived.Deep.DeepCutAuto
import Derived.Laws.StructEq
import Derived.RangeFuncNested
import Derived.RangeFuncBound
import Derived.RangeFuncCalls
import Derived.RangeFuncLeaves
import Derived.RangeFuncBox
import Derived.Shelf.Abstract
import Derived.Shelf.RegionOpen
import Derived.OwnWalkIn
import Derived.TacticsInMore
import Derived.LoopNIn
import Derived.LoopIn
import Derived.Maps.AppendAt
import Derived.Test.YtpflbkgmgfhhnaaGreatDoorProg
import Derived.Stop.BytesEq
import Derived.Deep.MidRow
import Derived.Laws.CopyRow
import Derived.WalkMore
import Derived.Deep.DrawnRows
import Derived.Test.YtpflbkgmgfhhnaaGreatDoorOtaXc
import Derived.Test.YtpflbkgmgfhhnaaGreatDoorOtaXe
namespace Go.Proofs.YtpflbkgmgfhhnaaGreatDoor
open Go.RowKit
set_option linter.unusedVariables false

/-- The numbers of a telegram are in their ranges. -/
structure GoodT (s c o x y z : Int) : Prop where
  st : 0 ≤ s ∧ s ≤ 255
  ct : 0 ≤ c ∧ c ≤ 65535
  od : 0 ≤ o ∧ o ≤ 255
  vx : -1048576 ≤ x ∧ x ≤ 1048576
  vy : -1048576 ≤ y ∧ y ≤ 1048576
  vz : -1048576 ≤ z ∧ z ≤ 1048576

end Go.Proofs.YtpflbkgmgfhhnaaGreatDoor

/-
  Contracts of the checks of a name, of the program and of the reference: both answer nameB, for every string.
-/
namespace Go.Proofs.YtpflbkgmgfhhnaaGreatDoor
open Go.RowKit
set_option linter.unusedVariables false
set_option linter.unusedSimpArgs false

def letP (c : Int) : Prop := (65 ≤ c ∧ c ≤ 90) ∨ (97 ≤ c ∧ c ≤ 122)
def digP (c : Int) : Prop := 48 ≤ c ∧ c ≤ 57
def chP (i : Nat) (c : Int) : Prop := letP c ∨ (i ≠ 0 ∧ (digP c ∨ c = 95))
/-- What a name is. -/
def nameP (s : ByteArray) : Prop := 1 ≤ s.size ∧ s.size ≤ 24 ∧ ∀ i (h : i < s.size), chP i ((s[i]'h).toNat : Int)
open Classical in
noncomputable def nameB (s : ByteArray) : Bool := decide (nameP s)
theorem nameB_yes {s : ByteArray} (h : nameP s) : nameB s = true := by unfold nameB; simp [h]
theorem nameB_no {s : ByteArray} (h : ¬ nameP s) : nameB s = false := by unfold nameB; simp [h]

theorem ret_bool {a b : Bool} (h : a = b) : Ending.returned (.bool a) = .returned (.bool b) := by rw [h]

set_option maxHeartbeats 800000 in
theorem isLetter_yes (c : Int) (h : letP c) (w : World) :
    Calls Tryz.prog 108 #[.int .i32 c] w fun e w' => e = .returned (.bool true) ∧ w = w' := by
  rcases h with h | h
  · obtain ⟨h1, h2⟩ := h
    go_enter Tryz.func108, Tryz.ntmps108
    go_wp2
    go_ret
    exact ⟨rfl, rfl⟩
  · obtain ⟨h1, h2⟩ := h
    have h3 : 90 < c := by omega
    go_enter Tryz.func108, Tryz.ntmps108
    go_wp2
    go_ret
    exact ⟨rfl, rfl⟩

set_option maxHeartbeats 800000 in
theorem isLetter_no (c : Int) (h : ¬ letP c) (w : World) :
    Calls Tryz.prog 108 #[.int .i32 c] w fun e w' => e = .returned (.bool false) ∧ w = w' := by
  have hc : c < 65 ∨ (90 < c ∧ c < 97) ∨ 122 < c := by unfold letP at h; omega
  clear h
  rcases hc with h | ⟨h1, h2⟩ | h
  · have h1 : c < 97 := by omega
    go_enter Tryz.func108, Tryz.ntmps108
    go_wp2
    go_ret
    exact ⟨ret_bool (by simp; try omega), rfl⟩
  ·
    go_enter Tryz.func108, Tryz.ntmps108
    go_wp2
    go_ret
    exact ⟨ret_bool (by simp; try omega), rfl⟩
  · have h1 : 90 < c := by omega
    go_enter Tryz.func108, Tryz.ntmps108
    go_wp2
    go_ret
    exact ⟨ret_bool (by simp; try omega), rfl⟩

set_option maxHeartbeats 800000 in
theorem isDigit_yes (c : Int) (h : digP c) (w : World) :
    Calls Tryz.prog 109 #[.int .i32 c] w fun e w' => e = .returned (.bool true) ∧ w = w' := by
  obtain ⟨h1, h2⟩ := h
  go_enter Tryz.func109, Tryz.ntmps109
  go_wp2
  go_ret
  exact ⟨rfl, rfl⟩

set_option maxHeartbeats 800000 in
theorem isDigit_no (c : Int) (h : ¬ digP c) (w : World) :
    Calls Tryz.prog 109 #[.int .i32 c] w fun e w' => e = .returned (.bool false) ∧ w = w' := by
  have hc : c < 48 ∨ 57 < c := by unfold digP at h; omega
  clear h
  rcases hc with h | h
  ·
    go_enter Tryz.func109, Tryz.ntmps109
    go_wp2
    go_ret
    exact ⟨ret_bool (by simp; try omega), rfl⟩
  ·
    go_enter Tryz.func109, Tryz.ntmps109
    go_wp2
    go_ret
    exact ⟨ret_bool (by simp; try omega), rfl⟩

/-- Behind the first so many places, all of which are fit. -/
def fitTo (s : ByteArray) (k : Nat) : Prop := ∀ i (h : i < s.size), i < k → chP i ((s[i]'h).toNat : Int)

theorem fit_step {s : ByteArray} {k : Nat} (h : k < s.size) (hf : fitTo s k) (hc : chP k ((s[k]'h).toNat : Int)) : fitTo s (k + 1) := fun i hi hk => by
  by_cases e : i = k
  · subst e; exact hc
  · exact hf i hi (by omega)
theorem fit_end {s : ByteArray} (h1 : 1 ≤ s.size) (h2 : s.size ≤ 24) (hf : fitTo s s.size) : nameP s := ⟨h1, h2, fun i h => hf i h h⟩
theorem fit_not {s : ByteArray} {k : Nat} (h : k < s.size) (hc : ¬ chP k ((s[k]'h).toNat : Int)) : ¬ nameP s := fun hp => hc (hp.2.2 k h)

end Go.Proofs.YtpflbkgmgfhhnaaGreatDoor

/-
  Contract of IsName of the program: it answers nameB, for every string.
-/
namespace Go.Proofs.YtpflbkgmgfhhnaaGreatDoor
open Go.RowKit
set_option linter.unusedVariables false
set_option linter.unusedSimpArgs false

theorem ascii_of_ch {k : Nat} {c : Int} (h : chP k c) : c < 128 := by
  unfold chP letP digP at h; omega

set_option maxRecDepth 100000 in
set_option maxHeartbeats 3200000 in
theorem isName_any (s : ByteArray) (w : World) (hm : s.size ≤ maxLen) :
    Calls Tryz.prog 95 #[.string s] w fun e w' => e = .returned (.bool (nameB s)) ∧ Below w.heap.size w w' := by
  unfold maxLen at hm
  by_cases h0 : s.size = 0
  · have e0 : ((s.size : Int) == 0) = true := by simp [h0]
    have H := Lib.hid (nameB_no (s := s) (fun h => by have := h.1; omega))
    rw [H.out]
    clear H h0
    go_enter Tryz.func95, Tryz.ntmps95
    go_wp2
    go_ret
    exact ⟨rfl, Below.refl _ _⟩
  have e0 : ((s.size : Int) == 0) = false := by simp [h0]
  by_cases h1 : 24 < s.size
  · have H := Lib.hid (nameB_no (s := s) (fun h => by have := h.2.1; omega))
    rw [H.out]
    clear H
    go_enter Tryz.func95, Tryz.ntmps95
    go_wp2
    go_ret
    exact ⟨rfl, Below.refl _ _⟩
  have KL : Hid (∀ (c : Int) (w : World), letP c → Calls Tryz.prog 108 #[.int .i32 c] w fun e w' => e = .returned (.bool true) ∧ w = w') := Lib.hid fun c w h => isLetter_yes c h w
  have KN : Hid (∀ (c : Int) (w : World), ¬ letP c → Calls Tryz.prog 108 #[.int .i32 c] w fun e w' => e = .returned (.bool false) ∧ w = w') := Lib.hid fun c w h => isLetter_no c h w
  have KD : Hid (∀ (c : Int) (w : World), digP c → Calls Tryz.prog 109 #[.int .i32 c] w fun e w' => e = .returned (.bool true) ∧ w = w') := Lib.hid fun c w h => isDigit_yes c h w
  have KE : Hid (∀ (c : Int) (w : World), ¬ digP c → Calls Tryz.prog 109 #[.int .i32 c] w fun e w' => e = .returned (.bool false) ∧ w = w') := Lib.hid fun c w h => isDigit_no c h w
  go_enter Tryz.func95, Tryz.ntmps95
  go_wp2
  go_loopw [3] (fun i wr => ∃ k : Nat, k ≤ s.size ∧ wr = w.iter s k ∧ Hid (fitTo s k)) (fun _ wr => s.size - wr.iterPos w.heap.size)
  case atStart => exact ⟨0, Nat.zero_le _, rfl, Lib.hid (fun i h hk => by omega)⟩
  case round =>
    obtain ⟨k, hk, rfl, hh⟩ := hrel
    have hbw : Below w.heap.size w (w.iter s k) := (Below.refl _ w).alloc (Nat.le_refl _) _
    have HBW := Lib.hid hbw
    clear hbw
    by_cases hlt : k < s.size
    · by_cases ha : (s[k]'hlt).toNat < 128
      · have hnx : ∀ ty, (Instr.next (.pointer (some ⟨w.heap.size, 0, none⟩)) true ty).run Tryz.prog (w.iter s k) = _ := fun ty => run_next_ascii w s k ty hlt ha
        have hz : Hid (Below w.heap.size w (w.iter s (k + 1))) := Lib.hid ((Below.refl _ w).alloc (Nat.le_refl _) _)
        obtain ⟨c, hc⟩ : ∃ c : Int, ((s[k]'hlt).toNat : Int) = c := ⟨_, rfl⟩
        by_cases hl : letP c
        · have hch := Lib.hid (show chP k ((s[k]'hlt).toNat : Int) from .inl (by rw [hc]; exact hl))
          have HL := Lib.hid hl
          clear hl
          go_wp2_with (go_at_call 108; refine (KL.out _ _ HL.out).mono ?_; rintro e w9 ⟨rfl, rfl⟩)
          go_roundw
          case rel => exact ⟨k + 1, by omega, rfl, Lib.hid (fit_step hlt hh.out hch.out)⟩
          case measure => simp; omega
        · by_cases hk0 : k = 0
          · have H := Lib.hid (nameB_no (fit_not hlt (fun h => h.elim (by rw [hc]; exact hl) (fun h => h.1 hk0))))
            have HL := Lib.hid hl
            have e3 : ((k : Int) == 0) = true := by simp [hk0]
            clear hl hk0
            go_wp2_with (go_at_call 108; refine (KN.out _ _ HL.out).mono ?_; rintro e w9 ⟨rfl, rfl⟩)
            go_ret
            exact ⟨ret_bool H.out.symm, hz.out⟩
          · have e3 : ((k : Int) == 0) = false := by simp [hk0]
            have HL := Lib.hid hl
            clear hl
            by_cases hd : digP c
            · have hch := Lib.hid (show chP k ((s[k]'hlt).toNat : Int) from .inr ⟨hk0, .inl (by rw [hc]; exact hd)⟩)
              have HD := Lib.hid hd
              clear hd hk0
              go_wp2_with (first
                | (go_at_call 108; refine (KN.out _ _ HL.out).mono ?_; rintro e w9 ⟨rfl, rfl⟩)
                | (go_at_call 109; refine (KD.out _ _ HD.out).mono ?_; rintro e w9 ⟨rfl, rfl⟩))
              go_roundw
              case rel => exact ⟨k + 1, by omega, rfl, Lib.hid (fit_step hlt hh.out hch.out)⟩
              case measure => simp; omega
            · have HD := Lib.hid hd
              clear hd
              by_cases h95 : c = 95
              · have hch := Lib.hid (show chP k ((s[k]'hlt).toNat : Int) from .inr ⟨hk0, .inr (by rw [hc]; exact h95)⟩)
                have e4 : (c != 95) = false := by simp [h95]
                clear h95 hk0
                go_wp2_with (first
                  | (go_at_call 108; refine (KN.out _ _ HL.out).mono ?_; rintro e w9 ⟨rfl, rfl⟩)
                  | (go_at_call 109; refine (KE.out _ _ HD.out).mono ?_; rintro e w9 ⟨rfl, rfl⟩))
                go_roundw
                case rel => exact ⟨k + 1, by omega, rfl, Lib.hid (fit_step hlt hh.out hch.out)⟩
                case measure => simp; omega
              · have H := Lib.hid (nameB_no (fit_not hlt (fun h => h.elim (by rw [hc]; exact HL.out) (fun h => h.2.elim (by rw [hc]; exact HD.out) (by rw [hc]; exact h95)))))
                have e4 : (c != 95) = true := by simp [h95]
                clear h95 hk0
                go_wp2_with (first
                  | (go_at_call 108; refine (KN.out _ _ HL.out).mono ?_; rintro e w9 ⟨rfl, rfl⟩)
                  | (go_at_call 109; refine (KE.out _ _ HD.out).mono ?_; rintro e w9 ⟨rfl, rfl⟩))
                go_ret
                exact ⟨ret_bool H.out.symm, hz.out⟩
      · have hnx : ∀ ty, (Instr.next (.pointer (some ⟨w.heap.size, 0, none⟩)) true ty).run Tryz.prog (w.iter s k) = _ := fun ty => run_next_any w s k ty hlt
        have hz : Hid (Below w.heap.size w (w.iter s (k + (Utf8.decode s k).2))) := Lib.hid ((Below.refl _ w).alloc (Nat.le_refl _) _)
        have hh8 := (decode_high s k hlt (by omega)).1
        have H := Lib.hid (nameB_no (fit_not hlt (fun h => by have := ascii_of_ch h; omega)))
        obtain ⟨c, hc⟩ : ∃ c : Int, ((Utf8.decode s k).1 : Int) = c := ⟨_, rfl⟩
        have hc8 : 128 ≤ c := by omega
        have HL : Hid (¬ letP c) := Lib.hid (by unfold letP; omega)
        have HD : Hid (¬ digP c) := Lib.hid (by unfold digP; omega)
        have e4 : (c != 95) = true := by simp; omega
        clear ha hh8
        by_cases hk0 : k = 0
        · have e3 : ((k : Int) == 0) = true := by simp [hk0]
          clear hk0
          go_wp2_with (go_at_call 108; refine (KN.out _ _ HL.out).mono ?_; rintro e w9 ⟨rfl, rfl⟩)
          go_ret
          exact ⟨ret_bool H.out.symm, hz.out⟩
        · have e3 : ((k : Int) == 0) = false := by simp [hk0]
          clear hk0
          go_wp2_with (first
            | (go_at_call 108; refine (KN.out _ _ HL.out).mono ?_; rintro e w9 ⟨rfl, rfl⟩)
            | (go_at_call 109; refine (KE.out _ _ HD.out).mono ?_; rintro e w9 ⟨rfl, rfl⟩))
          go_ret
          exact ⟨ret_bool H.out.symm, hz.out⟩
    · obtain rfl : k = s.size := by omega
      have hnx : ∀ ty, (Instr.next (.pointer (some ⟨w.heap.size, 0, none⟩)) true ty).run Tryz.prog (w.iter s s.size) = _ := fun ty => run_next_end w s s.size ty hlt
      have H := Lib.hid (nameB_yes (fit_end (by omega) (by omega) hh.out))
      go_wp2
      go_ret
      exact ⟨ret_bool H.out.symm, HBW.out⟩
end Go.Proofs.YtpflbkgmgfhhnaaGreatDoor

/-
  Contracts of limited and checkTelegram for every telegram.
-/
namespace Go.Proofs.YtpflbkgmgfhhnaaGreatDoor
open Go.RowKit
set_option linter.unusedVariables false
set_option linter.unusedSimpArgs false

open Classical in
noncomputable def telErr (s c o x y z : Int) : Int := if GoodT s c o x y z then 0 else 3
end Go.Proofs.YtpflbkgmgfhhnaaGreatDoor

/-
  Contracts of the reference's checks of telegrams, for every telegram.
-/
namespace Go.Proofs.YtpflbkgmgfhhnaaGreatDoor
open Go.RowKit
set_option linter.unusedVariables false
set_option linter.unusedSimpArgs false

/-- A slice, nil or not, of telegrams. -/
def AnyTels (w : World) (a : Option Addr) (n : Nat) (L : List Tel) : Prop := L.length = n ∧ ∀ j, j < n → ∃ b q, a = some ⟨b, q, none⟩ ∧ b < w.heap.size ∧ TelsAt w b q L
theorem AnyTels.kept {w w' : World} {a : Option Addr} {n : Nat} {L : List Tel} (h : AnyTels w a n L) (hb : Below w.heap.size w w') : AnyTels w' a n L :=
  ⟨h.1, fun j hj => by
    obtain ⟨b, q, e, h1, h2⟩ := h.2 j hj
    exact ⟨b, q, e, Nat.lt_of_lt_of_le h1 hb.size, h2.kept hb h1⟩⟩
noncomputable def Tel.err (t : Tel) : Int := telErr t.s t.c t.o t.x t.y t.z
end Go.Proofs.YtpflbkgmgfhhnaaGreatDoor
