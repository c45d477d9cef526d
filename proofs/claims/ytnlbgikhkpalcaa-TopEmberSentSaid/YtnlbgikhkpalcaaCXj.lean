/-
  Contract of slices.Clone at integers that lie in a block.
-/
import Derived.Test.YtnlbgikhkpalcaaCXg
import Derived.Test.YtnlbgikhkpalcaaCWh
namespace Go.Proofs.Ytnlbgikhkpalcaa
open Go.RowKit
set_option linter.unusedVariables false

set_option maxRecDepth 100000 in
set_option maxHeartbeats 3200000 in
theorem clone_any {w : World} (g n c : Nat) (ks : List Int) (hx : ks.length = n) (hn1 : 1 ≤ n) (hm : n ≤ 4096) (hb : g < w.heap.size)
    (hc : ∀ j, j < n → w.cell? ⟨g, j, none⟩ = some (.int .i64 (ks[j]?.getD 0))) :
    Calls Try.prog 41 #[.slice (some ⟨g, 0, none⟩) n c] w fun e w' =>
      ∃ g' cap, e = .returned (.slice (some ⟨g', 0, none⟩) n cap) ∧ w'.ownsRow w.heap.size 3 1 (.slice (some ⟨g', 0, none⟩) n cap) n (ks.map (Value.int .i64)) ∧ Below w.heap.size w w' := by
  obtain ⟨i0, hi, hz0, hz1, hz2⟩ := info_parts Try.infoInt
  have Hx := Lib.hid hx
  have Hc := Lib.hid hc
  clear hx hc
  have hnil : ∀ w : World, (binOp .eql 29 (.slice (some ⟨g, 0, none⟩) n c) (.slice none 0 0)).run Try.prog w = .ok (.bool false) w := fun w => Lib.run_eql_slice_nil w _ _ _ _ _ _ _ Try.underlying29
  go_enter Try.func41, Try.ntmps41
  go_wp2_with (at_builtin; go_loud (refine wpList_append_own _ rfl (.tmp 5) (.tmp 6) 29 rfl w.heap.size 3 i0 (.int .i64 0) 1 8 Try.underlying29 hi hz0 hz1 hz2 rfl (by decide) (.slice (some ⟨w.heap.size, 0, none⟩) 0 0) 0 [] rfl ?c0 ⟨g, 0, none⟩ n c (ks.map (Value.int .i64)) rfl (by simp [Hx.out]) ?c1 ?c2 ?c3 ?c4 ?c5 ?_))
  case c0 => exact World.ownsRow_made (base := w.heap.size) (e := 3) (size := 1) w #[] 0 (by simp) (by unfold maxLen; omega) rfl
  case c1 =>
    intro j u hu
    have hj : j < n := by have := (List.getElem?_eq_some_iff.1 hu).1; simp [Hx.out] at this; exact this
    have hadd : (⟨g, 0, none⟩ : Addr).add j = ⟨g, j, none⟩ := by unfold Addr.add; split <;> simp_all
    have e : u = .int .i64 (ks[j]?.getD 0) := by
      have hj' : j < ks.length := by rw [Hx.out]; exact hj
      simp [List.getElem?_map, List.getElem?_eq_getElem hj'] at hu
      simp [hj', hu]
    rw [hadd, e]
    exact ((Below.refl _ w).alloc (Nat.le_refl _) _ |>.cell (by exact hb)).trans (Hc.out j hj)
  case c2 => intro u hu; obtain ⟨x, _, rfl⟩ := List.mem_map.1 hu; rfl
  case c3 => unfold maxLen; omega
  case c4 => omega
  case c5 => simp
  intro v' w1 hown hgrow _
  obtain ⟨g', cap, rfl, _⟩ := owns_some hown hn1
  have hb1 : Below w.heap.size w w1 := ((Below.refl w.heap.size w).alloc (Nat.le_refl _) _).grown hgrow (by simp) (fun k hk => by cases hk; simp)
  clear hgrow
  go_wp2
  go_ret
  exact ⟨g', cap, rfl, hown, hb1⟩
end Go.Proofs.Ytnlbgikhkpalcaa
