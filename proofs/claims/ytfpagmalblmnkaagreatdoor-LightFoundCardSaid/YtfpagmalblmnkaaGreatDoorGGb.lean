/-
  Contracts of the reference's checks of telegrams, for every telegram.
-/
import Derived.Test.YtfpagmalblmnkaaGreatDoorGGa
import Derived.Test.YtfpagmalblmnkaaGreatDoorGFd
import Derived.Test.YtfpagmalblmnkaaGreatDoorGWk
import Derived.Test.YtfpagmalblmnkaaGreatDoorGWx
import Derived.Test.YtfpagmalblmnkaaGreatDoorGWq
import Derived.RowKit
namespace Go.Proofs.YtfpagmalblmnkaaGreatDoor
open Go.RowKit
set_option linter.unusedVariables false
set_option linter.unusedSimpArgs false

theorem rangeErr_or (n lo hi : Int) : (lo ≤ n ∧ n ≤ hi ∧ rangeErr n lo hi = 0) ∨ (¬ (lo ≤ n ∧ n ≤ hi) ∧ rangeErr n lo hi = 3) := by
  by_cases h : lo ≤ n ∧ n ≤ hi
  · exact .inl ⟨h.1, h.2, rangeErr_in h.1 h.2⟩
  · exact .inr ⟨h, rangeErr_out (by omega)⟩
theorem vectorErr_or (x y z : Int) : ((-1048576 ≤ x ∧ x ≤ 1048576) ∧ (-1048576 ≤ y ∧ y ≤ 1048576) ∧ (-1048576 ≤ z ∧ z ≤ 1048576) ∧ vectorErr x y z = 0) ∨
    (¬ ((-1048576 ≤ x ∧ x ≤ 1048576) ∧ (-1048576 ≤ y ∧ y ≤ 1048576) ∧ (-1048576 ≤ z ∧ z ≤ 1048576)) ∧ vectorErr x y z = 3) := by
  unfold vectorErr
  rcases rangeErr_or x (-1048576) 1048576 with ⟨a, b, h1⟩ | ⟨a, h1⟩ <;> rcases rangeErr_or y (-1048576) 1048576 with ⟨a2, b2, h2⟩ | ⟨a2, h2⟩ <;> rcases rangeErr_or z (-1048576) 1048576 with ⟨a3, b3, h3⟩ | ⟨a3, h3⟩ <;> rw [h1, h2, h3] <;> simp only [firstNZ]
  · exact .inl ⟨⟨a, b⟩, ⟨a2, b2⟩, ⟨a3, b3⟩, by simp⟩
  all_goals exact .inr ⟨by omega, by simp⟩
theorem telErr_first (s c o x y z : Int) : firstNZ [rangeErr s 0 255, rangeErr c 0 65535, rangeErr o 0 255, vectorErr x y z] = telErr s c o x y z := by
  by_cases h : GoodT s c o x y z
  · rw [telErr_good h]
    rw [rangeErr_in h.st.1 h.st.2, rangeErr_in h.ct.1 h.ct.2, rangeErr_in h.od.1 h.od.2]
    rcases vectorErr_or x y z with ⟨_, _, _, h4⟩ | ⟨hn, h4⟩
    · rw [h4]; simp [firstNZ]
    · exact absurd ⟨h.vx, h.vy, h.vz⟩ hn
  · rw [telErr_bad h]
    rcases rangeErr_or s 0 255 with ⟨a, b, h1⟩ | ⟨a, h1⟩ <;> rcases rangeErr_or c 0 65535 with ⟨a2, b2, h2⟩ | ⟨a2, h2⟩ <;> rcases rangeErr_or o 0 255 with ⟨a3, b3, h3⟩ | ⟨a3, h3⟩ <;> rcases vectorErr_or x y z with ⟨v1, v2, v3, h4⟩ | ⟨hn, h4⟩ <;> rw [h1, h2, h3, h4] <;> simp only [firstNZ] <;> first | (simp; done) | exact absurd ⟨⟨a, b⟩, ⟨a2, b2⟩, ⟨a3, b3⟩, v1, v2, v3⟩ h

/-- A slice, nil or not, of telegrams. -/
def AnyTels (w : World) (a : Option Addr) (n : Nat) (L : List Tel) : Prop := L.length = n ∧ ∀ j, j < n → ∃ b q, a = some ⟨b, q, none⟩ ∧ b < w.heap.size ∧ TelsAt w b q L
theorem AnyTels.kept {w w' : World} {a : Option Addr} {n : Nat} {L : List Tel} (h : AnyTels w a n L) (hb : Below w.heap.size w w') : AnyTels w' a n L :=
  ⟨h.1, fun j hj => by
    obtain ⟨b, q, e, h1, h2⟩ := h.2 j hj
    exact ⟨b, q, e, Nat.lt_of_lt_of_le h1 hb.size, h2.kept hb h1⟩⟩
noncomputable def Tel.err (t : Tel) : Int := telErr t.s t.c t.o t.x t.y t.z
/-- The first error of telegrams. -/
noncomputable def telsErr (L : List Tel) : Int := firstNZ (L.map Tel.err)
theorem Tel.err_or (t : Tel) : (t.err = 0 ∧ t.Good) ∨ t.err = 3 := by
  by_cases h : t.Good
  · exact .inl ⟨telErr_good h, h⟩
  · exact .inr (telErr_bad h)

end Go.Proofs.YtfpagmalblmnkaaGreatDoor

/-
  Bytes in memory; blocks that lie in a world through calls, allocations and stores.
-/
namespace Go.Proofs.YtfpagmalblmnkaaGreatDoor
open Go.RowKit
set_option linter.unusedVariables false
set_option linter.unusedSimpArgs false

def byteAt (F : List Int) (j : Nat) : Int := F[j]?.getD 0
def BytesV (S : List Int) (n : Nat) : Prop := S.length = n ∧ ∀ v ∈ S, 0 ≤ v ∧ v ≤ 255
def AnyBytes (w : World) (a : Option Addr) (n : Nat) (S : List Int) : Prop := BytesV S n ∧ ∀ j, j < n → ∃ b q, a = some ⟨b, q, none⟩ ∧ b < w.heap.size ∧ w.rangeAt b q (S.map (Value.int .u8))
theorem AnyBytes.kept {w w' : World} {a : Option Addr} {n : Nat} {S : List Int} (h : AnyBytes w a n S) (hb : Below w.heap.size w w') : AnyBytes w' a n S :=
  ⟨h.1, fun j hj => by
    obtain ⟨b, q, e, h1, h2⟩ := h.2 j hj
    exact ⟨b, q, e, Nat.lt_of_lt_of_le h1 hb.size, fun i v hv => by rw [hb.cell (by exact h1)]; exact h2 i v hv⟩⟩

/-- These blocks lie so, and nothing below has changed. -/
def Kp (w w' : World) (l : List (Nat × Obj)) : Prop := Below w.heap.size w w' ∧ ∀ p ∈ l, w'.heap[p.1]? = some p.2
theorem Kp.none (w : World) : Kp w w [] := ⟨Below.refl _ _, fun p h => nomatch h⟩
theorem Kp.call {w w1 w2 : World} {l : List (Nat × Obj)} (h : Kp w w1 l) (hb : Below w1.heap.size w1 w2) : Kp w w2 l :=
  ⟨h.1.trans (hb.mono h.1.size), fun p hp => (hb.block _ (lt_of_blk (h.2 p hp))).trans (h.2 p hp)⟩
theorem Kp.kept {w w1 w2 : World} {l : List (Nat × Obj)} (h : Kp w w1 l) (hb : Below w.heap.size w w2) (hq : ∀ p ∈ l, w2.heap[p.1]? = w1.heap[p.1]?) : Kp w w2 l :=
  ⟨hb, fun p hp => (hq p hp).trans (h.2 p hp)⟩
theorem Kp.alloc {w w1 : World} {l : List (Nat × Obj)} (h : Kp w w1 l) (o : Obj) : Kp w (w1.alloc o) ((w1.heap.size, o) :: l) :=
  ⟨h.1.alloc h.1.size o, fun p hp => by
    rcases List.mem_cons.1 hp with rfl | hp
    · exact blk_alloc_new _ _
    · exact blk_alloc_other (h.2 p hp) o⟩
theorem Kp.setHead {w w1 : World} {l : List (Nat × Obj)} {g : Nat} {cur : Array Value} {T : TypeId} (h : Kp w w1 ((g, .cells cur T (0, 0)) :: l)) (cs : Array Value) (hg : w.heap.size ≤ g) (hne : ∀ p ∈ l, p.1 ≠ g) :
    Kp w (w1.setRow g cs) ((g, .cells cs T (0, 0)) :: l) :=
  ⟨h.1.trans ((OnlyBlk.setRow w1 g cs).below h.1.size hg), fun p hp => by
    rcases List.mem_cons.1 hp with rfl | hp
    · exact setRow_heap w1 _ _ _ _ _ (h.2 _ (.head _))
    · exact ((OnlyBlk.setRow w1 g cs).1.block _ (lt_of_blk (h.2 p (.tail _ hp))) (by intro e; exact hne p hp (Option.some.inj e))).trans (h.2 p (.tail _ hp))⟩

theorem Kp.stored {w w1 : World} {l : List (Nat × Obj)} (h : Kp w w1 l) (cur cs : Array Value) (T : TypeId) : Kp w ((w1.alloc (.cells cur T)).setRow w1.heap.size cs) ((w1.heap.size, .cells cs T) :: l) :=
  (h.alloc (.cells cur T)).setHead cs h.1.size (fun p hp => Nat.ne_of_lt (lt_of_blk (h.2 p hp)))

/-- A row of bytes is a slice of bytes. -/
theorem AnyBytes.of_row {w : World} {B n : Nat} {v : Value} {S : List Int} (hS : BytesV S n) (h : w.ownsRow B 5 1 v n (S.map (Value.int .u8))) :
    ∃ a c, v = .slice a n c ∧ n ≤ c ∧ c ≤ 9223372036854775807 ∧ AnyBytes w a n S := by
  rcases h.2 with ⟨rfl, rfl⟩ | ⟨g, cap, cur, rfl, hb, hg, h1, h2, _⟩
  · exact ⟨none, 0, rfl, Nat.le_refl _, by omega, hS, fun j hj => absurd hj (by omega)⟩
  · exact ⟨_, _, rfl, h1, by unfold maxLen at h2; omega, hS, fun j hj => ⟨g, 0, rfl, lt_of_blk hg, fun i u hu => by
      have h3 := h.cells (g := g) rfl i u hu
      rwa [Addr.add_mid] at h3⟩⟩
theorem Kp.below {w w1 : World} {l : List (Nat × Obj)} (h : Kp w w1 l) : Below w.heap.size w w1 := h.1
end Go.Proofs.YtfpagmalblmnkaaGreatDoor

/-
  Contracts of Decode for any 24 bytes, and of telegramAt at any place of any stream.
-/
namespace Go.Proofs.YtfpagmalblmnkaaGreatDoor
open Go.RowKit
set_option linter.unusedVariables false
set_option linter.unusedSimpArgs false

/-- The telegram that bytes would be. -/
def telOf (F : List Int) : Tel := ⟨byteAt F 1, numOf [byteAt F 2, byteAt F 3], byteAt F 4, numOf [byteAt F 5, byteAt F 6, byteAt F 7, byteAt F 8] - 1048576, numOf [byteAt F 9, byteAt F 10, byteAt F 11, byteAt F 12] - 1048576, numOf [byteAt F 13, byteAt F 14, byteAt F 15, byteAt F 16] - 1048576⟩
def Tel.tail (t : Tel) : List Int := tail7 t.s t.c t.o t.x t.y t.z
def Tel.agg (t : Tel) : Value := .agg #[.int .i64 t.s, .int .i64 t.c, .int .i64 t.o, .int .i64 t.x, .int .i64 t.y, .int .i64 t.z]
noncomputable def decErr (F : List Int) : Int := if byteAt F 0 ≠ 77 then 1 else if F.drop 17 ≠ (telOf F).tail then 27 else (telOf F).err
noncomputable def decTel (F : List Int) : Tel := if decErr F = 0 then telOf F else tel0
def Bytes24 (F : List Int) : Prop := F.length = 24 ∧ ∀ v ∈ F, 0 ≤ v ∧ v ≤ 255
theorem list24 {F : List Int} (h : F.length = 24) : ∃ f0 f1 f2 f3 f4 f5 f6 f7 f8 f9 f10 f11 f12 f13 f14 f15 f16 R, F = f0 :: ([f1, f2, f3, f4, f5, f6, f7, f8, f9, f10, f11, f12, f13, f14, f15, f16] ++ R) ∧ R.length = 7 := by
  match F, h with
  | [f0, f1, f2, f3, f4, f5, f6, f7, f8, f9, f10, f11, f12, f13, f14, f15, f16, a, b, c, d, e, f, g], _ => exact ⟨f0, f1, f2, f3, f4, f5, f6, f7, f8, f9, f10, f11, f12, f13, f14, f15, f16, [a, b, c, d, e, f, g], rfl, rfl⟩
/-- Bytes that begin with the mark are those of their telegram. -/
theorem raw_telOf (F : List Int) (h : Bytes24 F) (h0 : byteAt F 0 = 77) :
    F = rawF (telOf F).s (telOf F).c (telOf F).o (telOf F).x (telOf F).y (telOf F).z (F.drop 17) ∧ (F.drop 17).length = 7 ∧ FitT (telOf F).s (telOf F).c (telOf F).o (telOf F).x (telOf F).y (telOf F).z := by
  obtain ⟨hl, hb⟩ := h
  obtain ⟨f0, f1, f2, f3, f4, f5, f6, f7, f8, f9, f10, f11, f12, f13, f14, f15, f16, R, rfl, hR⟩ := list24 hl
  obtain rfl : f0 = 77 := h0
  obtain ⟨e1, e2⟩ := raw_of f1 f2 f3 f4 f5 f6 f7 f8 f9 f10 f11 f12 f13 f14 f15 f16 R (fun v hv => hb v (by
    refine List.mem_cons_of_mem _ (List.mem_append_left _ hv)))
  refine ⟨?_, by simpa using hR, e2⟩
  exact e1

theorem decode_all (F : List Int) (h : Bytes24 F) (w : World) :
    Calls Tryz.prog 33 #[.agg (F.map (Value.int .u8)).toArray] w fun e w' => e = .returned (.tuple #[(decTel F).agg, .int .i64 (decErr F)]) ∧ Below w.heap.size w w' := by
  by_cases h0 : byteAt F 0 = 77
  · obtain ⟨e1, hR, hf⟩ := raw_telOf F h h0
    by_cases hT : F.drop 17 = (telOf F).tail
    · have hE : decErr F = (telOf F).err := by unfold decErr; rw [if_neg (by simp [h0]), if_neg (by simp [hT])]
      have eF : F = frame (telOf F).s (telOf F).c (telOf F).o (telOf F).x (telOf F).y (telOf F).z := by
        rw [frame_raw]
        have e2 : rawF (telOf F).s (telOf F).c (telOf F).o (telOf F).x (telOf F).y (telOf F).z (F.drop 17) = rawF (telOf F).s (telOf F).c (telOf F).o (telOf F).x (telOf F).y (telOf F).z (tail7 (telOf F).s (telOf F).c (telOf F).o (telOf F).x (telOf F).y (telOf F).z) := by rw [hT]; rfl
        exact e1.trans e2
      unfold decTel
      rw [hE]
      by_cases hg : (telOf F).Good
      · have e0 : (telOf F).err = 0 := telErr_good hg
        rw [e0, if_pos rfl]
        have hd := decode_any _ _ _ _ _ _ hg w
        rw [← eF] at hd
        exact hd
      · have e0 : (telOf F).err = 3 := telErr_bad hg
        rw [e0, if_neg (by decide)]
        have hd := decode_range _ _ _ _ _ _ hf hg w
        rw [← eF] at hd
        exact hd
    · have hE : decErr F = 27 := by unfold decErr; rw [if_neg (by simp [h0]), if_pos hT]
      unfold decTel
      rw [hE, if_neg (by decide)]
      have hd := decode_check _ _ _ _ _ _ (F.drop 17) hR hT hf w
      rw [← e1] at hd
      exact hd
  · have hE : decErr F = 1 := by unfold decErr; rw [if_pos h0]
    unfold decTel
    rw [hE, if_neg (by decide)]
    exact decode_form F h.1 h0 w

set_option maxRecDepth 100000 in
set_option maxHeartbeats 3200000 in
theorem telegramAt_end (a : Option Addr) (n cp k : Nat) (hk : k ≤ n) (hn : n ≤ 12288) (h : n < k + 24) (w : World) :
    Calls Tryz.prog 99 #[.slice a n cp, .int .i64 k] w fun e w' => e = .returned (.tuple #[tel0.agg, .bool false]) ∧ Below w.heap.size w w' := by
  have i1 : (n : Int) - (k : Int) < 24 := by omega
  have i2 : (n : Int) ≤ 12288 := by omega
  have i3 : (k : Int) ≤ (n : Int) := by omega
  have r2 : (w.alloc (.cells #[.int .i64 0, .int .i64 0, .int .i64 0, .int .i64 0, .int .i64 0, .int .i64 0] 79)).heap[w.heap.size]? = some (.cells #[.int .i64 0, .int .i64 0, .int .i64 0, .int .i64 0, .int .i64 0, .int .i64 0] 79 (0, 0)) := heap_alloc_new w _
  have HB : Hid (Below w.heap.size w (w.alloc (.cells #[.int .i64 0, .int .i64 0, .int .i64 0, .int .i64 0, .int .i64 0, .int .i64 0] 79))) := Lib.hid ((Below.refl _ w).alloc (Nat.le_refl _) _)
  obtain ⟨W1, hW1⟩ : ∃ W1, (w.alloc (.cells #[.int .i64 0, .int .i64 0, .int .i64 0, .int .i64 0, .int .i64 0, .int .i64 0] 79)) = W1 := ⟨_, rfl⟩
  rw [hW1] at r2 HB
  have R2 := Lib.hid r2
  clear r2
  go_enter Tryz.func99, Tryz.ntmps99
  go_upto_region 1 with fail
  try rw [hW1]
  clear hW1
  go_wp2_with (refine wpList_store_row rfl 79 (.tmp 4) (.tmp 14) rfl w.heap.size rfl _ rfl 79 _ R2.out ?i2 ?i3 ?i4 ?_)
  case i2 => rfl
  case i3 => kernel_rfl
  case i4 => first | exact ⟨rfl, rfl, rfl, rfl, rfl, rfl⟩ | exact rfl | simp
  go_wp2
  refine bodyPost_ret (results_row_tmp Tryz.results99 _ _ w.heap.size 79 _ (0, 0) _ rfl (setRow_heap W1 _ _ _ _ _ R2.out) Tryz.underlying79 rfl (by kernel_rfl)) rfl ⟨rfl, ?_⟩
  exact HB.out.trans ((OnlyBlk.setRow W1 w.heap.size _).below HB.out.size (by omega))

set_option maxRecDepth 100000 in
set_option maxHeartbeats 3200000 in
theorem telegramAt_raw (F : List Int) (hF : F.length = 24) (s c o x y z r : Int) (ok : Bool) (hok : (r == 0) = ok) (hK : ∀ w : World, Calls Tryz.prog 33 #[.agg (F.map (Value.int .u8)).toArray] w fun e w' => e = .returned (.tuple #[.agg #[.int .i64 s, .int .i64 c, .int .i64 o, .int .i64 x, .int .i64 y, .int .i64 z], .int .i64 r]) ∧ Below w.heap.size w w') (b q n cp : Nat) (k : Nat) (hk : k + 24 ≤ n) (hn : n ≤ 12288) (hcp : n ≤ cp) (hcq : cp ≤ 9223372036854775807) (w : World) (hb : b < w.heap.size)
    (hc : w.rangeAt b (q + k) ((F).map (Value.int .u8))) :
    Calls Tryz.prog 99 #[.slice (some ⟨b, q, none⟩) n cp, .int .i64 k] w fun e w' =>
      e = .returned (.tuple #[.agg #[.int .i64 s, .int .i64 c, .int .i64 o, .int .i64 x, .int .i64 y, .int .i64 z], .bool ok]) ∧ Below w.heap.size w w' := by
  have K1 := Lib.hid hK
  clear hK
  obtain ⟨V, hV⟩ : ∃ V, ((F).map (Value.int .u8)) = V := ⟨_, rfl⟩
  have V24 : V.length = 24 := by rw [← hV]; simp [hF]
  have V1 : ∀ v ∈ V, v.oneCell' = true := by
    rw [← hV]; intro v hv
    obtain ⟨u, _, rfl⟩ := List.mem_map.1 hv
    rfl
  rw [hV] at K1 hc
  have HC := Lib.hid hc
  clear hV hc
  have i1 : ((k : Int) + 24 ≤ (n : Int)) := by omega
  have i2 : ((n : Int) ≤ (cp : Int)) := by omega
  have i3 : ((n : Int) ≤ 12288) := by omega
  have i4 : ((k : Int) ≤ (n : Int)) := by omega
  have i5 : k ≤ n := by omega
  have i6 : (0 : Int) ≤ (k : Int) := by omega
  have i7 : ((k : Int) ≤ (cp : Int)) := by omega
  go_enter Tryz.func99, Tryz.ntmps99
  go_wp2_with fail
  obtain ⟨W2, hW2⟩ : ∃ W2, ((w.alloc (.cells #[.int .i64 0, .int .i64 0, .int .i64 0, .int .i64 0, .int .i64 0, .int .i64 0] 79)).alloc (.cells ((List.replicate 24 (Value.int .u8 0)).toArray) 80)) = W2 := ⟨_, rfl⟩
  have z2 : W2.heap.size = w.heap.size + 2 := by rw [← hW2]; simp
  have hB2 : Below w.heap.size w W2 := by rw [← hW2]; exact (((Below.refl _ w).alloc (Nat.le_refl _) _).alloc (by simp) _)
  have r0 : W2.heap[w.heap.size]? = some (.cells #[.int .i64 0, .int .i64 0, .int .i64 0, .int .i64 0, .int .i64 0, .int .i64 0] 79 (0, 0)) := by
    rw [← hW2, Below.heap_alloc _ _ _ (by simp)]
    exact heap_alloc_new w _
  have r1 : W2.heap[w.heap.size + 1]? = some (.cells ((List.replicate 24 (Value.int .u8 0)).toArray) 80 (0, 0)) := by
    rw [← hW2]
    exact heap_alloc2_new w _ _
  simp only [List.replicate] at hW2
  rw [hW2]
  clear hW2
  obtain ⟨W3, hW3⟩ : ∃ W3, W2.drew = W3 := ⟨_, rfl⟩
  have hcp' : (Builtin.copy_ #[71, 71] 3 #[.slice (some ⟨w.heap.size + 1, 0, none⟩) 24 24, .slice (some ⟨b, q + k, none⟩) (n - k) (cp - k)]).run Tryz.prog W2.drew = .ok (goInt 24) (W2.drew.setRow (w.heap.size + 1) V.toArray) := by
    have e := run_copy_row (P := Tryz.prog) W2.drew 71 71 3 5 (w.heap.size + 1) 0 24 24 ⟨b, q + k, none⟩ (n - k) (cp - k) _ 80 V Tryz.underlying71 (by kernel_rfl) (show W2.drew.heap[w.heap.size + 1]? = _ from r1)
      (by rw [V24]; show 24 = Nat.min (n - k) 24; simp only [Nat.min_def]; split <;> omega)
      (fun j v hv => by rw [Addr.add_mid]; exact (hB2.cell (w' := W2) hb).trans (HC.out j v hv)) (by simp [V24]) V1
    rw [V24] at e
    simpa [V24] using e
  refine wp_region_still_tail 4 (by kernel_rfl) (by kernel_rfl) ?_
  simp only [List.take_succ_cons, List.take_zero, List.drop_succ_cons, List.drop_zero]
  change wpStill _ _ W2.drew (fun a' => wpList _ _ _ _ a' W2.drew) _ _
  rw [hW3] at hcp' ⊢
  have HW3 := Lib.hid hW3
  have R0 := Lib.hid r0
  have R1 := Lib.hid r1
  have HB2 := Lib.hid hB2
  clear hW3 r0 r1 hB2
  repeat still_step
  refine wpStill_nil ?_
  have R3 := Lib.hid (setRow_heap W3 (w.heap.size + 1) _ V.toArray _ _ (by rw [← HW3.out]; exact R1.out : W3.heap[w.heap.size + 1]? = _))
  have Q3 : Hid ((W3.setRow (w.heap.size + 1) V.toArray).heap[w.heap.size]? = some (.cells #[.int .i64 0, .int .i64 0, .int .i64 0, .int .i64 0, .int .i64 0, .int .i64 0] 79 (0, 0))) := Lib.hid (by
    rw [setRow_other W3 _ _ _ (by omega), ← HW3.out]; exact R0.out)
  have HB3 : Hid (Below w.heap.size w (W3.setRow (w.heap.size + 1) V.toArray)) := Lib.hid (by
    have e : Below w.heap.size w W3 := by rw [← HW3.out]; exact HB2.out.drew
    exact e.trans ((OnlyBlk.setRow W3 (w.heap.size + 1) _).below e.size (by omega)))
  have Z3 : w.heap.size + 2 ≤ (W3.setRow (w.heap.size + 1) V.toArray).heap.size := by rw [← HW3.out]; simp [z2]
  have hi36 : (Tryz.prog.info? 80).map (·.size) = some V.toArray.size := by rw [size24]; simp [V24]
  obtain ⟨W4, hW4⟩ : ∃ W4, W3.setRow (w.heap.size + 1) V.toArray = W4 := ⟨_, rfl⟩
  rw [hW4] at hcp' R3 Q3 HB3 Z3
  clear hW4 z2
  go_wp2_with (first
    | (refine wpList_load_row rfl 80 (.tmp 6) rfl (w.heap.size + 1) rfl 80 _ (0, 0) _ R3.out Tryz.underlying80 rfl hi36 ?_)
    | (refine wpList_store_row rfl 79 (.tmp 4) (.tmp 25) rfl w.heap.size rfl _ rfl 79 _ Q4.out ?i2 ?i3 ?i4 ?_)
    | ((go_at_call 33; refine (K1.out _).mono ?_; rintro e w4 ⟨rfl, hb4⟩
        have hs4 := hb4.size
        have Q4 : Hid ((w4.alloc (.cells #[.int .i64 s, .int .i64 c, .int .i64 o, .int .i64 x, .int .i64 y, .int .i64 z] 79)).heap[w.heap.size]? = some (.cells #[.int .i64 0, .int .i64 0, .int .i64 0, .int .i64 0, .int .i64 0, .int .i64 0] 79 (0, 0))) := Lib.hid (by
          rw [Below.heap_alloc _ _ _ (by omega), hb4.block _ (by omega)]; exact Q3.out)
        have HB4 := Lib.hid ((HB3.out.trans (hb4.mono (by omega))).alloc (by omega) (.cells #[.int .i64 s, .int .i64 c, .int .i64 o, .int .i64 x, .int .i64 y, .int .i64 z] 79))
        clear hb4)))
  case i2 => rfl
  case i3 => kernel_rfl
  case i4 => exact ⟨rfl, rfl, rfl, rfl, rfl, rfl⟩
  go_wp2
  refine bodyPost_ret (results_row_tmp Tryz.results99 _ _ w.heap.size 79 _ (0, 0) _ rfl (setRow_heap _ _ _ _ _ _ Q4.out) Tryz.underlying79 rfl (by kernel_rfl)) rfl ⟨rfl, ?_⟩
  exact HB4.out.trans ((OnlyBlk.setRow _ w.heap.size _).below HB4.out.size (by omega))

def streamAt (S : List Int) (k : Nat) : List Int := (S.drop k).take 24
noncomputable def okAt (S : List Int) (n k : Nat) : Bool := if k + 24 ≤ n then (decErr (streamAt S k) == 0) else false
noncomputable def telAt (S : List Int) (n k : Nat) : Tel := if k + 24 ≤ n then decTel (streamAt S k) else tel0
theorem streamAt_bytes {S : List Int} {n k : Nat} (h : BytesV S n) (hk : k + 24 ≤ n) : Bytes24 (streamAt S k) := by
  refine ⟨by unfold streamAt; rw [List.length_take, List.length_drop, h.1]; omega, fun v hv => h.2 v (List.mem_of_mem_drop (List.mem_of_mem_take hv))⟩

theorem telegramAt_all (S : List Int) (b q n cp k : Nat) (hS : BytesV S n) (hk : k ≤ n) (hn : n ≤ 12288) (hcp : n ≤ cp) (hcq : cp ≤ 9223372036854775807) (w : World) (hb : b < w.heap.size) (hc : w.rangeAt b q (S.map (Value.int .u8))) :
    Calls Tryz.prog 99 #[.slice (some ⟨b, q, none⟩) n cp, .int .i64 k] w fun e w' => e = .returned (.tuple #[(telAt S n k).agg, .bool (okAt S n k)]) ∧ Below w.heap.size w w' := by
  by_cases h : k + 24 ≤ n
  · have hF := streamAt_bytes hS h
    unfold telAt okAt
    rw [if_pos h, if_pos h]
    refine telegramAt_raw (streamAt S k) hF.1 _ _ _ _ _ _ (decErr (streamAt S k)) _ rfl (fun w => decode_all _ hF w) b q n cp k h hn hcp hcq w hb ?_
    intro j v hv
    have hj : j < 24 := by
      have := (List.getElem?_eq_some_iff.1 hv).1
      rw [List.length_map, hF.1] at this
      exact this
    have h2 := hc (k + j) v (by
      rw [← hv, List.getElem?_map, List.getElem?_map]
      unfold streamAt
      rw [List.getElem?_take_of_lt hj, List.getElem?_drop])
    rw [show q + k + j = q + (k + j) by omega]
    exact h2
  · unfold telAt okAt
    rw [if_neg h, if_neg h]
    exact telegramAt_end _ n cp k hk hn (by omega) w
end Go.Proofs.YtfpagmalblmnkaaGreatDoor

/-
  Plain mathematics of spreading: neighbours, what each place gives; no program.
-/
namespace Go.Proofs.YtfpagmalblmnkaaGreatDoor
open Go.RowKit

/-- The four neighbours' distances, in their order. -/
def dirsL : List (Int × Int) := [(-1, 0), (1, 0), (0, -1), (0, 1)]
def insideB (W H : Nat) (q : Int × Int) : Bool := decide (0 ≤ q.1) && (decide (q.1 < W) && (decide (0 ≤ q.2) && decide (q.2 < H)))
/-- The neighbours of a place, of the first k distances. -/
def nbrsTo (W H : Nat) (x y : Int) (k : Nat) : List (Int × Int) := ((dirsL.take k).map (fun d => (x + d.1, y + d.2))).filter (insideB W H)
theorem nbrsTo_succ (W H : Nat) (x y : Int) (k : Nat) (hk : k < 4) : nbrsTo W H x y (k + 1) = if insideB W H (x + (dirsL[k]?.getD (0, 0)).1, y + (dirsL[k]?.getD (0, 0)).2) = true then nbrsTo W H x y k ++ [(x + (dirsL[k]?.getD (0, 0)).1, y + (dirsL[k]?.getD (0, 0)).2)] else nbrsTo W H x y k := by
  have hl : k < dirsL.length := hk
  rw [nbrsTo, List.take_succ_eq_append_getElem hl, List.getElem?_eq_getElem hl]
  simp only [nbrsTo, List.map_append, List.filter_append, List.map_cons, List.map_nil, List.filter_cons, List.filter_nil, Option.getD_some]
  split <;> simp
theorem nbrsTo_len (W H : Nat) (x y : Int) (k : Nat) : (nbrsTo W H x y k).length ≤ 4 := by
  refine Nat.le_trans (List.length_filter_le _ _) ?_
  simp [dirsL]; omega
theorem nbrs_in {W H : Nat} {x y : Int} {k : Nat} {q : Int × Int} (h : q ∈ nbrsTo W H x y k) : 0 ≤ q.1 ∧ q.1 < W ∧ 0 ≤ q.2 ∧ q.2 < H := by
  have := (List.mem_filter.1 h).2
  simpa [insideB] using this
/-- The index of a place. -/
def idx (W : Nat) (q : Int × Int) : Nat := (q.2 * W + q.1).toNat
def addAt (cs : List Int) (j : Nat) (d : Int) : List Int := cs.set j (cs[j]?.getD 0 + d)
/-- What a place gives to one neighbour. -/
def give1 (W j : Nat) (gift : Int) (cs : List Int) (q : Int × Int) : List Int := addAt (addAt cs j (-gift)) (idx W q) gift
def giveTo (W j : Nat) (gift : Int) (qs : List (Int × Int)) (cs : List Int) : List Int := qs.foldl (give1 W j gift) cs
theorem give_len (W j : Nat) (gift : Int) (qs : List (Int × Int)) : ∀ cs : List Int, (giveTo W j gift qs cs).length = cs.length := by
  induction qs with
  | nil => intro cs; rfl
  | cons q qs ih => intro cs; show (giveTo W j gift qs (give1 W j gift cs q)).length = _; rw [ih]; simp [give1, addAt]
/-- A place's round. -/
def round1 (W H : Nat) (share : Int) (ks : List Int) (cs : List Int) (p : Nat × Nat) : List Int :=
  giveTo W (p.2 * W + p.1) (ks[p.2 * W + p.1]?.getD 0 * share / 16) (nbrsTo W H p.1 p.2 4) cs
def roundsTo (W H : Nat) (share : Int) (ks : List Int) (ps : List (Nat × Nat)) : List Int := ps.foldl (round1 W H share ks) ks
theorem roundsTo_snoc (W H : Nat) (share : Int) (ks : List Int) (ps : List (Nat × Nat)) (p : Nat × Nat) : roundsTo W H share ks (ps ++ [p]) = round1 W H share ks (roundsTo W H share ks ps) p := by
  simp [roundsTo]
theorem roundsTo_len (W H : Nat) (share : Int) (ks : List Int) (ps : List (Nat × Nat)) : (roundsTo W H share ks ps).length = ks.length := by
  suffices ∀ cs : List Int, (ps.foldl (round1 W H share ks) cs).length = cs.length from this ks
  induction ps with
  | nil => intro cs; rfl
  | cons p ps ih => intro cs; rw [List.foldl_cons, ih]; exact give_len _ _ _ _ _
/-- No integer of a list is greater than a bound. -/
def Within (cs : List Int) (M : Nat) : Prop := ∀ j : Nat, ((cs[j]?.getD 0 : Int)).natAbs ≤ M
theorem Within.add {cs : List Int} {M G : Nat} (h : Within cs M) (j : Nat) (d : Int) (hd : d.natAbs ≤ G) : Within (addAt cs j d) (M + G) := fun i => by
  unfold addAt
  rw [List.getElem?_set]
  split
  · split
    · rename_i h1 h2; have := h j; simp only [Option.getD_some]; omega
    · simp
  · exact Nat.le_trans (h i) (by omega)
theorem Within.give {W j : Nat} {gift : Int} {G : Nat} (hg : gift.natAbs ≤ G) (qs : List (Int × Int)) : ∀ {cs : List Int} {M : Nat}, Within cs M → Within (giveTo W j gift qs cs) (M + 2 * G * qs.length) := by
  induction qs with
  | nil => intro cs M h; simpa [giveTo] using h
  | cons q qs ih =>
    intro cs M h
    have h1 : Within (give1 W j gift cs q) (M + G + G) := (h.add j (-gift) (by omega)).add _ gift hg
    have h2 := ih h1
    have e : M + G + G + 2 * G * qs.length = M + 2 * G * (q :: qs).length := by rw [List.length_cons, Nat.mul_succ]; omega
    rw [e] at h2; exact h2
theorem Within.mono {cs : List Int} {M N : Nat} (h : Within cs M) (hn : M ≤ N) : Within cs N := fun j => Nat.le_trans (h j) hn
theorem gift_bd {k share : Int} (hk : k.natAbs ≤ 16384) (h0 : 0 ≤ share) (h1 : share ≤ 4) : (k * share / 16).natAbs ≤ 4097 ∧ -65536 ≤ k * share ∧ k * share ≤ 65536 := by
  have a : k * share ≤ 16384 * 4 := by
    rcases (show share = 0 ∨ share = 1 ∨ share = 2 ∨ share = 3 ∨ share = 4 by omega) with h | h | h | h | h <;> subst h <;> omega
  have b : -(16384 * 4) ≤ k * share := by
    rcases (show share = 0 ∨ share = 1 ∨ share = 2 ∨ share = 3 ∨ share = 4 by omega) with h | h | h | h | h <;> subst h <;> omega
  omega
theorem roundsTo_bd {W H : Nat} {share : Int} {ks : List Int} (hk : Within ks 16384) (h0 : 0 ≤ share) (h1 : share ≤ 4) (ps : List (Nat × Nat)) : Within (roundsTo W H share ks ps) (16384 + 32776 * ps.length) := by
  suffices ∀ (cs : List Int) (M : Nat), Within cs M → Within (ps.foldl (round1 W H share ks) cs) (M + 32776 * ps.length) from this ks _ hk
  induction ps with
  | nil => intro cs M h; simpa using h
  | cons p ps ih =>
    intro cs M h
    have h2 : Within (round1 W H share ks cs p) (M + 32776) := (h.give (gift_bd (hk _) h0 h1).1 _).mono (by have := nbrsTo_len W H p.1 p.2 4; have e : 2 * 4097 * (nbrsTo W H p.1 p.2 4).length ≤ 2 * 4097 * 4 := Nat.mul_le_mul (Nat.le_refl _) this; omega)
    have h3 := ih _ _ h2
    rw [List.foldl_cons]
    exact h3.mono (by rw [List.length_cons, Nat.mul_succ]; omega)
end Go.Proofs.YtfpagmalblmnkaaGreatDoor
